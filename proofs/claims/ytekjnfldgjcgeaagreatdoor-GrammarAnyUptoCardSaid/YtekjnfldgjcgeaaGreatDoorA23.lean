/- Part 23 of what the laws of the grammar rest on. -/
import Derived.Test.YtekjnfldgjcgeaaGreatDoorA20
import Derived.Test.YtekjnfldgjcgeaaGreatDoorA22
set_option linter.all false
set_option maxRecDepth 100000
set_option maxHeartbeats 8000000
namespace Go.Proofs.YtekjnfldgjcgeaaGreatDoor
open Go.RowKit
def zwd (X:XV) (w:World) (e:Ending) (w':World):Prop :=
 ∃ v,e=.returned v/\Below w.heap.size w w'/\((X.kind=1/\v=X.ks)\/(X.kind≠1/\∃ g,v=.slice (some ⟨g,0,none⟩) 1 1/\w.heap.size<=g/\BoxX w' g X))
theorem zj6 {w:World} {k lo hi:Int} {tx:ByteArray} {a1 a2:Option Addr} {n1 n2 c1 c2:Nat} :
  Calls Tryz.prog 43 #[.agg #[.int .i64 k,.string tx,.slice a1 n1 c1,.int .i64 lo,.int .i64 hi,.slice a2 n2 c2]] w (zwd ⟨k,tx,.slice a1 n1 c1,lo,hi,.slice a2 n2 c2⟩ w):=by
 by_cases hk:k=1
 ·subst hk
  go_enter Tryz.func43,Tryz.ntmps43
  go_wp2_with fail
  go_ret
  exact ⟨_,rfl,by go_grown,.inl ⟨rfl,rfl⟩⟩
 ·have hk5:(k==1)=false:=by simpa using hk
  go_enter Tryz.func43,Tryz.ntmps43
  go_wp2_with fail
  go_ret
  refine ⟨_,rfl,by go_grown,.inr ⟨hk,w.heap.size+1,rfl,by omega,?_⟩⟩
  have h:=heap_alloc_new (w.alloc (xobj k lo hi tx (.slice a1 n1 c1) (.slice a2 n2 c2))) (xobj k lo hi tx (.slice a1 n1 c1) (.slice a2 n2 c2))
  rw [World.size_alloc] at h
  exact h
theorem zfb {w:World} {ops:Array Oper} {rest:List Oper} {o:Oper} {a:Act} {Q:Exit->Act->World->Prop} (hgd:o.guard=none) (sx xx:Operand)
  (ho:o.op=.call { callee:=.builtin .append,args:=#[sx,xx],argTypes:=#[33,33] }) (base:Nat) (v x:Value) (vs vs2:List XV) (hs:a.eval sx=v) (hx:a.eval xx=x)
  (h:w.ownsRow base 35 6 v vs.length (vs.flatMap XV.cells)) (h2:RowAny w x vs2.length (vs2.flatMap XV.cells)) (h0:0<vs2.length) (h1:∀ u∈vs2.flatMap XV.cells,u.oneCell'=true) (hle:vs.length+vs2.length<=100000000) (hbase:base<=w.heap.size)
  (K:∀ v' w',w'.ownsRow base 35 6 v' (vs++vs2).length ((vs++vs2).flatMap XV.cells)->w.grownBy w' v.ownBlock->(v'.ownBlock=v.ownBlock\/v'.ownBlock=some w.heap.size)->wpList Tryz.prog ops Q rest (a.put o.dst v') w'):wpList Tryz.prog ops Q (o::rest) a w:=by
 obtain ⟨i0,hi0,hz0,hz1,hz2⟩:=info_parts zjt
 rcases h2 with ⟨h3,_⟩ | ⟨g,off,cap,rfl,g1,g2,g3,g4⟩
 ·omega
 ·refine wpList_append_own_at _ hgd sx xx 33 ho base 35 i0 _ 6 88 Tryz.underlying33 hi0 hz0 hz1 hz2 rfl (by decide) v vs.length (vs.flatMap XV.cells) hs h ⟨g,off,none⟩ vs2.length cap (vs2.flatMap XV.cells) hx (ziu vs2) (fun j u hj=>?_) h1 (by unfold maxLen;omega) (by omega) hbase ?_
  ·have e:(⟨g,off,none⟩:Addr).add j=⟨g,off+j,none⟩:=by cases j<;>simp [Addr.add]
   rw [e]
   exact g4 j u hj
  ·intro v' w' hown hgrow _ hat
   exact K v' w' (by rw [List.length_append,List.flatMap_append];exact hown) hgrow hat
theorem ETree.alts {W:World} {X:XV} {t:Tree} (h:ETree W X t) (h2:X.kind=1->∃ k x ns lo hi kids,t=Tree.mk k x ns lo hi kids/\0<kids.length) :
  ∃ vs:List XV,vs.length=(zbt t).length/\0<vs.length/\(∀ (i:Nat) (y:XV) (u:Tree),vs[i]?=some y->(zbt t)[i]?=some u->ETree W y u)/\((X.kind=1/\RowAny W X.ks vs.length (vs.flatMap XV.cells))\/(X.kind≠1/\vs=[X])):=by
 obtain ⟨x,ns,kids,vs,rfl,htx,hto,h3,h4,h5,h6⟩:=h.forms
 by_cases hk:X.kind=1
 ·have e:zbt (.mk X.kind x ns X.lo X.hi kids)=kids:=by show (if X.kind=1 then _ else _)=_;rw [if_pos hk]
  obtain ⟨_,_,_,_,_,kids',e',hpos⟩:=h2 hk
  injection e' with _ _ _ _ _ e'
  subst e'
  exact ⟨vs,by rw [e];exact h5,by omega,fun i y u hy hu=>h6 i y u hy (by rwa [e] at hu),.inl ⟨hk,by rw [h5];exact h4⟩⟩
 ·have e:zbt (.mk X.kind x ns X.lo X.hi kids)=[.mk X.kind x ns X.lo X.hi kids]:=by show (if X.kind=1 then _ else _)=_;rw [if_neg hk]
  refine ⟨[X],by rw [e];rfl,by simp,fun i y u hy hu=>?_,.inr ⟨hk,rfl⟩⟩
  rw [e] at hu
  cases i with
  | zero =>
   simp at hy hu
   subst hy hu
   exact h
  | succ i=>simp at hy
theorem zrp {w:World} {a:Option Addr} {n c:Nat}:Calls Tryz.prog 52 #[.slice a n c] w (fun e w'=>e=.returned (.agg #[.int .i64 1,.string ⟨#[]⟩,.slice none 0 0,.int .i64 0,.int .i64 0,.slice a n c])/\Below w.heap.size w w'):=by
 have HRES:=hh9 (zav w)
 have hb:Below w.heap.size w ((w.alloc (.cells #[.int .i64 0,.string ⟨#[]⟩,.slice none 0 0,.int .i64 0,.int .i64 0,.slice none 0 0] 35)).setRow w.heap.size (XV.arr ⟨1,⟨#[]⟩,.slice none 0 0,0,0,.slice a n c⟩)):=by
  have h:=(Below.refl w.heap.size w).alloc (Nat.le_refl _) (.cells #[.int .i64 0,.string ⟨#[]⟩,.slice none 0 0,.int .i64 0,.int .i64 0,.slice none 0 0] 35)
  exact ⟨h.os,h.tape,h.output,by simp [World.setRow],fun k hk=>(setRow_other _ _ _ _ (by omega)).trans (h.block k hk)⟩
 have HB:=hh9 hb
 clear hb
 go_enter Tryz.func52,Tryz.ntmps52
 go_wp2_with (refine za6 rfl _ _ rfl w.heap.size ⟨1,⟨#[]⟩,.slice none 0 0,0,0,.slice a n c⟩ rfl rfl HRES.out rfl rfl ?_)
 exact bodyPost_ret_by (zaj rfl _ _ w.heap.size ⟨1,⟨#[]⟩,.slice none 0 0,0,0,.slice a n c⟩ rfl HRES.out) rfl ⟨rfl,HB.out⟩
theorem zhf {W:World} {g:Nat} {X:XV} (h:BoxX W g X):RowAny W (.slice (some ⟨g,0,none⟩) 1 1) 1 ([X].flatMap XV.cells):=by
 refine .inr ⟨g,0,1,rfl,Nat.le_refl _,by unfold maxLen;omega,(Array.getElem?_eq_some_iff.1 h).1,fun j u hj=>?_⟩
 have e:([X].flatMap XV.cells)=X.arr.toList:=by simp [XV.cells,XV.arr]
 rw [e] at hj
 unfold BoxX at h
 unfold World.cell?
 simp only [h,Nat.zero_add]
 simpa using hj
theorem zwe {w:World} {k1 l1 h1 k2 l2 h2:Int} {t1 t2:ByteArray} {a1 a2 b1 b2:Option Addr} {m1 m2 d1 d2 n1 n2 e1 e2:Nat} {vs1 vs2:List XV}
  (hl1:0<vs1.length) (hl2:0<vs2.length) (hs1:(k1=1/\RowAny w (.slice b1 n1 e1) vs1.length (vs1.flatMap XV.cells))\/(k1≠1/\vs1=[⟨k1,t1,.slice a1 m1 d1,l1,h1,.slice b1 n1 e1⟩])) (hs2:(k2=1/\RowAny w (.slice b2 n2 e2) vs2.length (vs2.flatMap XV.cells))\/(k2≠1/\vs2=[⟨k2,t2,.slice a2 m2 d2,l2,h2,.slice b2 n2 e2⟩]))
  (ho1:∀ u∈vs1.flatMap XV.cells,u.oneCell'=true) (ho2:∀ u∈vs2.flatMap XV.cells,u.oneCell'=true) (hle:vs1.length+vs2.length<=100000000) :
  Calls Tryz.prog 30 #[.agg #[.int .i64 k1,.string t1,.slice a1 m1 d1,.int .i64 l1,.int .i64 h1,.slice b1 n1 e1],.agg #[.int .i64 k2,.string t2,.slice a2 m2 d2,.int .i64 l2,.int .i64 h2,.slice b2 n2 e2]] w (fun e w'=>∃ a n c,e=.returned (.agg #[.int .i64 1,.string ⟨#[]⟩,.slice none 0 0,.int .i64 0,.int .i64 0,.slice a n c])/\w'.ownsRow w.heap.size 35 6 (.slice a n c) (vs1++vs2).length ((vs1++vs2).flatMap XV.cells)/\Below w.heap.size w w'):=by
 have HS1:=hh9 hs1
 have HS2:=hh9 hs2
 have HO1:=hh9 ho1
 have HO2:=hh9 ho2
 have HW:=hh9 (fun (W:World) (a:Option Addr) (n c:Nat)=>zrp (w:=W) (a:=a) (n:=n) (c:=c))
 have hb0:Below w.heap.size w ((((w.alloc (.cells #[.int .i64 k1,.string t1,.slice a1 m1 d1,.int .i64 l1,.int .i64 h1,.slice b1 n1 e1] 35)).alloc (.cells #[.int .i64 k2,.string t2,.slice a2 m2 d2,.int .i64 l2,.int .i64 h2,.slice b2 n2 e2] 35)).alloc (.cells #[.int .i64 0,.string ⟨#[]⟩,.slice none 0 0,.int .i64 0,.int .i64 0,.slice none 0 0] 35)).alloc (.cells #[.int .i64 k1,.string t1,.slice a1 m1 d1,.int .i64 l1,.int .i64 h1,.slice b1 n1 e1,.int .i64 k2,.string t2,.slice a2 m2 d2,.int .i64 l2,.int .i64 h2,.slice b2 n2 e2] 35)):=by go_grown
 have hrow0:((((w.alloc (.cells #[.int .i64 k1,.string t1,.slice a1 m1 d1,.int .i64 l1,.int .i64 h1,.slice b1 n1 e1] 35)).alloc (.cells #[.int .i64 k2,.string t2,.slice a2 m2 d2,.int .i64 l2,.int .i64 h2,.slice b2 n2 e2] 35)).alloc (.cells #[.int .i64 0,.string ⟨#[]⟩,.slice none 0 0,.int .i64 0,.int .i64 0,.slice none 0 0] 35)).alloc (.cells #[.int .i64 k1,.string t1,.slice a1 m1 d1,.int .i64 l1,.int .i64 h1,.slice b1 n1 e1,.int .i64 k2,.string t2,.slice a2 m2 d2,.int .i64 l2,.int .i64 h2,.slice b2 n2 e2] 35)).heap[w.heap.size+3]?=some (.cells #[.int .i64 k1,.string t1,.slice a1 m1 d1,.int .i64 l1,.int .i64 h1,.slice b1 n1 e1,.int .i64 k2,.string t2,.slice a2 m2 d2,.int .i64 l2,.int .i64 h2,.slice b2 n2 e2] 35 (0,0)):=by
  have h:=heap_alloc_new (((w.alloc (.cells #[.int .i64 k1,.string t1,.slice a1 m1 d1,.int .i64 l1,.int .i64 h1,.slice b1 n1 e1] 35)).alloc (.cells #[.int .i64 k2,.string t2,.slice a2 m2 d2,.int .i64 l2,.int .i64 h2,.slice b2 n2 e2] 35)).alloc (.cells #[.int .i64 0,.string ⟨#[]⟩,.slice none 0 0,.int .i64 0,.int .i64 0,.slice none 0 0] 35)) (.cells #[.int .i64 k1,.string t1,.slice a1 m1 d1,.int .i64 l1,.int .i64 h1,.slice b1 n1 e1,.int .i64 k2,.string t2,.slice a2 m2 d2,.int .i64 l2,.int .i64 h2,.slice b2 n2 e2] 35)
  rw [World.size_alloc,World.size_alloc,World.size_alloc] at h
  exact h
 have hres0:Res0 ((((w.alloc (.cells #[.int .i64 k1,.string t1,.slice a1 m1 d1,.int .i64 l1,.int .i64 h1,.slice b1 n1 e1] 35)).alloc (.cells #[.int .i64 k2,.string t2,.slice a2 m2 d2,.int .i64 l2,.int .i64 h2,.slice b2 n2 e2] 35)).alloc (.cells #[.int .i64 0,.string ⟨#[]⟩,.slice none 0 0,.int .i64 0,.int .i64 0,.slice none 0 0] 35)).alloc (.cells #[.int .i64 k1,.string t1,.slice a1 m1 d1,.int .i64 l1,.int .i64 h1,.slice b1 n1 e1,.int .i64 k2,.string t2,.slice a2 m2 d2,.int .i64 l2,.int .i64 h2,.slice b2 n2 e2] 35)) (w.heap.size+2):=by
  have h:=zav ((w.alloc (.cells #[.int .i64 k1,.string t1,.slice a1 m1 d1,.int .i64 l1,.int .i64 h1,.slice b1 n1 e1] 35)).alloc (.cells #[.int .i64 k2,.string t2,.slice a2 m2 d2,.int .i64 l2,.int .i64 h2,.slice b2 n2 e2] 35))
  rw [World.size_alloc,World.size_alloc] at h
  exact h.kept (Below.heap_alloc _ _ _ (by simp))
 have HB0:=hh9 hb0
 have HR0:=hh9 hrow0
 have HE0:=hh9 hres0
 clear hs1 hs2 ho1 ho2 hb0 hrow0 hres0
 go_enter Tryz.func30,Tryz.ntmps30
 go_wp2_with fail
 go_loopw [5,12] (fun s v wr=>∃ (q:Nat) (vsq:List XV) (sa:Option Addr) (sn sc:Nat),s=.slice sa sn sc/\v=.int .i64 q/\q<=2/\Hid ((q=0->vsq=[])/\(q=1->vsq=vs1)/\(q=2->vsq=vs1++vs2))/\Hid (wr.ownsRow (w.heap.size+4) 35 6 (.slice sa sn sc) vsq.length (vsq.flatMap XV.cells))/\Hid (Below w.heap.size w wr)/\Hid (wr.heap[w.heap.size+3]?=some (.cells #[.int .i64 k1,.string t1,.slice a1 m1 d1,.int .i64 l1,.int .i64 h1,.slice b1 n1 e1,.int .i64 k2,.string t2,.slice a2 m2 d2,.int .i64 l2,.int .i64 h2,.slice b2 n2 e2] 35 (0,0)))/\Hid (Res0 wr (w.heap.size+2))) (fun _ v _=>2-(intOf v).toNat)
 case atStart=>exact ⟨0,[],none,0,0,rfl,rfl,by omega,⟨fun _=>rfl,fun h=>by omega,fun h=>by omega⟩,World.ownsRow_nil _ _ _ _,HB0,HR0,HE0⟩
 case round =>
  obtain ⟨q,vsq,sa,sn,sc,rfl,rfl,hq,HV,HOWN,HBEL,HROW,HRES⟩:=hrel
  have hblk:=HROW.out
  have hl3:=(Array.getElem?_eq_some_iff.1 hblk).1
  have c0:wr.cell? ⟨w.heap.size+3,0,none⟩=some (.int .i64 k1):=by unfold World.cell?;simp only [hblk];rfl
  have c1:wr.cell? ⟨w.heap.size+3,1,none⟩=some (.string t1):=by unfold World.cell?;simp only [hblk];rfl
  have c2:wr.cell? ⟨w.heap.size+3,2,none⟩=some (.slice a1 m1 d1):=by unfold World.cell?;simp only [hblk];rfl
  have c3:wr.cell? ⟨w.heap.size+3,3,none⟩=some (.int .i64 l1):=by unfold World.cell?;simp only [hblk];rfl
  have c4:wr.cell? ⟨w.heap.size+3,4,none⟩=some (.int .i64 h1):=by unfold World.cell?;simp only [hblk];rfl
  have c5:wr.cell? ⟨w.heap.size+3,5,none⟩=some (.slice b1 n1 e1):=by unfold World.cell?;simp only [hblk];rfl
  have c6:wr.cell? ⟨w.heap.size+3,6,none⟩=some (.int .i64 k2):=by unfold World.cell?;simp only [hblk];rfl
  have c7:wr.cell? ⟨w.heap.size+3,7,none⟩=some (.string t2):=by unfold World.cell?;simp only [hblk];rfl
  have c8:wr.cell? ⟨w.heap.size+3,8,none⟩=some (.slice a2 m2 d2):=by unfold World.cell?;simp only [hblk];rfl
  have c9:wr.cell? ⟨w.heap.size+3,9,none⟩=some (.int .i64 l2):=by unfold World.cell?;simp only [hblk];rfl
  have c10:wr.cell? ⟨w.heap.size+3,10,none⟩=some (.int .i64 h2):=by unfold World.cell?;simp only [hblk];rfl
  have c11:wr.cell? ⟨w.heap.size+3,11,none⟩=some (.slice b2 n2 e2):=by unfold World.cell?;simp only [hblk];rfl
  clear hblk
  by_cases hq0:q=0
  ·subst hq0
   have hv:=HV.out.1 rfl
   rw [hv] at HOWN
   clear hv HV
   rcases HS1.out with ⟨hk,hra⟩ | ⟨hk,hvs⟩
   ·subst hk
    have HBX:Hid (Below wr.heap.size wr (wr.alloc (.cells #[.int .i64 1,.string t1,.slice a1 m1 d1,.int .i64 l1,.int .i64 h1,.slice b1 n1 e1] 35))):=(Below.refl _ _).alloc (Nat.le_refl _) _
    have HRA:=hh9 ((hra.below HBEL.out).below HBX.out)
    clear hra
    go_wp2_with (at_builtin;go_loud (refine zfb rfl _ _ rfl (w.heap.size+4) _ _ [] vs1 rfl rfl (zb3 HOWN.out HBX.out) HRA.out hl1 HO1.out (by first | omega | (simp<;>omega)) (by first | omega | (simp<;>omega)) ?_);intro v3 w3 hown hgrow hat;have HOWN3:=hh9 hown;have HGROW:Hid (World.grownBy _ w3 (Value.ownBlock (.slice sa sn sc))):=hgrow;clear hown hgrow)
    have hown3:=zcd HOWN.out
    have hl3':w.heap.size+3<(wr.alloc (.cells #[.int .i64 1,.string t1,.slice a1 m1 d1,.int .i64 l1,.int .i64 h1,.slice b1 n1 e1] 35)).heap.size:=by simp;omega
    have hr2:(wr.alloc (.cells #[.int .i64 1,.string t1,.slice a1 m1 d1,.int .i64 l1,.int .i64 h1,.slice b1 n1 e1] 35)).heap[w.heap.size+3]?=some (.cells #[.int .i64 1,.string t1,.slice a1 m1 d1,.int .i64 l1,.int .i64 h1,.slice b1 n1 e1,.int .i64 k2,.string t2,.slice a2 m2 d2,.int .i64 l2,.int .i64 h2,.slice b2 n2 e2] 35 (0,0)):=HBX.out.block _ hl3 |>.trans HROW.out
    have hn3:∀ b,b<=w.heap.size+3->b<(wr.alloc (.cells #[.int .i64 1,.string t1,.slice a1 m1 d1,.int .i64 l1,.int .i64 h1,.slice b1 n1 e1] 35)).heap.size->w3.heap[b]?=(wr.alloc (.cells #[.int .i64 1,.string t1,.slice a1 m1 d1,.int .i64 l1,.int .i64 h1,.slice b1 n1 e1] 35)).heap[b]?:=fun b hb hl=>HGROW.out.block b hl (fun e=>by have:=hown3 b e.symm;omega)
    obtain ⟨a3,c3,rfl⟩:=zbj HOWN3.out
    go_wp2_with fail
    go_roundw
    case rel=>exact ⟨1,[]++vs1,a3,_,c3,rfl,by go_num,by omega,⟨fun h=>by omega,fun h=>by first | rfl | omega,fun h=>by first | rfl | omega⟩,HOWN3,((HBEL.out.trans (HBX.out.mono HBEL.out.size))).grown HGROW.out (by have:=HBEL.out.size;have:=HBX.out.size;omega) (fun b e=>by have:=hown3 b e;omega),(hn3 _ (Nat.le_refl _) hl3').trans hr2,((HRES.out.kept (HBX.out.block _ (by omega))).kept (hn3 _ (by omega) (by simp;omega)))⟩
    case measure=>simp [intOf]
   ·have hk5:(k1==1)=false:=by simpa using hk
    have HBX:Hid (Below wr.heap.size wr ((wr.alloc (.cells #[.int .i64 k1,.string t1,.slice a1 m1 d1,.int .i64 l1,.int .i64 h1,.slice b1 n1 e1] 35)).alloc (.cells #[.int .i64 k1,.string t1,.slice a1 m1 d1,.int .i64 l1,.int .i64 h1,.slice b1 n1 e1] 35))):=((Below.refl _ _).alloc (Nat.le_refl _) _).alloc (by simp) _
    have HRA:Hid (RowAny ((wr.alloc (.cells #[.int .i64 k1,.string t1,.slice a1 m1 d1,.int .i64 l1,.int .i64 h1,.slice b1 n1 e1] 35)).alloc (.cells #[.int .i64 k1,.string t1,.slice a1 m1 d1,.int .i64 l1,.int .i64 h1,.slice b1 n1 e1] 35)) (.slice (some ⟨wr.heap.size+1,0,none⟩) 1 1) vs1.length (vs1.flatMap XV.cells)):=by
     rw [hvs]
     have h:=heap_alloc_new (wr.alloc (.cells #[.int .i64 k1,.string t1,.slice a1 m1 d1,.int .i64 l1,.int .i64 h1,.slice b1 n1 e1] 35)) (.cells #[.int .i64 k1,.string t1,.slice a1 m1 d1,.int .i64 l1,.int .i64 h1,.slice b1 n1 e1] 35)
     rw [World.size_alloc] at h
     exact zhf (X:=⟨k1,t1,.slice a1 m1 d1,l1,h1,.slice b1 n1 e1⟩) h
    clear hvs
    go_wp2_with (at_builtin;go_loud (refine zfb rfl _ _ rfl (w.heap.size+4) _ _ [] vs1 rfl rfl (zb3 HOWN.out HBX.out) HRA.out hl1 HO1.out (by first | omega | (simp<;>omega)) (by first | omega | (simp<;>omega)) ?_);intro v3 w3 hown hgrow hat;have HOWN3:=hh9 hown;have HGROW:Hid (World.grownBy _ w3 (Value.ownBlock (.slice sa sn sc))):=hgrow;clear hown hgrow)
    have hown3:=zcd HOWN.out
    have hl3':w.heap.size+3<((wr.alloc (.cells #[.int .i64 k1,.string t1,.slice a1 m1 d1,.int .i64 l1,.int .i64 h1,.slice b1 n1 e1] 35)).alloc (.cells #[.int .i64 k1,.string t1,.slice a1 m1 d1,.int .i64 l1,.int .i64 h1,.slice b1 n1 e1] 35)).heap.size:=by simp;omega
    have hr2:((wr.alloc (.cells #[.int .i64 k1,.string t1,.slice a1 m1 d1,.int .i64 l1,.int .i64 h1,.slice b1 n1 e1] 35)).alloc (.cells #[.int .i64 k1,.string t1,.slice a1 m1 d1,.int .i64 l1,.int .i64 h1,.slice b1 n1 e1] 35)).heap[w.heap.size+3]?=some (.cells #[.int .i64 k1,.string t1,.slice a1 m1 d1,.int .i64 l1,.int .i64 h1,.slice b1 n1 e1,.int .i64 k2,.string t2,.slice a2 m2 d2,.int .i64 l2,.int .i64 h2,.slice b2 n2 e2] 35 (0,0)):=HBX.out.block _ hl3 |>.trans HROW.out
    have hn3:∀ b,b<=w.heap.size+3->b<((wr.alloc (.cells #[.int .i64 k1,.string t1,.slice a1 m1 d1,.int .i64 l1,.int .i64 h1,.slice b1 n1 e1] 35)).alloc (.cells #[.int .i64 k1,.string t1,.slice a1 m1 d1,.int .i64 l1,.int .i64 h1,.slice b1 n1 e1] 35)).heap.size->w3.heap[b]?=((wr.alloc (.cells #[.int .i64 k1,.string t1,.slice a1 m1 d1,.int .i64 l1,.int .i64 h1,.slice b1 n1 e1] 35)).alloc (.cells #[.int .i64 k1,.string t1,.slice a1 m1 d1,.int .i64 l1,.int .i64 h1,.slice b1 n1 e1] 35)).heap[b]?:=fun b hb hl=>HGROW.out.block b hl (fun e=>by have:=hown3 b e.symm;omega)
    obtain ⟨a3,c3,rfl⟩:=zbj HOWN3.out
    go_wp2_with fail
    go_roundw
    case rel=>exact ⟨1,[]++vs1,a3,_,c3,rfl,by go_num,by omega,⟨fun h=>by omega,fun h=>by first | rfl | omega,fun h=>by first | rfl | omega⟩,HOWN3,((HBEL.out.trans (HBX.out.mono HBEL.out.size))).grown HGROW.out (by have:=HBEL.out.size;have:=HBX.out.size;omega) (fun b e=>by have:=hown3 b e;omega),(hn3 _ (Nat.le_refl _) hl3').trans hr2,((HRES.out.kept (HBX.out.block _ (by omega))).kept (hn3 _ (by omega) (by simp;omega)))⟩
    case measure=>simp [intOf]
  ·by_cases hq1:q=1
   ·subst hq1
    have hv:=HV.out.2.1 rfl
    rw [hv] at HOWN
    clear hv HV
    rcases HS2.out with ⟨hk,hra⟩ | ⟨hk,hvs⟩
    ·subst hk
     have HBX:Hid (Below wr.heap.size wr (wr.alloc (.cells #[.int .i64 1,.string t2,.slice a2 m2 d2,.int .i64 l2,.int .i64 h2,.slice b2 n2 e2] 35))):=(Below.refl _ _).alloc (Nat.le_refl _) _
     have HRA:=hh9 ((hra.below HBEL.out).below HBX.out)
     clear hra
     go_wp2_with (at_builtin;go_loud (refine zfb rfl _ _ rfl (w.heap.size+4) _ _ vs1 vs2 rfl rfl (zb3 HOWN.out HBX.out) HRA.out hl2 HO2.out (by first | omega | (simp<;>omega)) (by first | omega | (simp<;>omega)) ?_);intro v3 w3 hown hgrow hat;have HOWN3:=hh9 hown;have HGROW:Hid (World.grownBy _ w3 (Value.ownBlock (.slice sa sn sc))):=hgrow;clear hown hgrow)
     have hown3:=zcd HOWN.out
     have hl3':w.heap.size+3<(wr.alloc (.cells #[.int .i64 1,.string t2,.slice a2 m2 d2,.int .i64 l2,.int .i64 h2,.slice b2 n2 e2] 35)).heap.size:=by simp;omega
     have hr2:(wr.alloc (.cells #[.int .i64 1,.string t2,.slice a2 m2 d2,.int .i64 l2,.int .i64 h2,.slice b2 n2 e2] 35)).heap[w.heap.size+3]?=some (.cells #[.int .i64 k1,.string t1,.slice a1 m1 d1,.int .i64 l1,.int .i64 h1,.slice b1 n1 e1,.int .i64 1,.string t2,.slice a2 m2 d2,.int .i64 l2,.int .i64 h2,.slice b2 n2 e2] 35 (0,0)):=HBX.out.block _ hl3 |>.trans HROW.out
     have hn3:∀ b,b<=w.heap.size+3->b<(wr.alloc (.cells #[.int .i64 1,.string t2,.slice a2 m2 d2,.int .i64 l2,.int .i64 h2,.slice b2 n2 e2] 35)).heap.size->w3.heap[b]?=(wr.alloc (.cells #[.int .i64 1,.string t2,.slice a2 m2 d2,.int .i64 l2,.int .i64 h2,.slice b2 n2 e2] 35)).heap[b]?:=fun b hb hl=>HGROW.out.block b hl (fun e=>by have:=hown3 b e.symm;omega)
     obtain ⟨a3,c3,rfl⟩:=zbj HOWN3.out
     go_wp2_with fail
     go_roundw
     case rel=>exact ⟨2,vs1++vs2,a3,_,c3,rfl,by go_num,by omega,⟨fun h=>by omega,fun h=>by first | rfl | omega,fun h=>by first | rfl | omega⟩,HOWN3,((HBEL.out.trans (HBX.out.mono HBEL.out.size))).grown HGROW.out (by have:=HBEL.out.size;have:=HBX.out.size;omega) (fun b e=>by have:=hown3 b e;omega),(hn3 _ (Nat.le_refl _) hl3').trans hr2,((HRES.out.kept (HBX.out.block _ (by omega))).kept (hn3 _ (by omega) (by simp;omega)))⟩
     case measure=>simp [intOf]
    ·have hk5:(k2==1)=false:=by simpa using hk
     have HBX:Hid (Below wr.heap.size wr ((wr.alloc (.cells #[.int .i64 k2,.string t2,.slice a2 m2 d2,.int .i64 l2,.int .i64 h2,.slice b2 n2 e2] 35)).alloc (.cells #[.int .i64 k2,.string t2,.slice a2 m2 d2,.int .i64 l2,.int .i64 h2,.slice b2 n2 e2] 35))):=((Below.refl _ _).alloc (Nat.le_refl _) _).alloc (by simp) _
     have HRA:Hid (RowAny ((wr.alloc (.cells #[.int .i64 k2,.string t2,.slice a2 m2 d2,.int .i64 l2,.int .i64 h2,.slice b2 n2 e2] 35)).alloc (.cells #[.int .i64 k2,.string t2,.slice a2 m2 d2,.int .i64 l2,.int .i64 h2,.slice b2 n2 e2] 35)) (.slice (some ⟨wr.heap.size+1,0,none⟩) 1 1) vs2.length (vs2.flatMap XV.cells)):=by
      rw [hvs]
      have h:=heap_alloc_new (wr.alloc (.cells #[.int .i64 k2,.string t2,.slice a2 m2 d2,.int .i64 l2,.int .i64 h2,.slice b2 n2 e2] 35)) (.cells #[.int .i64 k2,.string t2,.slice a2 m2 d2,.int .i64 l2,.int .i64 h2,.slice b2 n2 e2] 35)
      rw [World.size_alloc] at h
      exact zhf (X:=⟨k2,t2,.slice a2 m2 d2,l2,h2,.slice b2 n2 e2⟩) h
     clear hvs
     go_wp2_with (at_builtin;go_loud (refine zfb rfl _ _ rfl (w.heap.size+4) _ _ vs1 vs2 rfl rfl (zb3 HOWN.out HBX.out) HRA.out hl2 HO2.out (by first | omega | (simp<;>omega)) (by first | omega | (simp<;>omega)) ?_);intro v3 w3 hown hgrow hat;have HOWN3:=hh9 hown;have HGROW:Hid (World.grownBy _ w3 (Value.ownBlock (.slice sa sn sc))):=hgrow;clear hown hgrow)
     have hown3:=zcd HOWN.out
     have hl3':w.heap.size+3<((wr.alloc (.cells #[.int .i64 k2,.string t2,.slice a2 m2 d2,.int .i64 l2,.int .i64 h2,.slice b2 n2 e2] 35)).alloc (.cells #[.int .i64 k2,.string t2,.slice a2 m2 d2,.int .i64 l2,.int .i64 h2,.slice b2 n2 e2] 35)).heap.size:=by simp;omega
     have hr2:((wr.alloc (.cells #[.int .i64 k2,.string t2,.slice a2 m2 d2,.int .i64 l2,.int .i64 h2,.slice b2 n2 e2] 35)).alloc (.cells #[.int .i64 k2,.string t2,.slice a2 m2 d2,.int .i64 l2,.int .i64 h2,.slice b2 n2 e2] 35)).heap[w.heap.size+3]?=some (.cells #[.int .i64 k1,.string t1,.slice a1 m1 d1,.int .i64 l1,.int .i64 h1,.slice b1 n1 e1,.int .i64 k2,.string t2,.slice a2 m2 d2,.int .i64 l2,.int .i64 h2,.slice b2 n2 e2] 35 (0,0)):=HBX.out.block _ hl3 |>.trans HROW.out
     have hn3:∀ b,b<=w.heap.size+3->b<((wr.alloc (.cells #[.int .i64 k2,.string t2,.slice a2 m2 d2,.int .i64 l2,.int .i64 h2,.slice b2 n2 e2] 35)).alloc (.cells #[.int .i64 k2,.string t2,.slice a2 m2 d2,.int .i64 l2,.int .i64 h2,.slice b2 n2 e2] 35)).heap.size->w3.heap[b]?=((wr.alloc (.cells #[.int .i64 k2,.string t2,.slice a2 m2 d2,.int .i64 l2,.int .i64 h2,.slice b2 n2 e2] 35)).alloc (.cells #[.int .i64 k2,.string t2,.slice a2 m2 d2,.int .i64 l2,.int .i64 h2,.slice b2 n2 e2] 35)).heap[b]?:=fun b hb hl=>HGROW.out.block b hl (fun e=>by have:=hown3 b e.symm;omega)
     obtain ⟨a3,c3,rfl⟩:=zbj HOWN3.out
     go_wp2_with fail
     go_roundw
     case rel=>exact ⟨2,vs1++vs2,a3,_,c3,rfl,by go_num,by omega,⟨fun h=>by omega,fun h=>by first | rfl | omega,fun h=>by first | rfl | omega⟩,HOWN3,((HBEL.out.trans (HBX.out.mono HBEL.out.size))).grown HGROW.out (by have:=HBEL.out.size;have:=HBX.out.size;omega) (fun b e=>by have:=hown3 b e;omega),(hn3 _ (Nat.le_refl _) hl3').trans hr2,((HRES.out.kept (HBX.out.block _ (by omega))).kept (hn3 _ (by omega) (by simp;omega)))⟩
     case measure=>simp [intOf]
   ·obtain rfl:q=2:=by omega
    have hv:=HV.out.2.2 rfl
    rw [hv] at HOWN
    clear hv HV
    obtain ⟨gE,hgE⟩:=HRES.out
    have HRESW:=hh9 (fun (W':World) (hb:Below wr.heap.size wr W')=>HRES.out.kept (hb.block _ (by omega)))
    have HOWNW:=hh9 (fun (W':World) (hb:Below wr.heap.size wr W')=>zb3 HOWN.out hb)
    clear hgE c0 c1 c2 c3 c4 c5 c6 c7 c8 c9 c10 c11
    go_wp2_with (first
     | (go_at_call 52;refine (HW.out _ _ _ _).mono ?_;rintro e w2 ⟨rfl,hb2⟩;have HB2:=hh9 hb2;have HR2:=hh9 (HRESW.out _ hb2);clear hb2)
     | (refine za6 rfl _ _ rfl (w.heap.size+2) ⟨1,⟨#[]⟩,.slice none 0 0,0,0,.slice sa sn sc⟩ rfl rfl HR2.out rfl rfl ?_))
    have hg2:w2.grownBy (w2.setRow (w.heap.size+2) (XV.arr ⟨1,⟨#[]⟩,.slice none 0 0,0,0,.slice sa sn sc⟩)) (some (w.heap.size+2)):=⟨rfl,rfl,rfl,by simp [World.setRow],fun k hk hne=>setRow_other _ _ _ _ (fun e=>hne (by rw [e]))⟩
    have hown2:=HOWNW.out _ HB2.out
    refine bodyPost_ret_by (zaj rfl _ _ (w.heap.size+2) ⟨1,⟨#[]⟩,.slice none 0 0,0,0,.slice sa sn sc⟩ rfl HR2.out) rfl ⟨sa,sn,sc,rfl,?_,?_⟩
    ·exact zcx (zdz hown2 hg2 (fun e=>by have:=zcd hown2 _ e;omega)) (by omega)
    ·exact (HBEL.out.trans (HB2.out.mono HBEL.out.size)).grown hg2 (by have:=HBEL.out.size;have:=HB2.out.size;omega) (fun b e=>by have:=Option.some.inj e;omega)
end Go.Proofs.YtekjnfldgjcgeaaGreatDoor
namespace Go.Proofs.YtekjnfldgjcgeaaGreatDoor
open Go.RowKit Go.Shelf
def TopA (W:World) (base:Nat) (S:Nat->Prop) (X:XV) (t:Tree):Prop :=
 ∃ (x ns:List Int) (kids:List Tree) (vs:List XV),t=.mk X.kind x ns X.lo X.hi kids/\X.text=za3 x/\zar x/\W.ownsRow base 3 1 X.ns ns.length (zat ns)/\W.ownsRow base 35 6 X.ks kids.length (vs.flatMap XV.cells)/\vs.length=kids.length /\
  (∀ b,X.ns.ownBlock=some b->¬ S b)/\(∀ b,X.ks.ownBlock=some b->¬ S b) /\
  ∀ (i:Nat) (y:XV) (u:Tree),vs[i]?=some y->kids[i]?=some u->ETP W (fun b=>base<=b/\some b≠X.ks.ownBlock/\¬ S b) y u
theorem TopA.tree {W:World} {base:Nat} {S:Nat->Prop} {X:XV} {t:Tree} (h:TopA W base S X t):ETP W (fun b=>base<=b/\¬ S b) X t:=by
 obtain ⟨x,ns,kids,vs,rfl,htx,hto,h1,h2,h3,h4,h5,h6⟩:=h
 obtain ⟨k,tx,nv,lo,hi,kv⟩:=X
 simp only [] at htx
 subst htx
 exact .mk vs hto.1 hto.2 (RowP.of_own (.inr (.inl rfl)) h1 (fun b hb=>⟨zcd h1 b hb,h4 b hb⟩)) (RowP.of_own (.inl rfl) h2 (fun b hb=>⟨zcd h2 b hb,h5 b hb⟩)) h3 (fun i y u hy hu=>(h6 i y u hy hu).weak (fun b hb _=>⟨hb.1,hb.2.2⟩))
theorem TopA.kept {W W':World} {base:Nat} {S S' M:Nat->Prop} {X:XV} {t:Tree} (h:TopA W base S X t) (hk:zap M W W') (hn:∀ b,X.ns.ownBlock=some b->W'.heap[b]?=W.heap[b]?) (hks:∀ b,X.ks.ownBlock=some b->W'.heap[b]?=W.heap[b]?)
  (hS:∀ b,b<W.heap.size->¬ S b->¬ M b/\¬ S' b):TopA W' base S' X t:=by
 obtain ⟨x,ns,kids,vs,ht,htx,hto,h1,h2,h3,h4,h5,h6⟩:=h
 have lt:∀ {size n b:Nat} {e:TypeId} {v:Value} {xs:List Value},W.ownsRow base e size v n xs->v.ownBlock=some b->b<W.heap.size:=fun hr hb=>by
  obtain ⟨cur,hcur⟩:=zbk hr hb
  exact (Array.getElem?_eq_some_iff.1 hcur).1
 exact ⟨x,ns,kids,vs,ht,htx,hto,zd6 h1 hn,zd6 h2 hks,h3,fun b hb=>(hS b (lt h1 hb) (h4 b hb)).2,fun b hb=>(hS b (lt h2 hb) (h5 b hb)).2,
  fun i y u hy hu=>(h6 i y u hy hu).kept hk (fun b hb hl=>⟨(hS b hl hb.2.2).1,hb.1,hb.2.1,(hS b hl hb.2.2).2⟩)⟩
theorem TopC.topA {W:World} {base base':Nat} {S:Nat->Prop} {X:XV} {t:Tree} (h:TopC W base' X t) (hb:base<=base') (hS:∀ b,base'<=b->¬ S b):TopA W base S X t:=by
 obtain ⟨x,ns,kids,vs,ht,htx,hto,h1,h2,h3,h4⟩:=h
 exact ⟨x,ns,kids,vs,ht,htx,hto,zcx h1 hb,zcx h2 hb,h3,fun b e=>hS b (zcd h1 b e),fun b e=>hS b (zcd h2 b e),fun i y u hy hu=>(h4 i y u hy hu).weak (fun b hb' _=>⟨by omega,hb'.2,hS b hb'.1⟩)⟩
def zke (ys:List RV) (i b:Nat):Prop:=∃ (q:Nat) (z:RV),q≠i/\ys[q]?=some z/\z.expr.ks.ownBlock=some b
structure TS (W:World) (base R m:Nat) (v:Value) (ys:List RV) (g:List GR):Prop where
 gat:GAt W base R m v ys g
 top:∀ (i:Nat) (y:RV) (r:GR),ys[i]?=some y->g[i]?=some r->TopA W base (zke ys i) y.expr r.expr
theorem TS.under {W W':World} {base R m:Nat} {v:Value} {ys:List RV} {g:List GR} (h:TS W base R m v ys g) (hb:Below W.heap.size W W'):TS W' base R m v ys g:=by
 refine ⟨h.gat.below hb,fun i y r hy hr=>?_⟩
 have ht:=h.top i y r hy hr
 have lt:∀ {base size n b:Nat} {e:TypeId} {v:Value} {xs:List Value},W.ownsRow base e size v n xs->v.ownBlock=some b->b<W.heap.size:=fun hr hb=>by
  obtain ⟨cur,hcur⟩:=zbk hr hb
  exact (Array.getElem?_eq_some_iff.1 hcur).1
 obtain ⟨_,_,_,_,_,_,_,h1,h2,_⟩:=ht
 exact (h.top i y r hy hr).kept (M:=fun _=>False) (zap.below hb) (fun b e=>hb.block b (lt h1 e)) (fun b e=>hb.block b (lt h2 e)) (fun b _ hn=>⟨id,hn⟩)
theorem TS.lt {W:World} {base R m:Nat} {v:Value} {ys:List RV} {g:List GR} (h:TS W base R m v ys g) {i b:Nat} {y:RV} (hy:ys[i]?=some y) (hb:y.expr.ks.ownBlock=some b):b<W.heap.size:=by
 obtain ⟨r,hr⟩:∃ r,g[i]?=some r:=⟨_,List.getElem?_eq_getElem (by rw [<- h.gat.len];exact (List.getElem?_eq_some_iff.1 hy).1)⟩
 obtain ⟨_,_,_,_,_,_,_,h1,h2,_⟩:=h.top i y r hy hr
 obtain ⟨cur,hcur⟩:=zbk h2 hb
 exact (Array.getElem?_eq_some_iff.1 hcur).1
theorem TS.exprs {W:World} {base R m:Nat} {v:Value} {ys:List RV} {g:List GR} (h:TS W base R m v ys g) (hs:∀ r∈g,dep r.expr<=9000/\(zai r.expr).length<=1000000):zfa W ys g :=
 fun i y r hy hr=>⟨(h.top i y r hy hr).tree.weak (fun _ _ _=>trivial),hs r (List.mem_of_getElem? hr)⟩
theorem zlz (vs:List RV) (i:Nat) (y:RV) (x:XV) (h:vs[i]?=some y) :
  ((((((vs.flatMap RV.cells).set (i*7+1) (.int .i64 x.kind)).set (i*7+1+1) (.string x.text)).set (i*7+1+2) x.ns).set (i*7+1+3) (.int .i64 x.lo)).set (i*7+1+4) (.int .i64 x.hi)).set (i*7+1+5) x.ks=(vs.set i ⟨y.name,x⟩).flatMap RV.cells:=by
 have hl:=(List.getElem?_eq_some_iff.1 h).1
 have h7:=zof vs i ⟨y.name,x⟩ hl
 have e0:=zct vs i 0 y h (by omega)
 rw [Nat.add_zero] at e0
 have e1:(vs.flatMap RV.cells).set (i*7) (.string y.name)=vs.flatMap RV.cells:=by
  apply List.ext_getElem?
  intro k
  by_cases hk:k=i*7
  ·subst hk
   rw [List.getElem?_set_self (by have:=(List.getElem?_eq_some_iff.1 (e0.trans (show y.cells[0]?=some _ from rfl))).1;exact this),e0]
   rfl
  ·rw [List.getElem?_set_ne (fun e=>hk e.symm)]
 simp only [] at h7
 rw [e1] at h7
 exact h7
theorem zwf {g:List GR} {i:Nat} {r:GR} (hr:g[i]?=some r) (t:Tree) (x:List Int):zay (g.set i ⟨r.name,t⟩) x=zay g x:=by
 induction g generalizing i with
 | nil=>rfl
 | cons u g ih =>
  cases i with
  | zero =>
   simp at hr
   subst hr
   simp [zay]
  | succ i =>
   simp at hr
   simp only [List.set_cons_succ,zay]
   rw [ih hr]
theorem TS.pushed {W0 W W':World} {base R m n:Nat} {v v':Value} {ys:List RV} {g:List GR} {Y:RV} {r:GR} (h:TS W0 base R m v ys g) (hb0:Below W0.heap.size W0 W) (hn:W0.heap.size<=n) (hbn:base<=n) (hY:TopC W n Y.expr r.expr)
  (hR:R<base) (hm:m<base) (hg:GAt W' base R m v' (ys++[Y]) (g++[r])) (hk:zap (fun _=>False) W W') (ho:∀ b,b<W.heap.size->b≠R->b≠m->v.ownBlock≠some b->W'.heap[b]?=W.heap[b]?):TS W' base R m v' (ys++[Y]) (g++[r]):=by
 have hrow:=(h.gat.below hb0).row
 have keep:∀ {base' size k b:Nat} {e:TypeId} {u:Value} {xs:List Value},W.ownsRow base' e size u k xs->base<=base'->e≠39->u.ownBlock=some b->W'.heap[b]?=W.heap[b]?:=fun hr hbb he hb=>by
  obtain ⟨cur,hcur⟩:=zbk hr hb
  have hle:=zcd hr _ hb
  exact ho _ (Array.getElem?_eq_some_iff.1 hcur).1 (by omega) (by omega) (fun e'=>he (zdr hrow e' hcur))
 have hlt:∀ {base' size k b:Nat} {e:TypeId} {u:Value} {xs:List Value},W0.ownsRow base' e size u k xs->u.ownBlock=some b->b<W0.heap.size:=fun hr hb=>by
  obtain ⟨cur,hcur⟩:=zbk hr hb
  exact (Array.getElem?_eq_some_iff.1 hcur).1
 have hYl:∀ b,Y.expr.ks.ownBlock=some b->n<=b:=fun b hb=>by
  obtain ⟨_,_,_,_,_,_,_,h1,h2,_⟩:=hY
  exact zcd h2 b hb
 have last:∀ (q:Nat) (z:RV),(ys++[Y])[q]?=some z->(q<ys.length/\ys[q]?=some z)\/(q=ys.length/\z=Y):=fun q z hz=>by
  by_cases hq:q<ys.length
  ·rw [List.getElem?_append_left hq] at hz
   exact .inl ⟨hq,hz⟩
  ·have:=(List.getElem?_eq_some_iff.1 hz).1
   simp at this
   rw [List.getElem?_append_right (by omega),show q-ys.length=0 by omega] at hz
   simp at hz
   exact .inr ⟨by omega,hz.symm⟩
 refine ⟨hg,fun i y r' hy hr'=>?_⟩
 rcases last i y hy with ⟨hi,hy'⟩ | ⟨hi,rfl⟩
 ·rw [List.getElem?_append_left (by rw [<- h.gat.len];exact hi)] at hr'
  have ht:=h.top i y r' hy' hr'
  obtain ⟨_,_,_,vs,_,_,_,h1,h2,_⟩:=ht
  refine (h.top i y r' hy' hr').kept ((zap.below hb0).trans hk) (fun b hb=>?_) (fun b hb=>?_) (fun b hb hn'=>⟨id,fun ⟨q,z,hq,hz,hzb⟩=>?_⟩)
  ·exact (keep (zb3 h1 hb0) (Nat.le_refl _) (by decide) hb).trans (hb0.block b (hlt h1 hb))
  ·exact (keep (zb3 h2 hb0) (Nat.le_refl _) (by decide) hb).trans (hb0.block b (hlt h2 hb))
  ·rcases last q z hz with ⟨hq2,hz'⟩ | ⟨hq2,rfl⟩
   ·exact hn' ⟨q,z,hq,hz',hzb⟩
   ·have:=hYl b hzb
    omega
 ·rw [List.getElem?_append_right (by rw [<- h.gat.len];omega),show i-g.length=0 by rw [<- h.gat.len];omega] at hr'
  simp at hr'
  subst hr'
  have hS:∀ b,n<=b->¬ zke (ys++[y]) i b:=fun b hb ⟨q,z,hq,hz,hzb⟩=>by
   rcases last q z hz with ⟨_,hz'⟩ | ⟨hq2,_⟩
   ·have:=h.lt hz' hzb
    omega
   ·omega
  have hY2:=hY
  obtain ⟨_,_,_,vs,_,_,_,h1,h2,_⟩:=hY2
  exact (hY.topA hbn hS).kept hk (fun b hb=>keep h1 hbn (by decide) hb) (fun b hb=>keep h2 hbn (by decide) hb) (fun b _ hn'=>⟨id,hn'⟩)
theorem TS.merged {W0 wB wX w9:World} {base R m n i gr cap:Nat} {vP v':Value} {ys:List RV} {g:List GR} {y:RV} {r:GR} {te:Tree} {vsP vsE:List XV} (h:TS W0 base R m (.slice (some ⟨gr,0,none⟩) g.length cap) ys g) (hb0:Below W0.heap.size W0 wB) (hn:W0.heap.size<=n) (hnB:n<=wB.heap.size) (hbn:base<=n)
  (hR:R<base) (hm:m<base) (hy:ys[i]?=some y) (hr:g[i]?=some r) (hX:Below wB.heap.size wB wX)
  (hatP:vP.ownBlock=y.expr.ks.ownBlock\/∃ k,vP.ownBlock=some k/\wB.heap.size<=k) (hlP:vsP.length=(zbt r.expr).length) (hPe:∀ (j:Nat) (Z:XV) (u:Tree),vsP[j]?=some Z->(zbt r.expr)[j]?=some u->ETP W0 (fun b=>base<=b/\some b≠vP.ownBlock/\¬ zke ys i b) Z u)
  (hlE:vsE.length=(zbt te).length) (hEe:∀ (j:Nat) (Z:XV) (u:Tree),vsE[j]?=some Z->(zbt te)[j]?=some u->ETP wB (fun b=>n<=b) Z u)
  (hown:w9.ownsRow base 35 6 v' (vsP++vsE).length ((vsP++vsE).flatMap XV.cells)) (hgrow:wX.grownBy w9 vP.ownBlock) (hat:v'.ownBlock=vP.ownBlock\/v'.ownBlock=some wX.heap.size) (hty:∀ b,vP.ownBlock=some b->∃ c z,wX.heap[b]?=some (.cells c 35 z)) :
  TS (set6 w9 gr (i*7+1) ⟨1,⟨#[]⟩,.slice none 0 0,0,0,v'⟩) base R m (.slice (some ⟨gr,0,none⟩) g.length cap) (ys.set i ⟨y.name,⟨1,⟨#[]⟩,.slice none 0 0,0,0,v'⟩⟩) (g.set i ⟨r.name,zeh r.expr te⟩):=by
 have hy0:=h.top i y r hy hr
 have hrow0:=h.gat.row
 have hgr:=zb0 hrow0
 have hs0:=hb0.size
 have hsX:=hX.size
 have hg9:=hgrow.size
 have hRl:=h.gat.cells.2.2
 have hlt:∀ {base' size k b:Nat} {e:TypeId} {u:Value} {xs:List Value},W0.ownsRow base' e size u k xs->u.ownBlock=some b->b<W0.heap.size:=fun hr hb=>by
  obtain ⟨cur,hcur⟩:=zbk hr hb
  exact (Array.getElem?_eq_some_iff.1 hcur).1
 obtain ⟨cg,hcg⟩:=zbk hrow0 (b:=gr) rfl
 have hK:∀ b,b<wB.heap.size->vP.ownBlock=some b->y.expr.ks.ownBlock=some b:=fun b hb e=>by
  rcases hatP with e' | ⟨k,e',hk⟩
  ·rw [<- e'];exact e
  ·rw [e'] at e
   have:=Option.some.inj e
   omega
 have hKl:∀ b,y.expr.ks.ownBlock=some b->b<W0.heap.size/\base<=b/\¬ zke ys i b/\∃ cur,W0.heap[b]?=some (.cells cur 35 (0,0)):=fun b hb=>by
  obtain ⟨_,_,_,_,_,_,_,h1,h2,_,_,h5,_⟩:=hy0
  exact ⟨hlt h2 hb,zcd h2 b hb,h5 b hb,zbk h2 hb⟩
 have hv':∀ b,b<wB.heap.size->v'.ownBlock=some b->vP.ownBlock=some b:=fun b hb e=>by
  rcases hat with e' | e'
  ·rw [<- e'];exact e
  ·rw [e'] at e
   have:=Option.some.inj e
   omega
 have hgrP:vP.ownBlock≠some gr:=fun e=>by
  obtain ⟨_,_,_,cur,hcur⟩:=hKl gr (hK gr (by omega) e)
  rw [hcg] at hcur
  have e:=Option.some.inj hcur
  simp at e
 have sg:=zed w9 gr (i*7+1) ⟨1,⟨#[]⟩,.slice none 0 0,0,0,v'⟩
 have keepB:∀ b,b<wB.heap.size->vP.ownBlock≠some b->b≠gr->(set6 w9 gr (i*7+1) ⟨1,⟨#[]⟩,.slice none 0 0,0,0,v'⟩).heap[b]?=wB.heap[b]?:=fun b hb h1 h2 =>
  (sg.block b (by omega) (fun e=>h2 (Option.some.inj e))).trans ((hgrow.block b (by omega) (fun e=>h1 e.symm)).trans (hX.block b hb))
 have keep0:∀ b,b<W0.heap.size->vP.ownBlock≠some b->b≠gr->(set6 w9 gr (i*7+1) ⟨1,⟨#[]⟩,.slice none 0 0,0,0,v'⟩).heap[b]?=W0.heap[b]?:=fun b hb h1 h2=>(keepB b (by omega) h1 h2).trans (hb0.block b hb)
 have kB:zap (fun b=>vP.ownBlock=some b) wB (set6 w9 gr (i*7+1) ⟨1,⟨#[]⟩,.slice none 0 0,0,0,v'⟩):=by
  refine ⟨by have:=sg.size;omega,fun b c t z hM ht hb=>?_⟩
  refine (keepB b (Array.getElem?_eq_some_iff.1 hb).1 hM (fun e=>?_)).trans hb
  subst e
  rw [hb0.block b (by omega),hcg] at hb
  have e:=Option.some.inj hb
  simp at e
  rw [<- e.2.1] at ht
  revert ht
  unfold KT
  decide
 have k0:=(zap.below (M:=fun b=>vP.ownBlock=some b) hb0).trans kB
 have hoth:∀ b,zke (ys.set i ⟨y.name,⟨1,⟨#[]⟩,.slice none 0 0,0,0,v'⟩⟩) i b ↔ zke ys i b:=fun b=>by
  constructor
  ·rintro ⟨q,z,hq,hz,hzb⟩
   rw [List.getElem?_set_ne (by omega)] at hz
   exact ⟨q,z,hq,hz,hzb⟩
  ·rintro ⟨q,z,hq,hz,hzb⟩
   exact ⟨q,z,hq,by rw [List.getElem?_set_ne (by omega)];exact hz,hzb⟩
 have hil:=(List.getElem?_eq_some_iff.1 hy).1
 have hirl:=(List.getElem?_eq_some_iff.1 hr).1
 refine ⟨⟨?_,?_,by simpa using h.gat.len,?_,?_⟩,fun q z u hz hu=>?_⟩
 ·exact (keep0 R hRl (fun e=>by have:=(hKl R (hK R (by omega) e)).2.1;omega) (by omega)).trans h.gat.blk
 ·have h9:w9.ownsRow base 39 7 (.slice (some ⟨gr,0,none⟩) g.length cap) g.length (ys.flatMap RV.cells):=zd6 hrow0 (fun b hb=>by
   have e:gr=b:=Option.some.inj hb
   subst e
   exact (hgrow.block gr (by omega) (fun e=>hgrP e.symm)).trans ((hX.block gr (by omega)).trans (hb0.block gr (by omega))))
  have h6:=zbe (zbe (zbe (zbe (zbe (zbe h9 (i*7+1) (.int .i64 1)) (i*7+1+1) (.string ⟨#[]⟩)) (i*7+1+2) (.slice none 0 0)) (i*7+1+3) (.int .i64 0)) (i*7+1+4) (.int .i64 0)) (i*7+1+5) v'
  have e:=zlz ys i y ⟨1,⟨#[]⟩,.slice none 0 0,0,0,v'⟩ hy
  simp only [] at e
  rw [e] at h6
  rw [List.length_set]
  exact h6
 ·obtain ⟨D,hD,hMG⟩:=h.gat.map
  rw [List.length_set]
  exact ⟨D,zch hD (keep0 m hD.lt (fun e=>by have:=(hKl m (hK m (by have:=hD.lt;omega) e)).2.1;omega) (by omega)),fun x hx=>by rw [zwf hr];exact hMG x hx⟩
 ·intro q z u hz hu
  by_cases hq:q=i
  ·subst hq
   rw [List.getElem?_set_self hil] at hz
   rw [List.getElem?_set_self hirl] at hu
   have e1:=Option.some.inj hz
   have e2:=Option.some.inj hu
   subst e1 e2
   exact h.gat.name q y r hy hr
  ·rw [List.getElem?_set_ne (by omega)] at hz hu
   exact h.gat.name q z u hz hu
 ·by_cases hq:q=i
  ·subst hq
   rw [List.getElem?_set_self hil] at hz
   rw [List.getElem?_set_self hirl] at hu
   have e1:=Option.some.inj hz
   have e2:=Option.some.inj hu
   subst e1 e2
   have hl:(vsP++vsE).length=(zbt r.expr++zbt te).length:=by simp [hlP,hlE]
   refine ⟨[],[],zbt r.expr++zbt te,vsP++vsE,rfl,rfl,⟨by simp,by simp⟩,World.ownsRow_nil _ _ _ _,?_,hl,fun b hb=>by simp [Value.ownBlock] at hb,fun b hb=>?_,fun j Z t hZ ht=>?_⟩
   ·rw [<- hl]
    refine zdz hown sg (fun e=>?_)
    exact hgrP (hv' gr (by omega) e)
   ·intro ho
    have ho':=(hoth b).1 ho
    have hbl:b<W0.heap.size:=by obtain ⟨q',z',_,hz',hzb'⟩:=ho';exact h.lt hz' hzb'
    exact (hKl b (hK b (by omega) (hv' b (by omega) hb))).2.2.1 ho'
   ·by_cases hj:j<vsP.length
    ·rw [List.getElem?_append_left hj] at hZ
     rw [List.getElem?_append_left (by omega)] at ht
     exact (hPe j Z t hZ ht).kept k0 (fun b hb hbl=>⟨fun e=>hb.2.1 e.symm,hb.1,fun e=>hb.2.1 (hv' b (by omega) e.symm).symm,fun ho=>hb.2.2 ((hoth b).1 ho)⟩)
    ·rw [List.getElem?_append_right (by omega)] at hZ
     rw [List.getElem?_append_right (by omega),<- hlP] at ht
     refine (hEe _ Z t hZ ht).kept kB (fun b hb hbl=>⟨fun e=>?_,by omega,fun e=>?_,fun ho=>?_⟩)
     ·have:=(hKl b (hK b hbl e)).1
      omega
     ·have:=(hKl b (hK b hbl (hv' b hbl e.symm))).1
      omega
     ·obtain ⟨q',z',_,hz',hzb'⟩:=(hoth b).1 ho
      have:=h.lt hz' hzb'
      omega
  ·rw [List.getElem?_set_ne (by omega)] at hz hu
   have ht:=h.top q z u hz hu
   obtain ⟨_,_,_,_,_,_,_,h1,h2,_,_,h5,_⟩:=ht
   have hM:∀ b,b<W0.heap.size->¬ zke ys q b->vP.ownBlock≠some b:=fun b hb hn' e=>hn' ⟨i,y,by omega,hy,hK b (by omega) e⟩
   refine (h.top q z u hz hu).kept k0 (fun b hb=>?_) (fun b hb=>?_) (fun b hb hn'=>⟨hM b hb hn',fun ⟨q',z',hq',hz',hzb'⟩=>?_⟩)
   ·refine keep0 b (hlt h1 hb) (fun e=>?_) (fun e=>?_)
    ·obtain ⟨_,_,_,cur,hcur⟩:=hKl b (hK b (by have:=hlt h1 hb;omega) e)
     have:=zdr h1 hb hcur
     revert this
     decide
    ·subst e
     have:=zdr h1 hb hcg
     revert this
     decide
   ·refine keep0 b (hlt h2 hb) (hM b (hlt h2 hb) (h5 b hb)) (fun e=>?_)
    subst e
    have:=zdr h2 hb hcg
    revert this
    decide
   ·by_cases hqi:q'=i
    ·subst hqi
     rw [List.getElem?_set_self hil] at hz'
     have e:=Option.some.inj hz'
     subst e
     exact hM b hb hn' (hv' b (by omega) hzb')
    ·rw [List.getElem?_set_ne (by omega)] at hz'
     exact hn' ⟨q',z',hq',hz',hzb'⟩
end Go.Proofs.YtekjnfldgjcgeaaGreatDoor
