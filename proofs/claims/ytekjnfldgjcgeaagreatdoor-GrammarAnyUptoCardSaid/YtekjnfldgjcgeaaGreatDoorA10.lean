/- Part 10 of what the laws of the grammar rest on. -/
import Derived.Test.YtekjnfldgjcgeaaGreatDoorA0
import Derived.Test.YtekjnfldgjcgeaaGreatDoorA9
import Derived.Shelf.Abstract
import Derived.Shelf.RegionOpen
import Derived.OwnWalkIn
import Derived.TacticsInMore
import Derived.LoopNIn
import Derived.LoopIn
import Derived.Great.BuildSlice
import Derived.KernelRfl
import Derived.Laws.Tables
import Derived.Laws.NewBlocks
import Derived.Laws.CopyOwn
set_option linter.all false
set_option maxRecDepth 100000
set_option maxHeartbeats 8000000
namespace Go.Proofs.YtekjnfldgjcgeaaGreatDoor
open Go.RowKit Go.Shelf
attribute [local go_sem] Oper.semAt_some
theorem zz0 (w:World) (o:Obj) (cs:Array Value):((((w.alloc o).alloc (.cells cs 91)).drew).heap)[w.heap.size+1]?=some (.cells cs 91 (0,0)):=by
 have h:=heap_alloc_new (w.alloc o) (.cells cs 91)
 rw [World.size_alloc] at h
 exact h
theorem zvc:(Tryz.prog.info? 91).map (·.size)=some 3:=by kernel_rfl
theorem zo3 {w:World} {la ka:Option Addr} {ln lc kn kc:Nat} {mk:Option Addr} {d:Int} {b o:Nat} (hk:w.cell? ⟨b,o+5,none⟩=some (.slice ka kn kc)) :
  Calls Tryz.prog 70 #[.agg #[.slice la ln lc,.pointer mk,.int .i64 d],.pointer (some ⟨b,o,none⟩)] w
   (fun e w'=>∃ (mk':Option Addr) (d':Int),(mk'=mk\/mk'=some ⟨b,o,none⟩)/\e=.returned (.agg #[.slice ka kn kc,.pointer mk',.int .i64 d'])/\Below w.heap.size w w'):=by
 have hk1:=zbi hk (.cells #[.slice la ln lc,.pointer mk,.int .i64 d] 91)
 have hk2:=zbi hk1 (.cells #[.slice none 0 0,.pointer none,.int .i64 0] 91)
 go_enter Tryz.func70,Tryz.ntmps70
 go_wp2_with fail
 all_goals go_region
 all_goals go_wp2_with fail
 all_goals
  refine bodyPost_ret_by (results_cell_row rfl _ _ (w.heap.size+1) 91 _ (0,0) _ rfl (zz0 _ _ _) Tryz.underlying91 rfl zvc) rfl ⟨_,_,?_,rfl,by go_grown⟩
 ·exact .inr rfl
 ·exact .inl rfl
theorem ze8 {β:Type} {B:Nat} {J:β->World->Prop} (h:AbidesFrom B J) {s:β} {W:World} (hs:J s W) (o:Obj):J s (W.alloc o) :=
 h s W _ none hs (World.grownBy_alloc W o none) (fun r e=>by cases e)
theorem zij {β:Type} {B:Nat} {J:β->World->Prop} (h:AbidesFrom B J) {s:β} {W W':World} (hs:J s W) (hb:Below W.heap.size W W'):J s W' :=
 h s W _ none hs ⟨hb.os,hb.tape,hb.output,hb.size,fun k hk _=>hb.block k hk⟩ (fun r e=>by cases e)
theorem zlf {W:World} {P:Nat->Prop} {mk mk':Option Addr} {kids:List Tree} {a:Addr} {n:Nat} (hor:mk'=mk\/mk'=some a) (h1:zf3 W P mk n) (h2:∀ {m:Nat},m<n->zf3 W P (some a) m) (hk:∀ u∈kids,u.tw<n):∀ u∈kids,zf3 W P mk' u.tw:=by
 intro u hu
 rcases hor with rfl | rfl
 ·exact h1.less (Nat.le_of_lt (hk u hu))
 ·exact h2 (hk u hu)
abbrev NX:={ x:List Int // zar x }
def NX.vals (l:List NX):List (List Int):=l.map (·.1)
theorem zlg {a b:Nat} {P:Program} {l:Nat} {args:Array Value} {W:World} {R:Ending->World->Prop} (h:YieldAt Fence.wide a P l args W R):YieldAt Fence.wide b P l args W R:=by
 obtain ⟨fn,tmps,assign,body,h1,h2⟩:=h
 exact ⟨fn,tmps,assign,body,h1,h2.1,fun c cs _=>h2.2 c cs (room_wide _)⟩
def qd7 (M:Nat->Prop) (J Jx:List NX->World->Prop) (pre:List NX) (names:List (List Int)) (W:World) (e:Ending) (W':World):Prop :=
 (e=.returned (.tuple #[.slice none 0 0,.bool true])/\∃ xs,NX.vals xs=names/\J (pre++xs) W'/\zap M W W')\/(e=.returned (.tuple #[.slice none 0 0,.bool false])/\∃ p,NX.vals p <+: NX.vals pre++names/\Jx p W')
theorem zjq {l:List Tree} {i:Nat} {t:Tree} (h:l[i]?=some t):((l.take (i+1)).map zai).flatten=((l.take i).map zai).flatten++zai t:=by
 rw [List.take_add_one,h]
 simp
theorem zfu (l:List Tree) (i:Nat):(((l.take i).map zai).flatten).length<=((l.map zai).flatten).length:=by
 have h:(l.map zai).flatten=((l.take i).map zai).flatten++((l.drop i).map zai).flatten:=by
  rw [<- List.flatten_append,<- List.map_append,List.take_append_drop]
 rw [h,List.length_append]
 omega
theorem zh1 (l:List Tree) (i:Nat):((l.take i).map zai).flatten <+: (l.map zai).flatten:=by
 have h:(l.map zai).flatten=((l.take i).map zai).flatten++((l.drop i).map zai).flatten:=by
  rw [<- List.flatten_append,<- List.map_append,List.take_append_drop]
 exact ⟨_,h.symm⟩
theorem zlh {l:List Tree} {t:Tree} (h:t∈l):t.tw<=(l.map Tree.tw).sum:=by
 induction l with
 | nil=>cases h
 | cons a l ih =>
  rcases List.mem_cons.1 h with rfl | h
  ·simp
  ·have:=ih h;simp;omega
theorem zvd {l B N m0:Nat} {M P:Nat->Prop} {J Jx:List NX->World->Prop} (hM:∀ b,M b->b<B) (hP:∀ b,P b->¬ M b) (hJ:AbidesFrom B J)
  (hY:∀ pre (x:NX) W,J pre W->pre.length<N->B<=W.heap.size->YieldAt Fence.wide m0 Tryz.prog l #[.string (za3 x.1)] W fun e W' =>
   (e=.returned (.bool true)/\J (pre++[x]) W'/\zap M W W')\/(e=.returned (.bool false)/\Jx (pre++[x]) W')) :
  ∀ (k:Nat) (W:World) (v:Value) (vs:List XV) (ts:List Tree) (mk:Option Addr) (d:Int) (room:Nat) (pre:List NX),(ts.map Tree.tw).sum<=k->zpv W P v vs ts->(∀ t∈ts,zf3 W P mk t.tw)->(∀ t∈ts,dep t<room)->1<=room->room<=10000 ->
   pre.length+((ts.map zai).flatten).length<=N->B<=W.heap.size->J pre W ->
   Calls Tryz.prog 47 #[.agg #[v,.pointer mk,.int .i64 d],.int .i64 room,.func (.yield l) #[] #[]] W (qd7 M J Jx pre ((ts.map zai).flatten) W):=by
 intro k
 induction k using Nat.strongRecOn with
 | _ k ih =>
 intro W v vs ts mk d room pre hk hks hmk hdep hroom1 hroom hN hB hJ0
 have IH:=hh9 ih
 have HYY:=hh9 hY
 have HJJ:=hh9 hJ
 have HMM:=hh9 hM
 have HPP:=hh9 hP
 obtain ⟨h1,h2,h3⟩:=hks
 have hKS:=hh9 (show zpv W P v vs ts from ⟨h1,h2,h3⟩)
 have H2:=hh9 h2
 have HMK:=hh9 hmk
 have HDEP:=hh9 hdep
 have HNN:=hh9 hN
 have HKK:=hh9 hk
 obtain ⟨n,hn⟩:∃ n,n=ts.length:=⟨_,rfl⟩
 rw [<- hn] at h1
 have HN:=hh9 hn
 clear ih hY hJ hM hP h2 h3 hmk hdep hN hk hn
 refine (callsIn_wide (n:=5)).1 ?_
 rcases h1 with ⟨h0,a,cap,rfl⟩ | ⟨g,off,cap,rfl,g1,g2,g3,gP,g4⟩
 ·obtain rfl:ts=[]:=List.length_eq_zero_iff.1 (by rw [<- HN.out];exact h0)
  subst h0
  have HJ1:=hh9 (ze8 HJJ.out hJ0 (.cells #[.slice a 0 cap,.pointer mk,.int .i64 d] 91))
  have HK1:=hh9 (zap.below (M:=M) (show Below W.heap.size W (W.alloc (.cells #[.slice a 0 cap,.pointer mk,.int .i64 d] 91)) from (Below.refl _ _).alloc (Nat.le_refl _) _))
  have hr0:((room:Int)==0)=false:=by simp;omega
  refine callsIn_of_wp Tryz.func47 rfl trivial ?_ rfl
  simp only [Tryz.ntmps47,List.size_toArray,List.length_cons,List.length_nil,Nat.reduceAdd,Nat.reduceSub,Array.replicate_succ,Array.replicate_zero,List.push_toArray,List.append_toArray,List.nil_append,List.cons_append]
  gi_wp2
  gi_loopw [17] (fun i wr=>i=.int .i64 0/\Hid (J pre wr)/\Hid (zap M W wr)) (fun _ _=>0)
  case atStart=>exact ⟨rfl,HJ1,HK1⟩
  case round =>
   obtain ⟨rfl,HJW,HKW⟩:=hrel
   gi_wp2
   refine bodyPost_ret (results_tmp2 rfl _ _ _) rfl ?_
   exact .inl ⟨rfl,[],rfl,by rw [List.append_nil];exact HJW.out,HKW.out⟩
 ·have G4:=hh9 g4
  unfold maxLen at g2
  have hB1:Below W.heap.size W (W.alloc (.cells #[.slice (some ⟨g,off,none⟩) n cap,.pointer mk,.int .i64 d] 91)):=(Below.refl _ _).alloc (Nat.le_refl _) _
  have HJ1:=hh9 (ze8 HJJ.out hJ0 (.cells #[.slice (some ⟨g,off,none⟩) n cap,.pointer mk,.int .i64 d] 91))
  have HK1:=hh9 (zap.below (M:=M) hB1)
  have HL1:=hh9 (heap_alloc_new W (.cells #[.slice (some ⟨g,off,none⟩) n cap,.pointer mk,.int .i64 d] 91))
  have hsz:(W.alloc (.cells #[.slice (some ⟨g,off,none⟩) n cap,.pointer mk,.int .i64 d] 91)).heap.size=W.heap.size+1:=by simp
  obtain ⟨W1,hW1⟩:∃ W1,W1=W.alloc (.cells #[.slice (some ⟨g,off,none⟩) n cap,.pointer mk,.int .i64 d] 91):=⟨_,rfl⟩
  have HC0:Hid (∀ j u,(#[Value.slice (some ⟨g,off,none⟩) n cap,.pointer mk,.int .i64 d]:Array Value)[j]?=some u->W1.cell? ⟨W.heap.size,j,none⟩=some u):=fun j u hu=>by
   have:=HL1.out
   rw [<- hW1] at this
   unfold World.cell?
   simp only [this]
   exact hu
  refine callsIn_of_wp Tryz.func47 rfl trivial ?_ rfl
  simp only [Tryz.ntmps47,List.size_toArray,List.length_cons,List.length_nil,Nat.reduceAdd,Nat.reduceSub,Array.replicate_succ,Array.replicate_zero,List.push_toArray,List.append_toArray,List.nil_append,List.cons_append]
  have hr0:((room:Int)==0)=false:=by simp;omega
  gi_wp2
  gi_loopw [17] (fun i wr=>∃ (q:Nat) (xs:List NX),i=.int .i64 q/\q<=n/\Hid (NX.vals xs=((ts.take q).map zai).flatten)/\Hid (J (pre++xs) wr)/\Hid (zap M W1 wr)) (fun i _=>n-(intOf i).toNat)
  case atStart=>exact ⟨0,[],rfl,Nat.zero_le _,rfl,by rw [List.append_nil];exact HJ1,by rw [hW1];exact zap.refl _ _⟩
  case round =>
   obtain ⟨q,xs,rfl,hq,HX,HJW,HKW⟩:=hrel
   by_cases hlt:q<n
   ·obtain ⟨Y,hY⟩:∃ y,vs[q]?=some y:=⟨_,List.getElem?_eq_getElem (by rw [H2.out,<- HN.out];exact hlt)⟩
    obtain ⟨t,ht⟩:∃ y,ts[q]?=some y:=⟨_,List.getElem?_eq_getElem (by rw [<- HN.out];exact hlt)⟩
    have hrow:=(hKS.out.2.2 q Y t hY ht)
    have hWw:zap M W wr:=by
     have:=HK1.out
     rw [<- hW1] at this
     exact this.trans HKW.out
    have CX:Hid (∀ (j:Nat) (u:Value),j<6->Y.cells[j]?=some u->wr.cell? ⟨g,off+(q*6+j),none⟩=some u):=fun j u hj hu =>
     hWw.cell g3 (HPP.out g gP) (G4.out _ u ((zc9 vs q j Y hY hj).trans hu))
    have hE0:=hh9 (hrow.kept hWw (fun b hb _=>⟨HPP.out b hb,hb⟩))
    have hmem:t∈ts:=List.mem_of_getElem? ht
    have hMT:=hh9 ((HMK.out t hmem).kept hWw (fun b hb _=>⟨HPP.out b hb,hb⟩))
    have hne:=hMT.out.ne (b:=g) (o:=off+q*6) (fun j u hj=>by rw [Nat.add_assoc];exact CX.out j u (by have:=(List.getElem?_eq_some_iff.1 hj).1;simpa [XV.cells] using this) hj) hE0.out (Nat.le_refl _)
    have hgw:Hid (zf2 wr g):=g3.kept hWw (HPP.out g gP)
    have hpe:=zyz hMT.out hgw.out hne
    have hBw:Hid (B<=wr.heap.size):=Nat.le_trans hB hWw.1
    have hMW:¬ M W.heap.size:=fun h=>by have:=HMM.out _ h;omega
    have hG0:zf2 W1 W.heap.size:=⟨_,_,.inr (.inr (.inl rfl)),by rw [hW1];exact HL1.out⟩
    have c0:=HKW.out.cell hG0 hMW (HC0.out 0 _ rfl)
    have c1:=HKW.out.cell hG0 hMW (HC0.out 1 _ rfl)
    have c2:=HKW.out.cell hG0 hMW (HC0.out 2 _ rfl)
    obtain ⟨x,ns,kids,kvs,rfl,hxt,hxo,hkp⟩:=hE0.out.kids
    have hKP:=hh9 hkp
    obtain ⟨ka,kc,eks⟩:∃ ka kc,Y.ks=.slice ka kids.length kc:=by
     rcases hkp.1 with ⟨h0,a,cap',h⟩ | ⟨g',o',cap',h,_⟩
     ·exact ⟨a,cap',by rw [h,h0]⟩
     ·exact ⟨_,_,h⟩
    rw [eks] at hKP
    have htw:Hid ((Tree.mk Y.kind x ns Y.lo Y.hi kids).tw=1+x.length+ns.length+(kids.map Tree.tw).sum):=by unfold Hid;rw [Tree.tw]
    have hlk:Hid ((kids.map Tree.tw).sum<k):=by have h1:=zlh hmem;have h2:=HKK.out;have h3:=htw.out;unfold Hid;omega
    obtain ⟨r,hrr⟩:∃ r,room=r+1:=⟨room-1,by omega⟩
    have hcast:(r:Int)=(room:Int)-1:=by omega
    have hd:=HDEP.out _ hmem
    have hdk:Hid (∀ u∈kids,dep u<r):=fun u hu=>by
     have h1:dep (Tree.mk Y.kind x ns Y.lo Y.hi kids)<=(r-1)+1:=by omega
     have h2:=qd6.1 h1 u hu
     have h3:=zpu (Tree.mk Y.kind x ns Y.lo Y.hi kids)
     by_cases hr:r=0
     ·omega
     ·have:dep (Tree.mk Y.kind x ns Y.lo Y.hi kids)<=r:=by omega
      have h5:=zpu u
      by_cases h6:kids=[]
      ·subst h6;cases hu
      ·omega
    have hr1:Hid (1<=r):=by have h3:=zpu (Tree.mk Y.kind x ns Y.lo Y.hi kids);unfold Hid;omega
    have hnm:=zdt Y.kind Y.lo Y.hi x ns kids
    have hft:=zjq ht
    have hfl:=zfu ts (q+1)
    rw [hft,hnm] at hfl
    have HFT:=hh9 hft
    have hk0:=CX.out 0 _ (by omega) rfl
    rw [Nat.add_zero] at hk0
    by_cases hk4:Y.kind=4
    ·have hk5:(Y.kind==4)=true:=by simpa using hk4
     rw [if_pos hk4] at hnm hfl
     have HNM:=hh9 hnm
     have HPF:Hid (NX.vals (pre++(xs++[(⟨x,hxo⟩:NX)]))++(kids.map zai).flatten <+: NX.vals pre++(ts.map zai).flatten):=by
      have h1:=zh1 ts (q+1)
      rw [hft,hnm] at h1
      have h2:=HX.out
      unfold NX.vals at h2
      unfold Hid NX.vals
      simp only [List.map_append,h2,List.map_cons,List.map_nil,List.append_assoc]
      exact (List.prefix_append_right_inj _).2 (by simpa [List.append_assoc] using h1)
     have HPF1:Hid (NX.vals (pre++xs++[(⟨x,hxo⟩:NX)]) <+: NX.vals pre++(ts.map zai).flatten):=by
      refine List.IsPrefix.trans ⟨(kids.map zai).flatten,?_⟩ HPF.out
      simp [NX.vals,List.append_assoc]
     have hlx:xs.length=(((ts.take q).map zai).flatten).length:=by rw [<- HX.out];simp [NX.vals]
     have hlen:Hid ((pre++(xs++[(⟨x,hxo⟩:NX)])).length+((kids.map zai).flatten).length<=N):=by
      have h1:=HNN.out
      unfold Hid
      simp only [List.length_append,List.length_cons,List.length_nil] at hfl ⊢
      omega
     have hlp:(pre++xs).length<N:=by
      have:=hlen.out
      simp only [List.length_append,List.length_cons,List.length_nil] at this ⊢
      omega
     obtain ⟨fn,tmps,assign,body,hy,hR⟩:=zlg (b:=4) (HYY.out (pre++xs) ⟨x,hxo⟩ wr HJW.out hlp hBw.out)
     dsimp only at hy
     have e1:=CX.out 1 _ (by omega) rfl
     rw [<- Nat.add_assoc,hxt] at e1
     have HR:=hh9 hR
     obtain ⟨s,hs⟩:∃ s,s=za3 x:=⟨_,rfl⟩
     rw [<- hs] at hy e1
     clear hR hrow hWw hmem hkp hd hft hfl hnm hY ht hs
     gi_wp2
     refine HR.out.mono ?_
     rintro e W3 (⟨rfl,hJ3,hk3⟩ | ⟨rfl,hJx3⟩)
     ·have HK3:=hh9 hk3
      have HJ3:Hid (J (pre++(xs++[(⟨x,hxo⟩:NX)])) W3):=by unfold Hid;rw [<- List.append_assoc];exact hJ3
      have d0:=hk3.cell (hG0.kept HKW.out hMW) hMW c0
      have d1:=hk3.cell (hG0.kept HKW.out hMW) hMW c1
      have d2:=hk3.cell (hG0.kept HKW.out hMW) hMW c2
      have CXW:∀ (j:Nat) (u:Value),j<6->Y.cells[j]?=some u->W3.cell? ⟨g,off+(q*6+j),none⟩=some u:=fun j u hj hu=>HK3.out.cell hgw.out (HPP.out g gP) (CX.out j u hj hu)
      have e5:=CXW 5 _ (by omega) rfl
      rw [<- Nat.add_assoc,eks] at e5
      have hE:=hE0.out.kept HK3.out (fun b hb _=>⟨HPP.out b hb,hb⟩)
      have HBL:=hh9 (zo3 (la:=some ⟨g,off,none⟩) (ln:=n) (lc:=cap) (mk:=mk) (d:=d) e5)
      have HCXW:=hh9 CXW
      have HEW:=hh9 hE
      have HVI0:=hh9 (fun (mk':Option Addr) (d':Int) (W2:World) (hor:mk'=mk\/mk'=some ⟨g,off+q*6,none⟩) (hb:Below W3.heap.size W3 W2) (hJ2:J (pre++(xs++[(⟨x,hxo⟩:NX)])) W2) =>
       IH.out ((kids.map Tree.tw).sum) hlk.out W2 (.slice ka kids.length kc) kvs kids mk' d' r (pre++(xs++[(⟨x,hxo⟩:NX)])) (Nat.le_refl _) (hKP.out.kept ((zap.trans HK3.out (zap.below hb))) (fun b hb _=>⟨HPP.out b hb,hb⟩))
        (zlf hor (hMT.out.kept (zap.trans HK3.out (zap.below hb)) (fun b hb _=>⟨HPP.out b hb,hb⟩)) (fun hm=>by
         refine .inr ⟨g,off+q*6,Y,Tree.mk Y.kind x ns Y.lo Y.hi kids,rfl,gP,hgw.out.kept (zap.trans HK3.out (zap.below hb)) (HPP.out g gP),fun j u hj=>?_,hE0.out.kept (zap.trans HK3.out (zap.below hb)) (fun b hb _=>⟨HPP.out b hb,hb⟩),hm⟩
         rw [Nat.add_assoc]
         exact (zap.below (M:=M) hb).cell (hgw.out.kept HK3.out (HPP.out g gP)) (HPP.out g gP) (HCXW.out j u (by have:=(List.getElem?_eq_some_iff.1 hj).1;simpa [XV.cells] using this) hj)) (fun u hu=>by rw [htw.out];have:=zlh hu;omega))
        (fun u hu=>hdk.out u hu) hr1.out (by omega) (by have:=hlen.out;simp only [List.length_append] at this ⊢;omega) (Nat.le_trans (Nat.le_trans hBw.out HK3.out.1) hb.size) hJ2)
      have HVI:=HVI0
      rw [hcast] at HVI
      clear CXW hE HVI0
      clear hk3 hJ3 c0 c1 c2 e1 hcast hrr
      gi_wp2_with (first
       | (refine ⟨trivial,?_⟩;gi_at_call 70;refine (callsIn_wide.2 HBL.out).mono ?_;rintro e W2 ⟨mk',d',hor,rfl,hb⟩;have HOR:=hh9 hor;have HB2:=hh9 hb;have HJ2:=hh9 (zij HJJ.out HJ3.out hb);have HVV:=hh9 (HVI.out mk' d' W2 HOR.out HB2.out HJ2.out);clear hor hb)
       | (refine ⟨trivial,?_⟩;gi_at_call 47;refine (callsIn_wide.2 HVV.out).mono ?_;rintro e W4 (⟨rfl,ys,hys,hJ4,hK4⟩ | ⟨rfl,p,hp,hx⟩)))
      ·go_roundw
       case rel=>exact ⟨q+1,(xs++[(⟨x,hxo⟩:NX)])++ys,by go_num,by omega,(by
         unfold Hid
         have h1:=HX.out
         have h2:=hys
         have h3:=HFT.out
         unfold NX.vals at h1 h2 ⊢
         rw [h3,HNM.out,<- h1,<- h2]
         simp),(by unfold Hid;rw [<- List.append_assoc];exact hJ4),HKW.out.trans (HK3.out.trans ((zap.below HB2.out).trans hK4))⟩
       case measure=>simp [intOf];omega
      ·refine bodyPost_ret (results_tmp2 rfl _ _ _) rfl ?_
       exact .inr ⟨rfl,p,hp.trans HPF.out,hx⟩
     ·clear hcast hrr
      gi_wp2
      refine bodyPost_ret (results_tmp2 rfl _ _ _) rfl ?_
      exact .inr ⟨rfl,_,HPF1.out,hJx3⟩
    ·have hk5:(Y.kind==4)=false:=by simpa using hk4
     rw [if_neg hk4,List.nil_append] at hnm hfl
     have HNM:=hh9 hnm
     have HPF:Hid (NX.vals (pre++xs)++(kids.map zai).flatten <+: NX.vals pre++(ts.map zai).flatten):=by
      have h1:=zh1 ts (q+1)
      rw [hft,hnm] at h1
      have h2:=HX.out
      unfold NX.vals at h2
      unfold Hid NX.vals
      simp only [List.map_append,h2,List.append_assoc]
      exact (List.prefix_append_right_inj _).2 h1
     have hlen:Hid ((pre++xs).length+((kids.map zai).flatten).length<=N):=by
      have h1:=HNN.out
      have h2:xs.length=(((ts.take q).map zai).flatten).length:=by rw [<- HX.out];simp [NX.vals]
      unfold Hid
      simp only [List.length_append] at hfl ⊢
      omega
     have HKR:=hh9 (zap.refl M wr)
     have CXW:∀ (j:Nat) (u:Value),j<6->Y.cells[j]?=some u->wr.cell? ⟨g,off+(q*6+j),none⟩=some u:=fun j u hj hu=>HKR.out.cell hgw.out (HPP.out g gP) (CX.out j u hj hu)
     have e5:=CXW 5 _ (by omega) rfl
     rw [<- Nat.add_assoc,eks] at e5
     have hE:=hE0.out.kept HKR.out (fun b hb _=>⟨HPP.out b hb,hb⟩)
     have HBL:=hh9 (zo3 (la:=some ⟨g,off,none⟩) (ln:=n) (lc:=cap) (mk:=mk) (d:=d) e5)
     have HCXW:=hh9 CXW
     have HEW:=hh9 hE
     have HVI0:=hh9 (fun (mk':Option Addr) (d':Int) (W2:World) (hor:mk'=mk\/mk'=some ⟨g,off+q*6,none⟩) (hb:Below wr.heap.size wr W2) (hJ2:J (pre++xs) W2) =>
      IH.out ((kids.map Tree.tw).sum) hlk.out W2 (.slice ka kids.length kc) kvs kids mk' d' r (pre++xs) (Nat.le_refl _) (hKP.out.kept ((zap.trans HKR.out (zap.below hb))) (fun b hb _=>⟨HPP.out b hb,hb⟩))
       (zlf hor (hMT.out.kept (zap.trans HKR.out (zap.below hb)) (fun b hb _=>⟨HPP.out b hb,hb⟩)) (fun hm=>by
        refine .inr ⟨g,off+q*6,Y,Tree.mk Y.kind x ns Y.lo Y.hi kids,rfl,gP,hgw.out.kept (zap.trans HKR.out (zap.below hb)) (HPP.out g gP),fun j u hj=>?_,hE0.out.kept (zap.trans HKR.out (zap.below hb)) (fun b hb _=>⟨HPP.out b hb,hb⟩),hm⟩
        rw [Nat.add_assoc]
        exact (zap.below (M:=M) hb).cell (hgw.out.kept HKR.out (HPP.out g gP)) (HPP.out g gP) (HCXW.out j u (by have:=(List.getElem?_eq_some_iff.1 hj).1;simpa [XV.cells] using this) hj)) (fun u hu=>by rw [htw.out];have:=zlh hu;omega))
       (fun u hu=>hdk.out u hu) hr1.out (by omega) (by have:=hlen.out;simp only [List.length_append] at this ⊢;omega) (Nat.le_trans (Nat.le_trans hBw.out HKR.out.1) hb.size) hJ2)
     have HVI:=HVI0
     rw [hcast] at HVI
     clear CXW hE HVI0
     clear hrow hWw hmem hkp hd hft hfl hnm hY ht hcast hrr
     gi_wp2
     refine ⟨fun _ h=>(by cases h),?_⟩
     gi_wp2_with (first
      | (refine ⟨trivial,?_⟩;gi_at_call 70;refine (callsIn_wide.2 HBL.out).mono ?_;rintro e W2 ⟨mk',d',hor,rfl,hb⟩;have HOR:=hh9 hor;have HB2:=hh9 hb;have HJ2:=hh9 (zij HJJ.out HJW.out hb);have HVV:=hh9 (HVI.out mk' d' W2 HOR.out HB2.out HJ2.out);clear hor hb)
      | (refine ⟨trivial,?_⟩;gi_at_call 47;refine (callsIn_wide.2 HVV.out).mono ?_;rintro e W4 (⟨rfl,ys,hys,hJ4,hK4⟩ | ⟨rfl,p,hp,hx⟩)))
     ·go_roundw
      case rel=>exact ⟨q+1,xs++ys,by go_num,by omega,(by
        unfold Hid
        have h1:=HX.out
        have h2:=hys
        have h3:=HFT.out
        unfold NX.vals at h1 h2 ⊢
        rw [h3,HNM.out,<- h1,<- h2]
        simp),(by unfold Hid;rw [<- List.append_assoc];exact hJ4),HKW.out.trans (HKR.out.trans ((zap.below HB2.out).trans hK4))⟩
      case measure=>simp [intOf];omega
     ·refine bodyPost_ret (results_tmp2 rfl _ _ _) rfl ?_
      exact .inr ⟨rfl,p,hp.trans HPF.out,hx⟩
   ·obtain rfl:q=n:=by omega
    have HEND:=hh9 (show NX.vals xs=(ts.map zai).flatten by
     have:=HX.out
     rwa [List.take_of_length_le (by have:=HN.out;omega)] at this)
    have HKE:=hh9 (show zap M W wr by
     have:=HK1.out
     rw [<- hW1] at this
     exact this.trans HKW.out)
    gi_wp2
    refine bodyPost_ret (results_tmp2 rfl _ _ _) rfl ?_
    exact .inl ⟨rfl,xs,HEND.out,HJW.out,HKE.out⟩
end Go.Proofs.YtekjnfldgjcgeaaGreatDoor
namespace Go.Proofs.YtekjnfldgjcgeaaGreatDoor
open Go.RowKit
theorem zak (w:World) (row:Option Nat):w.grownBy w row:=⟨rfl,rfl,rfl,Nat.le_refl _,fun _ _ _=>rfl⟩
theorem za5 {w w':World} {row:Option Nat} (h:w.grownBy w' row) (n:Nat):w.grownBy (w'.drewN n) row:=⟨h.os,h.tape,h.output,h.size,h.block⟩
theorem zao {w w':World} {row:Option Nat} (h:w.grownBy w' row) (o:Obj):w.grownBy (w'.alloc o) row:=h.trans (World.grownBy_alloc w' o row)
theorem zah {w w':World} {R:Nat} (h:w.grownBy w' (some R)) (k:Nat) (v:Value):w.grownBy (w'.setCell ⟨R,k,none⟩ v) (some R) :=
 h.trans ⟨rfl,rfl,rfl,by simp [World.setCell],fun i _ hi=>Below.heap_setCell _ _ _ _ (fun e=>hi (by rw [e]))⟩
theorem za4 {w w1 w':World} {row:Option Nat} (h:w.grownBy w1 row) (hb:Below w1.heap.size w1 w'):w.grownBy w' row :=
 h.trans ⟨hb.os,hb.tape,hb.output,hb.size,fun k hk _=>hb.block k hk⟩
def zmp:Array Value:=#[.int .i64 0,.string ⟨#[]⟩,.slice none 0 0,.int .i64 0,.int .i64 0,.slice none 0 0]
def XV.arr (x:XV):Array Value:=#[.int .i64 x.kind,.string x.text,x.ns,.int .i64 x.lo,.int .i64 x.hi,x.ks]
theorem zt1:(Tryz.prog.info? 35).map (·.size)=some 6:=by kernel_rfl
def Res0 (W:World) (g:Nat):Prop:=∃ cs:Array Value,cs.size=6/\W.heap[g]?=some (.cells cs 35 (0,0))
theorem zav (w:World):Res0 (w.alloc (.cells #[.int .i64 0,.string ⟨#[]⟩,.slice none 0 0,.int .i64 0,.int .i64 0,.slice none 0 0] 35)) w.heap.size:=⟨_,rfl,heap_alloc_new w _⟩
theorem Res0.kept {W W':World} {g:Nat} (h:Res0 W g) (hk:W'.heap[g]?=W.heap[g]?):Res0 W' g:=by
 obtain ⟨cs,h1,h2⟩:=h
 exact ⟨cs,h1,hk.trans h2⟩
theorem Res0.lt {W:World} {g:Nat} (h:Res0 W g):g<W.heap.size:=by
 obtain ⟨cs,_,h2⟩:=h
 exact (Array.getElem?_eq_some_iff.1 h2).1
theorem za6 {ops:Array Oper} {rest:List Oper} {o:Oper} {a:Act} {w:World} {Q:Exit->Act->World->Prop} (hgd:o.guard=none) (x y:Operand) (ho:o.op=.store 35 x y)
  (g:Nat) (X:XV) (hx:a.eval x=.pointer (some ⟨g,0,none⟩)) (hy:a.eval y=X.val) (hg:Res0 w g) (h1:X.ns.oneCell'=true) (h2:X.ks.oneCell'=true)
  (h:wpList Tryz.prog ops Q rest (a.put o.dst undef) (w.setRow g X.arr)):wpList Tryz.prog ops Q (o::rest) a w:=by
 obtain ⟨cs,hs,hg⟩:=hg
 exact wpList_store_row hgd 35 x y ho g X.arr hx hy 35 cs hg zt1 (by rw [hs];rfl) (by simp [XV.arr,h1,h2];exact ⟨rfl,rfl,rfl,rfl⟩) h
theorem zaj {fn:Func} {p:Tmp} (h:fn.results=#[.cell p 35]) (tmps:Array Value) (w:World) (g:Nat) (X:XV) (hp:tmps.getD p undef=.pointer (some ⟨g,0,none⟩)) (hg:Res0 w g) :
  (results fn tmps).run Tryz.prog (w.setRow g X.arr)=.ok X.val (w.setRow g X.arr):=by
 obtain ⟨cs,hs,hg⟩:=hg
 exact results_cell_row h tmps _ g 35 X.arr (0,0) _ hp (setRow_heap _ _ _ _ _ _ hg) Tryz.underlying35 rfl zt1
theorem zae {w w':World} {row:Option Nat} (h:w.grownBy w' row) {g:Nat} (hg:w.heap.size<=g) (cs:Array Value):w.grownBy (w'.setRow g cs) row :=
 ⟨h.os,h.tape,h.output,by simpa [World.setRow] using h.size,fun k hk hr=>(setRow_other _ _ _ _ (by omega)).trans (h.block k hk hr)⟩
theorem TreeAt.set_row {W:World} {P:Nat->Prop} {x:XV} {t:Tree} (h:TreeAt W P x t) {g:Nat} (hg:∀ b,P b->b≠g) (cs:Array Value):TreeAt (W.setRow g cs) P x t :=
 h.kept (fun b hP hl=>⟨setRow_other _ _ _ _ (hg b hP),hP⟩) (by simp [World.setRow])
theorem zei.one {W:World} {P:Nat->Prop} {v:Value} {n:Nat} {xs:List Value} (h:zei W P v n xs):v.oneCell'=true:=by
 rcases h with ⟨rfl,_⟩ | ⟨g,cap,rfl,_⟩<;>rfl
theorem zaa {W:World} {P:Nat->Prop} {x:XV} {t:Tree} (h:TreeAt W P x t):x.ns.oneCell'=true:=by
 cases h with
 | mk vs h1 h2 h3 h4=>exact h1.one
theorem zab {W:World} {P:Nat->Prop} {x:XV} {t:Tree} (h:TreeAt W P x t):x.ks.oneCell'=true:=by
 cases h with
 | mk vs h1 h2 h3 h4=>exact h2.one
theorem zh2 {a b c:World} {R g:Nat} (h:a.grownBy b (some R)) (k:b.grownBy c (some g)) (hg:a.heap.size<=g):a.grownBy c (some R) :=
 ⟨k.os.trans h.os,k.tape.trans h.tape,k.output.trans h.output,Nat.le_trans h.size k.size,fun i hi hne=>(k.block i (Nat.lt_of_lt_of_le hi h.size) (fun e=>by have:=Option.some.inj e;omega)).trans (h.block i hi hne)⟩
theorem za8 {W W':World} {g h:Nat} (hr:Res0 W g) (hk:W.grownBy W' (some h)) (hne:g≠h):Res0 W' g:=hr.kept (hk.block g hr.lt (fun e=>hne (Option.some.inj e)))
theorem zaz {W:World} {g:Nat} (hr:Res0 W g) (o:Obj):Res0 (W.alloc o) g:=hr.kept (Below.heap_alloc W o g hr.lt)
theorem zb8 {ops:Array Oper} {rest:List Oper} {o:Oper} {a:Act} {w:World} {Q:Exit->Act->World->Prop} (hgd:o.guard=none) (x:Operand) (ho:o.op=.load 35 x)
  (g:Nat) (X:XV) (hx:a.eval x=.pointer (some ⟨g,0,none⟩)) (hg:w.heap[g]?=some (.cells X.arr 35 (0,0)))
  (h:wpList Tryz.prog ops Q rest (a.put o.dst X.val) w):wpList Tryz.prog ops Q (o::rest) a w :=
 wpList_load_row hgd 35 x ho g hx 35 X.arr (0,0) _ hg Tryz.underlying35 rfl zt1 h
theorem zz1:(Tryz.prog.info? 35).map (fun i=>(i.zero,i.size,i.bytes))=some (some (.agg #[.int .i64 0,.string ⟨#[]⟩,.slice none 0 0,.int .i64 0,.int .i64 0,.slice none 0 0]),6,88):=by kernel_rfl
theorem zr9 (X:XV) (h1:X.ns.oneCell'=true) (h2:X.ks.oneCell'=true) :
  Instr.fill (fun i=>some (i*6,6)) ((Array.range (1*6)).map ((Value.agg #[.int .i64 0,.string ⟨#[]⟩,.slice none 0 0,.int .i64 0,.int .i64 0,.slice none 0 0]).cells[·%6]!)) [(0,X.val)]=some X.arr:=by
 cases X
 kernel_rfl
theorem zbc {ops:Array Oper} {rest:List Oper} {o:Oper} {a:Act} {w:World} {Q:Exit->Act->World->Prop} (hgd:o.guard=none) (y:Operand) (ho:o.op=.buildSlice 33 1 #[(0,y)])
  (X:XV) (hy:a.eval y=X.val) (h1:X.ns.oneCell'=true) (h2:X.ks.oneCell'=true)
  (h:wpList Tryz.prog ops Q rest (a.put o.dst (.slice (some ⟨w.heap.size,0,none⟩) 1 1)) (w.alloc (.cells X.arr 35))):wpList Tryz.prog ops Q (o::rest) a w:=by
 obtain ⟨i0,hi0,hi1⟩:=Option.map_eq_some_iff.1 zz1
 obtain ⟨hz0,hz1,hz2⟩:i0.zero=some _/\i0.size=6/\i0.bytes=_:=by simpa using hi1
 refine wpList_buildSlice hgd 33 35 1 #[(0,y)] ho X.arr i0 _ Tryz.underlying33 hi0 hz0 (by rw [hz1];decide) (by rw [hz1];decide) ?_ h
 rw [hz1]
 simp only [List.map_toArray,List.map_cons,List.map_nil,hy]
 exact zr9 X h1 h2
theorem zew {W:World} {g h:Nat} (hr:Res0 W g) (cs:Array Value) (hne:g≠h):Res0 (W.setRow h cs) g:=hr.kept (setRow_other _ _ _ _ hne)
theorem zdn {W:World} {g:Nat} (hr:Res0 W g) (cs:Array Value):(W.setRow g cs).heap[g]?=some (.cells cs 35 (0,0)):=by
 obtain ⟨c,_,h⟩:=hr
 exact setRow_heap _ _ _ _ _ _ h
theorem zve {w:World} {g:Nat} {x:XV} (hb:w.heap[g]?=some (.cells x.arr 35 (0,0))):∀ (j:Nat) (u:Value),x.cells[j]?=some u->w.cell? ((⟨g,0,none⟩:Addr).add j)=some u:=by
 intro j u hj
 have e:(⟨g,0,none⟩:Addr).add j=⟨g,j,none⟩:=by cases j<;>simp [Addr.add]
 rw [e]
 simp only [World.cell?,hb]
 have:x.arr.toList=x.cells:=rfl
 rw [<- this] at hj
 simpa using hj
theorem zh3 {ops:Array Oper} {rest:List Oper} {o:Oper} {a:Act} {w:World} {Q:Exit->Act->World->Prop} (hgd:o.guard=none) (sx xx:Operand)
  (ho:o.op=.call { callee:=.builtin .append,args:=#[sx,xx],argTypes:=#[33,33] }) (base:Nat) (v:Value) (l:List Tree) (t:Tree) (x:XV) (g:Nat)
  (hs:a.eval sx=v) (hx:a.eval xx=.slice (some ⟨g,0,none⟩) 1 1) (hk:zbq w base v l) (ht:TreeAt w (fun b=>base<=b/\some b≠v.ownBlock) x t)
  (hb:w.heap[g]?=some (.cells x.arr 35 (0,0))) (hl:l.length<=100000) (hbase:base<=w.heap.size)
  (h:∀ v' w',zbq w' base v' (l++[t])->w.grownBy w' v.ownBlock->wpList Tryz.prog ops Q rest (a.put o.dst v') w'):wpList Tryz.prog ops Q (o::rest) a w:=by
 obtain ⟨i0,hi0,hi1⟩:=Option.map_eq_some_iff.1 zz1
 obtain ⟨hz0,hz1,hz2⟩:i0.zero=some _/\i0.size=6/\i0.bytes=_:=by simpa using hi1
 obtain ⟨vs,h1,h2,h3⟩:=hk
 have o2:=zaa ht
 have o5:=zab ht
 refine wpList_append_own_at _ hgd sx xx 33 ho base 35 i0 _ 6 88 Tryz.underlying33 hi0 hz0 hz1 hz2 rfl (by decide) v l.length (vs.flatMap XV.cells) hs h2 ⟨g,0,none⟩ 1 1 x.cells hx rfl (zve hb) ?_ (by unfold maxLen;omega) (by omega) hbase ?_
 ·intro u hu
  simp [XV.cells] at hu
  rcases hu with rfl | rfl | rfl | rfl | rfl | rfl
  all_goals first | rfl | assumption
 ·intro v' w' hown hgrow _ hat
  exact h v' w' (zbq.push h1 h2 h3 ht hown hgrow (hat.imp id (fun e=>⟨_,e,Nat.le_refl _⟩))) hgrow
theorem zgc {W w w':World} {base R:Nat} {v:Value} {l:List Tree} (hk:zbq w base v l) (h:W.grownBy w (some R)) (hg:w.grownBy w' v.ownBlock) (hW:W.heap.size<=base):W.grownBy w' (some R):=by
 obtain ⟨vs,_,h2,_⟩:=hk
 rcases zan h2 with ⟨rfl,_⟩ | ⟨g,cap,rfl⟩
 ·exact h.trans ⟨hg.os,hg.tape,hg.output,hg.size,fun k hk _=>hg.block k hk (by simp [Value.ownBlock])⟩
 ·have hb:=(zb0 h2).1
  exact zh2 h hg (show W.heap.size<=g by omega)
theorem ziy {w w':World} {base g:Nat} {v:Value} {l:List Tree} (hk:zbq w base v l) (h:Res0 w g) (hg:w.grownBy w' v.ownBlock) (hR:g<base):Res0 w' g:=by
 obtain ⟨vs,_,h2,_⟩:=hk
 refine h.kept (hg.block g h.lt (fun e=>?_))
 rcases zan h2 with ⟨rfl,_⟩ | ⟨k,cap,rfl⟩
 ·simp [Value.ownBlock] at e
 ·have hb:=(zb0 h2).1
  have:=Option.some.inj e
  simp at this
  omega
theorem ziz {w w1:World} {base:Nat} {v:Value} {l:List Tree} {x:XV} {t:Tree} (hk:zbq w base v l) (ht:TreeAt w1 (fun b=>w.heap.size<=b) x t) (hb:base<=w.heap.size):TreeAt w1 (fun b=>base<=b/\some b≠v.ownBlock) x t:=by
 obtain ⟨vs,_,h2,_⟩:=hk
 refine ht.weak (fun b hP _=>⟨by omega,fun e=>?_⟩)
 rcases zan h2 with ⟨rfl,_⟩ | ⟨k,cap,rfl⟩
 ·simp [Value.ownBlock] at e
 ·have hb:=(zb0 h2).2.2.2
  have:=Option.some.inj e
  simp at this
  omega
end Go.Proofs.YtekjnfldgjcgeaaGreatDoor
namespace Go.Proofs.YtekjnfldgjcgeaaGreatDoor
open Go.RowKit Go.Shelf
attribute [local go_sem] Oper.semAt_some
theorem zpw (w:World):Calls Tryz.prog 48 #[.slice none 0 0] w (fun e w'=>e=.returned (.tuple #[])/\w=w'):=by
 go_enter Tryz.func48,Tryz.ntmps48
 go_wp2_with fail
 go_loop [2,3] (fun s v=>s=.int .i64 0/\v=.int .i64 (-1)) (fun _ _=>0)
 case atStart=>exact ⟨rfl,rfl⟩
 case round =>
  obtain ⟨rfl,rfl⟩:=hrel
  go_wp2_with fail
  go_end0
  exact ⟨rfl,rfl⟩
theorem zfv (W:World) (o:Obj) {b:Nat} {x:Obj} (h:W.heap[b]?=some x):(W.alloc o).heap[b]?=some x :=
 (((Below.refl W.heap.size W).alloc (Nat.le_refl _) o).block b (Array.getElem?_eq_some_iff.1 h).1).trans h
def BoxX (W:World) (b:Nat) (X:XV):Prop:=W.heap[b]?=some (.cells X.arr 35 (0,0))
theorem BoxX.cells {W:World} {b:Nat} {X:XV} (h:BoxX W b X):W.cell? ⟨b,0,none⟩=some (.int .i64 X.kind)/\W.cell? ⟨b,1,none⟩=some (.string X.text)/\W.cell? ⟨b,2,none⟩=some X.ns/\W.cell? ⟨b,3,none⟩=some (.int .i64 X.lo)/\W.cell? ⟨b,4,none⟩=some (.int .i64 X.hi)/\W.cell? ⟨b,5,none⟩=some X.ks:=by
 unfold BoxX at h
 simp [World.cell?,h,XV.arr]
theorem BoxX.kept {W W':World} {M:Nat->Prop} {b:Nat} {X:XV} (h:BoxX W b X) (hk:zap M W W') (hm:¬ M b):BoxX W' b X:=hk.2 b _ _ _ hm (.inl rfl) h
theorem zt2 {W:World} {P:Nat->Prop} {X:XV} {t:Tree} {g:Nat} (hb:BoxX W g X) (hE:ETP W P X t):zpv W (fun b=>P b\/b=g) (.slice (some ⟨g,0,none⟩) 1 1) [X] [t]:=by
 refine ⟨.inr ⟨g,0,1,rfl,by simp,by unfold maxLen;omega,⟨_,_,.inl rfl,hb⟩,.inr rfl,fun j u hj=>?_⟩,rfl,fun i y t' hy ht=>?_⟩
 ·unfold BoxX at hb
  have e:([X].flatMap XV.cells)=X.arr.toList:=by simp [XV.cells,XV.arr]
  rw [e] at hj
  unfold World.cell?
  simp only [hb,Nat.zero_add]
  simpa using hj
 ·cases i with
  | zero =>
   simp at hy ht
   subst hy ht
   exact hE.kept (M:=fun _=>False) (zap.refl _ _) (fun b hb _=>⟨id,.inl hb⟩)
  | succ i=>simp at hy
theorem zvf {l B N Bs:Nat} {M P:Nat->Prop} {J Jx:List NX->World->Prop} (hM:∀ b,M b->b<B) (hP:∀ b,P b->¬ M b) (hMs:¬ M Bs) (hJ:AbidesFrom B J)
  (hY:∀ pre (x:NX) W,J pre W->pre.length<N->B<=W.heap.size->YieldAt Fence.wide 0 Tryz.prog l #[.string (za3 x.1)] W fun e W' =>
   (e=.returned (.bool true)/\J (pre++[x]) W'/\zap M W W')\/(e=.returned (.bool false)/\Jx (pre++[x]) W'))
  {W:World} {X:XV} {t:Tree} (hE:ETP W P X t) (hb:BoxX W Bs X) (hd:dep t<=9000) (hN:(zai t).length<=N) (hB:B<=W.heap.size) (h0:J [] W) :
  CallsIn Fence.wide 5 Tryz.prog 46 #[.func (.yield l) #[] #[],.pointer (some ⟨Bs,0,none⟩)] W (fun e W'=>(∃ v,e=.returned v)/\((∃ xs,NX.vals xs=zai t/\J xs W')\/(∃ p,NX.vals p <+: zai t/\Jx p W'))):=by
 obtain ⟨k,tx,nv,lo,hi,kv⟩:=X
 obtain ⟨b0,b1,b2,b3,b4,b5⟩:=hb.cells
 obtain ⟨x,ns,kids,vs,ht,htx,hto,hks⟩:=hE.kids
 obtain ⟨na,nn,nc,rfl⟩:∃ a n c,nv=.slice a n c:=by
  cases hE with
  | mk vs h0 hl h1 h2 h3 h4 =>
   rcases h1 with ⟨_,a,cap,h⟩ | ⟨g',o',cap',h,_⟩
   ·exact ⟨_,_,_,h⟩
   ·exact ⟨_,_,_,h⟩
 obtain ⟨ka,kn,kc,rfl⟩:∃ a n c,kv=.slice a n c:=by
  rcases hks.1 with ⟨_,a,cap,h⟩ | ⟨g',o',cap',h,_⟩
  ·exact ⟨_,_,_,h⟩
  ·exact ⟨_,_,_,h⟩
 simp only [] at b0 b1 b2 b3 b4 b5
 have hb1:Below W.heap.size W (W.alloc (xobj k lo hi tx (.slice na nn nc) (.slice ka kn kc))):=(Below.refl _ _).alloc (Nat.le_refl _) _
 have hb2:Below W.heap.size W ((W.alloc (xobj k lo hi tx (.slice na nn nc) (.slice ka kn kc))).alloc (.cells #[.slice (some ⟨W.heap.size,0,none⟩) 1 1,.pointer none,.int .i64 1] 91)):=hb1.alloc (by simp) _
 have hbox:BoxX ((W.alloc (xobj k lo hi tx (.slice na nn nc) (.slice ka kn kc))).alloc (.cells #[.slice (some ⟨W.heap.size,0,none⟩) 1 1,.pointer none,.int .i64 1] 91)) W.heap.size ⟨k,tx,.slice na nn nc,lo,hi,.slice ka kn kc⟩ :=
  zfv _ _ (heap_alloc_new W (xobj k lo hi tx (.slice na nn nc) (.slice ka kn kc)))
 have hkp:=zt2 hbox (hE.kept (P':=P) (zap.below (M:=M) hb2) (fun b hb _=>⟨hP b hb,hb⟩))
 have HV:=hh9 (zvd (l:=l) (B:=B) (N:=N) (m0:=0) (M:=M) (P:=fun b=>P b\/b=W.heap.size) (J:=J) (Jx:=Jx) hM (fun b hb hm=>hb.elim (fun h=>hP b h hm) (fun h=>by have:=hM b hm;omega)) hJ hY
  t.tw _ _ [_] [t] none 1 10000 [] (by simp) hkp (fun u hu=>.inl rfl) (fun u hu=>by simp at hu;subst hu;omega) (by omega) (by omega) (by simpa using hN) (Nat.le_trans hB (by simp;omega)) (ze8 hJ (ze8 hJ h0 _) _))
 have hcell:=heap_alloc_new (W.alloc (xobj k lo hi tx (.slice na nn nc) (.slice ka kn kc))) (.cells #[.slice (some ⟨W.heap.size,0,none⟩) 1 1,.pointer none,.int .i64 1] 91)
 rw [World.size_alloc] at hcell
 have l0:((W.alloc (xobj k lo hi tx (.slice na nn nc) (.slice ka kn kc))).alloc (.cells #[.slice (some ⟨W.heap.size,0,none⟩) 1 1,.pointer none,.int .i64 1] 91)).cell? ⟨W.heap.size+1,0,none⟩=some (.slice (some ⟨W.heap.size,0,none⟩) 1 1):=by unfold World.cell?;simp only [hcell];rfl
 have l1:((W.alloc (xobj k lo hi tx (.slice na nn nc) (.slice ka kn kc))).alloc (.cells #[.slice (some ⟨W.heap.size,0,none⟩) 1 1,.pointer none,.int .i64 1] 91)).cell? ⟨W.heap.size+1,1,none⟩=some (.pointer none):=by unfold World.cell?;simp only [hcell];rfl
 have l2:((W.alloc (xobj k lo hi tx (.slice na nn nc) (.slice ka kn kc))).alloc (.cells #[.slice (some ⟨W.heap.size,0,none⟩) 1 1,.pointer none,.int .i64 1] 91)).cell? ⟨W.heap.size+1,2,none⟩=some (.int .i64 1):=by unfold World.cell?;simp only [hcell];rfl
 have HNM:Hid (([t].map zai).flatten=zai t):=by unfold Hid;simp
 rw [HNM.out] at HV
 obtain ⟨NM,hNM⟩:∃ NM,NM=zai t:=⟨_,rfl⟩
 rw [<- hNM] at HV ⊢
 unfold xobj at HV l0 l1 l2
 have hws:((W.alloc (xobj k lo hi tx (.slice na nn nc) (.slice ka kn kc))).alloc (.cells #[.slice (some ⟨W.heap.size,0,none⟩) 1 1,.pointer none,.int .i64 1] 91)).heap.size=W.heap.size+2:=by simp
 unfold xobj at hws
 clear hE hb ht htx hto hks hb1 hb2 hbox hkp hcell hNM HNM hY hJ
 obtain ⟨W2,hW2⟩:∃ W2,W2=((W.alloc (.cells #[.int .i64 k,.string tx,.slice na nn nc,.int .i64 lo,.int .i64 hi,.slice ka kn kc] 35)).alloc (.cells #[.slice (some ⟨W.heap.size,0,none⟩) 1 1,.pointer none,.int .i64 1] 91)):=⟨_,rfl⟩
 refine callsIn_of_wp Tryz.func46 rfl trivial ?_ rfl
 simp only [Tryz.ntmps46,List.size_toArray,List.length_cons,List.length_nil,Nat.reduceAdd,Nat.reduceSub,Array.replicate_succ,Array.replicate_zero,List.push_toArray,List.append_toArray,List.nil_append,List.cons_append]
 gi_wp2
 gi_loopw [3] (fun v wr=>(v=.slice (some ⟨W.heap.size+1,0,none⟩) 1 1/\wr=W2)\/(v=.slice (some ⟨W.heap.size+1,0,none⟩) 0 1/\∃ xs,NX.vals xs=NM/\J xs wr)) (fun v _=>match v with | .slice _ n _=>n | _=>0)
 case atStart=>exact .inl ⟨rfl,by rw [hW2]⟩
 case round =>
  rcases hrel with ⟨rfl,rfl⟩ | ⟨rfl,xs,hxs,hJx⟩
  ·subst hW2
   gi_wp2_with (first
    | (refine ⟨trivial,?_⟩;gi_at_call 47;refine (callsIn_wide.2 HV.out).mono ?_;rintro e W4 (⟨rfl,ys,hys,hJ4,hK4⟩ | ⟨rfl,p,hp,hx⟩))
    | (refine ⟨trivial,?_⟩;gi_at_call 48;refine (callsIn_wide.2 (zpw _)).mono ?_;rintro e w' ⟨rfl,rfl⟩))
   ·exact ⟨.inr ⟨rfl,ys,hys,hJ4⟩,by show (0:Nat)<1;omega⟩
   ·refine bodyPost_ret (results_none rfl _ _ _) rfl ?_
    exact ⟨⟨_,rfl⟩,.inr ⟨p,by simpa [NX.vals] using hp,hx⟩⟩
  ·gi_wp2
   go_end0
   exact ⟨⟨_,rfl⟩,.inl ⟨xs,hxs,hJx⟩⟩
theorem zfw {Bs:Nat} {M P:Nat->Prop} {w:World} {X:XV} {t:Tree} (hM:∀ b,M b->b<w.heap.size) (hP:∀ b,P b->¬ M b) (hMs:¬ M Bs) (hE:ETP w P X t) (hb:BoxX w Bs X) (hd:dep t<=9000) :
  SeqStopsK Fence.wide 5 Tryz.prog 46 #[.pointer (some ⟨Bs,0,none⟩)] (fun x:NX=>#[Value.string (za3 x.1)]) (zap M) (fun xs=>NX.vals xs=zai t) (fun xs=>NX.vals xs <+: zai t) (zai t).length w :=
 fun l J Jx W hW hJ _ hY h0=>(zvf (l:=l) (B:=W.heap.size) (N:=(zai t).length) (M:=M) (P:=P) (J:=J) (Jx:=Jx) (fun b hm=>Nat.lt_of_lt_of_le (hM b hm) hW.size) hP hMs hJ (fun pre x W1 h1 h2 _=>zlg (hY pre x W1 h1 h2))
  (hE.kept (zap.below (M:=M) hW) (fun b hb _=>⟨hP b hb,hb⟩)) (hb.kept (zap.below (M:=M) hW) hMs) hd (Nat.le_refl _) (Nat.le_refl _) h0).mono fun e W' ⟨h1,h2⟩=>⟨h1,by
   rcases h2 with ⟨xs,h2,h3⟩ | ⟨p,hp,h2⟩
   ·exact .inl ⟨xs,h2,h3⟩
   ·exact .inr ⟨p,hp,h2⟩⟩
theorem zjr {w:World} (X:XV) (h1:X.ns.oneCell'=true) (h2:X.ks.oneCell'=true):Calls Tryz.prog 27 #[X.val] w (fun e w'=>e=.returned (.func (.func 46) #[] #[.pointer (some ⟨w.heap.size,0,none⟩)])/\w'=w.alloc (xobj X.kind X.lo X.hi X.text X.ns X.ks)):=by
 obtain ⟨k,tx,nv,lo,hi,kv⟩:=X
 show Calls Tryz.prog 27 #[.agg #[.int .i64 k,.string tx,nv,.int .i64 lo,.int .i64 hi,kv]] w _
 go_enter Tryz.func27,Tryz.ntmps27
 go_wp2_with fail
 go_ret
 exact ⟨rfl,rfl⟩
end Go.Proofs.YtekjnfldgjcgeaaGreatDoor
