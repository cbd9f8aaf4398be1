/- Part 13 of what the laws of the grammar rest on. -/
import Derived.Test.YtahibnnhjahmnaaGreatDoorA12
import Derived.Shelf.Abstract
import Derived.Shelf.RegionOpen
import Derived.OwnWalkIn
import Derived.TacticsInMore
import Derived.LoopNIn
import Derived.LoopIn
set_option linter.all false
set_option maxRecDepth 100000
set_option maxHeartbeats 8000000
namespace Go.Proofs.YtahibnnhjahmnaaGreatDoor
open Go.RowKit Go.Shelf
attribute [local go_sem] Oper.semAt_some
theorem qag(w:World)(o:Obj)(cs:Array Value):((((w.alloc o).alloc (.cells cs 65)).drew).heap)[w.heap.size+1]?=some (.cells cs 65 (0,0)):=by
 have h:=zbO (w.alloc o) (.cells cs 65);rw[World.size_alloc]at h;exact h
theorem zww:(Tryz.prog.info? 65).map (·.size)=some 3:=by kernel_rfl
theorem XD{w:World}{la ka:Option Addr}{ln lc kn kc:Nat}{mk:Option Addr}{d:Int}{b o:Nat}(hk:w.cell? ⟨b,o+5,none⟩=some (.slice ka kn kc)) :
  Calls Tryz.prog 40 #[.agg #[.slice la ln lc,.pointer mk,.int .i64 d],.pointer (some ⟨b,o,none⟩)] w
   (fun e w'=>∃ (mk':Option Addr) (d':Int),(mk'=mk\/mk'=some ⟨b,o,none⟩)/\e=.returned (.agg #[.slice ka kn kc,.pointer mk',.int .i64 d'])/\Below w.heap.size w w'):=by
 have hk1:=jr hk (.cells #[.slice la ln lc,.pointer mk,.int .i64 d] 65);have hk2:=jr hk1 (.cells #[.slice none 0 0,.pointer none,.int .i64 0] 65);go_enter Tryz.func40,Tryz.ntmps40;go_wp2_with fail
 all_goals go_region
 all_goals go_wp2_with fail
 all_goals
  refine bodyPost_ret_by (results_cell_row rfl _ _ (w.heap.size+1) 65 _ (0,0) _ rfl (qag _ _ _) Tryz.underlying65 rfl zww) rfl ⟨_,_,?_,rfl,by go_grown⟩
 ·exact .inr rfl
 ·exact .inl rfl
theorem NS{β:Type}{B:Nat}{J:β->World->Prop}(h:AbidesFrom B J){s:β}{W:World}(hs:J s W)(o:Obj):J s (W.alloc o) :=
 h s W _ none hs (World.grownBy_alloc W o none) (fun r e=>by cases e)
theorem XE{β:Type}{B:Nat}{J:β->World->Prop}(h:AbidesFrom B J){s:β}{W W':World}(hs:J s W)(hb:Below W.heap.size W W'):J s W' :=
 h s W _ none hs ⟨hb.os,hb.tape,hb.output,hb.size,fun k hk _=>hb.block k hk⟩ (fun r e=>by cases e)
theorem XF{W:World}{P:Nat->Prop}{mk mk':Option Addr}{kids:List Tree}{a:Addr}{n:Nat}(hor:mk'=mk\/mk'=some a)(h1:wP W P mk n)(h2:∀ {m:Nat},m<n->wP W P (some a) m)(hk:∀ u∈kids,u.tw<n):∀ u∈kids,wP W P mk' u.tw:=by
 intro u hu;rcases hor with rfl|rfl
 ·exact h1.less (Nat.le_of_lt (hk u hu))
 ·exact h2 (hk u hu)
abbrev NX:={ x:List Int // bJ x }
def NX.vals(l:List NX):List (List Int):=l.map (·.1)
theorem XG{a b:Nat}{P:Program}{l:Nat}{args:Array Value}{W:World}{R:Ending->World->Prop}(h:YieldAt Fence.wide a P l args W R):YieldAt Fence.wide b P l args W R:=by
 obtain⟨fn,tmps,assign,body,h1,h2⟩:=h;exact⟨fn,tmps,assign,body,h1,h2.1,fun c cs _=>h2.2 c cs (room_wide _)⟩
def qei(M:Nat->Prop)(J Jx:List NX->World->Prop)(pre:List NX)(names:List (List Int))(W:World)(e:Ending)(W':World):Prop :=
 (e=.returned (.tuple #[.slice none 0 0,.bool true])/\∃ xs,NX.vals xs=names/\J (pre++xs) W'/\zap M W W')\/(e=.returned (.tuple #[.slice none 0 0,.bool false])/\∃ p,NX.vals p <+: NX.vals pre++names/\Jx p W')
theorem Rk{l:List Tree}{i:Nat}{t:Tree}(h:l[i]?=some t):((l.take (i+1)).map bn).flatten=((l.take i).map bn).flatten++bn t:=by
 rw[List.take_add_one,h];simp
theorem Rl(l:List Tree)(i:Nat):(((l.take i).map bn).flatten).length<=((l.map bn).flatten).length:=by
 have h:(l.map bn).flatten=((l.take i).map bn).flatten++((l.drop i).map bn).flatten:=by
  rw[<- List.flatten_append,<- List.map_append,List.take_append_drop]
 rw[h,zbG];omega
theorem XH(l:List Tree)(i:Nat):((l.take i).map bn).flatten <+: (l.map bn).flatten:=by
 have h:(l.map bn).flatten=((l.take i).map bn).flatten++((l.drop i).map bn).flatten:=by
  rw[<- List.flatten_append,<- List.map_append,List.take_append_drop]
 exact⟨_,h.symm⟩
theorem Hr{l:List Tree}{t:Tree}(h:t∈l):t.tw<=(l.map Tree.tw).sum:=by
 induction l with
 |nil=>cases h
 |cons a l ih =>
  rcases List.mem_cons.1 h with rfl|h
  ·simp
  ·have:=ih h;simp;omega
theorem zwx{l B N m0:Nat}{M P:Nat->Prop}{J Jx:List NX->World->Prop}(hM:∀ b,M b->b<B)(hP:∀ b,P b->¬ M b)(hJ:AbidesFrom B J)
  (hY:∀ pre (x:NX) W,J pre W->pre.length<N->B<=W.heap.size->YieldAt Fence.wide m0 Tryz.prog l #[.string (ak x.1)] W fun e W' =>
   (e=.returned (.bool true)/\J (pre++[x]) W'/\zap M W W')\/(e=.returned (.bool false)/\Jx (pre++[x]) W')) :
  ∀ (k:Nat) (W:World) (v:Value) (vs:List XV) (ts:List Tree) (mk:Option Addr) (d:Int) (room:Nat) (pre:List NX),(ts.map Tree.tw).sum<=k->EP W P v vs ts->(∀ t∈ts,wP W P mk t.tw)->(∀ t∈ts,dep t<room)->1<=room->room<=10000 ->
   pre.length+((ts.map bn).flatten).length<=N->B<=W.heap.size->J pre W ->
   Calls Tryz.prog 23 #[.agg #[v,.pointer mk,.int .i64 d],.int .i64 room,.func (.yield l) #[] #[]] W (qei M J Jx pre ((ts.map bn).flatten) W):=by
 intro k
 induction k using Nat.strongRecOn with
 |_ k ih =>
 intro W v vs ts mk d room pre hk hks hmk ER hroom1 hroom hN hB hJ0;have IH:=hh9 ih;have HYY:=hh9 hY;have NT:=hh9 hJ;have ng:=hh9 hM;have nG:=hh9 hP;obtain⟨h1,h2,h3⟩:=hks;have hKS:=hh9 (show EP W P v vs ts from⟨h1,h2,h3⟩);have H2:=hh9 h2;have Ez:=hh9 hmk;have Rm:=hh9 ER;have bH:=hh9 hN;have HKK:=hh9 hk;obtain⟨n,hn⟩:∃ n,n=ts.length:=⟨_,rfl⟩
 rw[<- hn]at h1;have HN:=hh9 hn;clear ih hY hJ hM hP h2 h3 hmk ER hN hk hn;refine(callsIn_wide (n:=5)).1 ?_;rcases h1 with ⟨h0,a,cap,rfl⟩|⟨g,off,cap,rfl,g1,g2,g3,gP,g4⟩
 ·obtain rfl:ts=[]:=List.length_eq_zero_iff.1 (by rw[<- HN.out];exact h0);subst h0;have ES:=hh9 (NS NT.out hJ0 (.cells #[.slice a 0 cap,.pointer mk,.int .i64 d] 65));have AA:=hh9 (zap.below (M:=M) (show Below W.heap.size W (W.alloc (.cells #[.slice a 0 cap,.pointer mk,.int .i64 d] 65)) from(zbE _ _).alloc (zbA _) _));have hr0:((room:Int)==0)=false:=by simp;omega
  refine callsIn_of_wp Tryz.func23 rfl trivial ?_ rfl;simp only[Tryz.ntmps23,List.size_toArray,List.length_cons,List.length_nil,Nat.reduceAdd,Nat.reduceSub,Array.replicate_succ,Array.replicate_zero,List.push_toArray,List.append_toArray,List.nil_append,List.cons_append];gi_wp2
  gi_loopw [17] (fun i wr=>i=.int .i64 0/\Hid (J pre wr)/\Hid (zap M W wr)) (fun _ _=>0)
  case atStart=>exact⟨rfl,ES,AA⟩
  case round =>
   obtain⟨rfl,JY,xZ⟩:=hrel;gi_wp2;refine bodyPost_ret (results_tmp2 rfl _ _ _) rfl ?_;exact .inl ⟨rfl,[],rfl,by rw[List.append_nil];exact JY.out,xZ.out⟩
 ·have G4:=hh9 g4;unfold maxLen at g2;have hB1:Below W.heap.size W (W.alloc (.cells #[.slice (some ⟨g,off,none⟩) n cap,.pointer mk,.int .i64 d] 65)):=(zbE _ _).alloc (zbA _) _;have ES:=hh9 (NS NT.out hJ0 (.cells #[.slice (some ⟨g,off,none⟩) n cap,.pointer mk,.int .i64 d] 65));have AA:=hh9 (zap.below (M:=M) hB1);have yE:=hh9 (zbO W (.cells #[.slice (some ⟨g,off,none⟩) n cap,.pointer mk,.int .i64 d] 65));have hsz:(W.alloc (.cells #[.slice (some ⟨g,off,none⟩) n cap,.pointer mk,.int .i64 d] 65)).heap.size=W.heap.size+1:=by simp
  obtain⟨W1,hW1⟩:∃ W1,W1=W.alloc (.cells #[.slice (some ⟨g,off,none⟩) n cap,.pointer mk,.int .i64 d] 65):=⟨_,rfl⟩
  have Ht:Hid (∀ j u,(#[Value.slice (some ⟨g,off,none⟩) n cap,.pointer mk,.int .i64 d]:Array Value)[j]?=some u->W1.cell? ⟨W.heap.size,j,none⟩=some u):=fun j u hu=>by
   have:=yE.out;rw[<- hW1]at this;unfold World.cell?;simp only[this];exact hu
  refine callsIn_of_wp Tryz.func23 rfl trivial ?_ rfl;simp only[Tryz.ntmps23,List.size_toArray,List.length_cons,List.length_nil,Nat.reduceAdd,Nat.reduceSub,Array.replicate_succ,Array.replicate_zero,List.push_toArray,List.append_toArray,List.nil_append,List.cons_append];have hr0:((room:Int)==0)=false:=by simp;omega
  gi_wp2
  gi_loopw [17] (fun i wr=>∃ (q:Nat) (xs:List NX),i=.int .i64 q/\q<=n/\Hid (NX.vals xs=((ts.take q).map bn).flatten)/\Hid (J (pre++xs) wr)/\Hid (zap M W1 wr)) (fun i _=>n-(intOf i).toNat)
  case atStart=>exact⟨0,[],rfl,Nat.zero_le _,rfl,by rw[List.append_nil];exact ES,by rw[hW1];exact zap.refl _ _⟩
  case round =>
   obtain⟨q,xs,rfl,hq,HX,JY,xZ⟩:=hrel;by_cases hlt:q<n
   ·obtain⟨Y,hY⟩:∃ y,vs[q]?=some y:=⟨_,zbC (by rw[H2.out,<- HN.out];exact hlt)⟩
    obtain⟨t,ht⟩:∃ y,ts[q]?=some y:=⟨_,zbC (by rw[<- HN.out];exact hlt)⟩
    have hrow:=(hKS.out.2.2 q Y t hY ht)
    have hWw:zap M W wr:=by
     have:=AA.out;rw[<- hW1]at this;exact this.trans xZ.out
    have CX:Hid (∀ (j:Nat) (u:Value),j<6->Y.cells[j]?=some u->wr.cell? ⟨g,off+(q*6+j),none⟩=some u):=fun j u hj hu =>
     hWw.cell g3 (nG.out g gP) (G4.out _ u ((pV vs q j Y hY hj).trans hu))
    have hE0:=hh9 (hrow.kept hWw (fun b hb _=>⟨nG.out b hb,hb⟩));have hmem:t∈ts:=zbI ht;have hMT:=hh9 ((Ez.out t hmem).kept hWw (fun b hb _=>⟨nG.out b hb,hb⟩));have hne:=hMT.out.ne (b:=g) (o:=off+q*6) (fun j u hj=>by rw[Nat.add_assoc];exact CX.out j u (by have:=(zbF.1 hj).1;simpa[XV.cells]using this) hj) hE0.out (zbA _);have hgw:Hid (wO wr g):=g3.kept hWw (nG.out g gP);have hpe:=qaf hMT.out hgw.out hne;have hBw:Hid (B<=wr.heap.size):=zbH hB hWw.1;have BX:¬ M W.heap.size:=fun h=>by have:=ng.out _ h;omega
    have hG0:wO W1 W.heap.size:=⟨_,_,.inr (.inr (.inl rfl)),by rw[hW1];exact yE.out⟩
    have c0:=xZ.out.cell hG0 BX (Ht.out 0 _ rfl);have c1:=xZ.out.cell hG0 BX (Ht.out 1 _ rfl);have c2:=xZ.out.cell hG0 BX (Ht.out 2 _ rfl);obtain⟨x,ns,kids,kvs,rfl,hxt,hxo,hkp⟩:=hE0.out.kids;have Rn:=hh9 hkp
    obtain⟨ka,kc,Ro⟩:∃ ka kc,Y.ks=.slice ka kids.length kc:=by
     rcases hkp.1 with ⟨h0,a,cap',h⟩|⟨g',o',cap',h,_⟩
     ·exact⟨a,cap',by rw[h,h0]⟩
     ·exact⟨_,_,h⟩
    rw[Ro]at Rn;have sH:Hid ((Tree.mk Y.kind x ns Y.lo Y.hi kids).tw=1+x.length+ns.length+(kids.map Tree.tw).sum):=by unfold Hid;rw[Tree.tw]
    have hlk:Hid ((kids.map Tree.tw).sum<k):=by have h1:=Hr hmem;have h2:=HKK.out;have h3:=sH.out;unfold Hid;omega
    obtain⟨r,hrr⟩:∃ r,room=r+1:=⟨room-1,by omega⟩
    have hcast:(r:Int)=(room:Int)-1:=by omega
    have hd:=Rm.out _ hmem
    have hdk:Hid (∀ u∈kids,dep u<r):=fun u hu=>by
     have h1:dep (Tree.mk Y.kind x ns Y.lo Y.hi kids)<=(r-1)+1:=by omega
     have h2:=qeh.1 h1 u hu;have h3:=Rj (Tree.mk Y.kind x ns Y.lo Y.hi kids);by_cases hr:r=0
     ·omega
     ·have:dep (Tree.mk Y.kind x ns Y.lo Y.hi kids)<=r:=by omega
      have h5:=Rj u;by_cases h6:kids=[]
      ·subst h6;cases hu
      ·omega
    have hr1:Hid (1<=r):=by have h3:=Rj (Tree.mk Y.kind x ns Y.lo Y.hi kids);unfold Hid;omega
    have hnm:=Dr Y.kind Y.lo Y.hi x ns kids;have hft:=Rk ht;have hfl:=Rl ts (q+1);rw[hft,hnm]at hfl;have XI:=hh9 hft;have hk0:=CX.out 0 _ (by omega) rfl;rw[Nat.add_zero]at hk0;by_cases hk4:Y.kind=4
    ·have hk5:(Y.kind==4)=true:=by simpa using hk4
     rw[if_pos hk4]at hnm hfl;have iM:=hh9 hnm
     have NU:Hid (NX.vals (pre++(xs++[(⟨x,hxo⟩:NX)]))++(kids.map bn).flatten <+: NX.vals pre++(ts.map bn).flatten):=by
      have h1:=XH ts (q+1);rw[hft,hnm]at h1;have h2:=HX.out;unfold NX.vals at h2;unfold Hid NX.vals;simp only[List.map_append,h2,List.map_cons,List.map_nil,List.append_assoc];exact(List.prefix_append_right_inj _).2 (by simpa[List.append_assoc]using h1)
     have Rp:Hid (NX.vals (pre++xs++[(⟨x,hxo⟩:NX)]) <+: NX.vals pre++(ts.map bn).flatten):=by
      refine List.IsPrefix.trans ⟨(kids.map bn).flatten,?_⟩ NU.out;simp[NX.vals,List.append_assoc]
     have hlx:xs.length=(((ts.take q).map bn).flatten).length:=by rw[<- HX.out];simp[NX.vals]
     have hlen:Hid ((pre++(xs++[(⟨x,hxo⟩:NX)])).length+((kids.map bn).flatten).length<=N):=by
      have h1:=bH.out;unfold Hid;simp only[zbG,List.length_cons,List.length_nil]at hfl ⊢;omega
     have hlp:(pre++xs).length<N:=by
      have:=hlen.out;simp only[zbG,List.length_cons,List.length_nil]at this ⊢;omega
     obtain⟨fn,tmps,assign,body,hy,hR⟩:=XG (b:=4) (HYY.out (pre++xs) ⟨x,hxo⟩ wr JY.out hlp hBw.out)
     dsimp only at hy
     have e1:=CX.out 1 _ (by omega) rfl;rw[<- Nat.add_assoc,hxt]at e1;have HR:=hh9 hR;obtain⟨s,hs⟩:∃ s,s=ak x:=⟨_,rfl⟩
     rw[<- hs]at hy e1;clear hR hrow hWw hmem hkp hd hft hfl hnm hY ht hs;gi_wp2;refine HR.out.mono ?_;rintro e W3 (⟨rfl,hJ3,hk3⟩|⟨rfl,hJx3⟩)
     ·have jN:=hh9 hk3;have Rq:Hid (J (pre++(xs++[(⟨x,hxo⟩:NX)])) W3):=by unfold Hid;rw[<- List.append_assoc];exact hJ3
      have d0:=hk3.cell (hG0.kept xZ.out BX) BX c0;have d1:=hk3.cell (hG0.kept xZ.out BX) BX c1;have d2:=hk3.cell (hG0.kept xZ.out BX) BX c2;have ET:∀ (j:Nat) (u:Value),j<6->Y.cells[j]?=some u->W3.cell? ⟨g,off+(q*6+j),none⟩=some u:=fun j u hj hu=>jN.out.cell hgw.out (nG.out g gP) (CX.out j u hj hu)
      have e5:=ET 5 _ (by omega) rfl;rw[<- Nat.add_assoc,Ro]at e5;have hE:=hE0.out.kept jN.out (fun b hb _=>⟨nG.out b hb,hb⟩);have DI:=hh9 (XD (la:=some ⟨g,off,none⟩) (ln:=n) (lc:=cap) (mk:=mk) (d:=d) e5);have EU:=hh9 ET;have Hu:=hh9 hE
      have yL:=hh9 (fun (mk':Option Addr) (d':Int) (W2:World) (hor:mk'=mk\/mk'=some ⟨g,off+q*6,none⟩) (hb:Below W3.heap.size W3 W2) (hJ2:J (pre++(xs++[(⟨x,hxo⟩:NX)])) W2) =>
       IH.out ((kids.map Tree.tw).sum) hlk.out W2 (.slice ka kids.length kc) kvs kids mk' d' r (pre++(xs++[(⟨x,hxo⟩:NX)])) (zbA _) (Rn.out.kept ((zap.trans jN.out (zap.below hb))) (fun b hb _=>⟨nG.out b hb,hb⟩))
        (XF hor (hMT.out.kept (zap.trans jN.out (zap.below hb)) (fun b hb _=>⟨nG.out b hb,hb⟩)) (fun hm=>by
         refine .inr ⟨g,off+q*6,Y,Tree.mk Y.kind x ns Y.lo Y.hi kids,rfl,gP,hgw.out.kept (zap.trans jN.out (zap.below hb)) (nG.out g gP),fun j u hj=>?_,hE0.out.kept (zap.trans jN.out (zap.below hb)) (fun b hb _=>⟨nG.out b hb,hb⟩),hm⟩;rw[Nat.add_assoc];exact(zap.below (M:=M) hb).cell (hgw.out.kept jN.out (nG.out g gP)) (nG.out g gP) (EU.out j u (by have:=(zbF.1 hj).1;simpa[XV.cells]using this) hj)) (fun u hu=>by rw[sH.out];have:=Hr hu;omega))
        (fun u hu=>hdk.out u hu) hr1.out (by omega) (by have:=hlen.out;simp only[zbG]at this ⊢;omega) (zbH (zbH hBw.out jN.out.1) hb.size) hJ2)
      have JZ:=yL;rw[hcast]at JZ;clear ET hE yL;clear hk3 hJ3 c0 c1 c2 e1 hcast hrr
      gi_wp2_with (first
       |(refine⟨trivial,?_⟩;gi_at_call 40;refine(callsIn_wide.2 DI.out).mono ?_;rintro e W2 ⟨mk',d',hor,rfl,hb⟩;have Rs:=hh9 hor;have HB2:=hh9 hb;have HJ2:=hh9 (XE NT.out Rq.out hb);have Rt:=hh9 (JZ.out mk' d' W2 Rs.out HB2.out HJ2.out);clear hor hb)
       |(refine⟨trivial,?_⟩;gi_at_call 23;refine(callsIn_wide.2 Rt.out).mono ?_;rintro e W4 (⟨rfl,ys,hys,DJ,hK4⟩|⟨rfl,p,hp,hx⟩)))
      ·go_roundw
       case rel=>exact⟨q+1,(xs++[(⟨x,hxo⟩:NX)])++ys,by go_num,by omega,(by
         unfold Hid;have h1:=HX.out;have h2:=hys;have h3:=XI.out;unfold NX.vals at h1 h2 ⊢;rw[h3,iM.out,<- h1,<- h2];simp),(by unfold Hid;rw[<- List.append_assoc];exact DJ),xZ.out.trans (jN.out.trans ((zap.below HB2.out).trans hK4))⟩
       case measure=>simp[intOf];omega
      ·refine bodyPost_ret (results_tmp2 rfl _ _ _) rfl ?_;exact .inr ⟨rfl,p,hp.trans NU.out,hx⟩
     ·clear hcast hrr;gi_wp2;refine bodyPost_ret (results_tmp2 rfl _ _ _) rfl ?_;exact .inr ⟨rfl,_,Rp.out,hJx3⟩
    ·have hk5:(Y.kind==4)=false:=by simpa using hk4
     rw[if_neg hk4,List.nil_append]at hnm hfl;have iM:=hh9 hnm
     have NU:Hid (NX.vals (pre++xs)++(kids.map bn).flatten <+: NX.vals pre++(ts.map bn).flatten):=by
      have h1:=XH ts (q+1);rw[hft,hnm]at h1;have h2:=HX.out;unfold NX.vals at h2;unfold Hid NX.vals;simp only[List.map_append,h2,List.append_assoc];exact(List.prefix_append_right_inj _).2 h1
     have hlen:Hid ((pre++xs).length+((kids.map bn).flatten).length<=N):=by
      have h1:=bH.out;have h2:xs.length=(((ts.take q).map bn).flatten).length:=by rw[<- HX.out];simp[NX.vals]
      unfold Hid;simp only[zbG]at hfl ⊢;omega
     have BZ:=hh9 (zap.refl M wr);have ET:∀ (j:Nat) (u:Value),j<6->Y.cells[j]?=some u->wr.cell? ⟨g,off+(q*6+j),none⟩=some u:=fun j u hj hu=>BZ.out.cell hgw.out (nG.out g gP) (CX.out j u hj hu)
     have e5:=ET 5 _ (by omega) rfl;rw[<- Nat.add_assoc,Ro]at e5;have hE:=hE0.out.kept BZ.out (fun b hb _=>⟨nG.out b hb,hb⟩);have DI:=hh9 (XD (la:=some ⟨g,off,none⟩) (ln:=n) (lc:=cap) (mk:=mk) (d:=d) e5);have EU:=hh9 ET;have Hu:=hh9 hE
     have yL:=hh9 (fun (mk':Option Addr) (d':Int) (W2:World) (hor:mk'=mk\/mk'=some ⟨g,off+q*6,none⟩) (hb:Below wr.heap.size wr W2) (hJ2:J (pre++xs) W2) =>
      IH.out ((kids.map Tree.tw).sum) hlk.out W2 (.slice ka kids.length kc) kvs kids mk' d' r (pre++xs) (zbA _) (Rn.out.kept ((zap.trans BZ.out (zap.below hb))) (fun b hb _=>⟨nG.out b hb,hb⟩))
       (XF hor (hMT.out.kept (zap.trans BZ.out (zap.below hb)) (fun b hb _=>⟨nG.out b hb,hb⟩)) (fun hm=>by
        refine .inr ⟨g,off+q*6,Y,Tree.mk Y.kind x ns Y.lo Y.hi kids,rfl,gP,hgw.out.kept (zap.trans BZ.out (zap.below hb)) (nG.out g gP),fun j u hj=>?_,hE0.out.kept (zap.trans BZ.out (zap.below hb)) (fun b hb _=>⟨nG.out b hb,hb⟩),hm⟩;rw[Nat.add_assoc];exact(zap.below (M:=M) hb).cell (hgw.out.kept BZ.out (nG.out g gP)) (nG.out g gP) (EU.out j u (by have:=(zbF.1 hj).1;simpa[XV.cells]using this) hj)) (fun u hu=>by rw[sH.out];have:=Hr hu;omega))
       (fun u hu=>hdk.out u hu) hr1.out (by omega) (by have:=hlen.out;simp only[zbG]at this ⊢;omega) (zbH (zbH hBw.out BZ.out.1) hb.size) hJ2)
     have JZ:=yL;rw[hcast]at JZ;clear ET hE yL;clear hrow hWw hmem hkp hd hft hfl hnm hY ht hcast hrr;gi_wp2;refine⟨fun _ h=>(by cases h),?_⟩
     gi_wp2_with (first
      |(refine⟨trivial,?_⟩;gi_at_call 40;refine(callsIn_wide.2 DI.out).mono ?_;rintro e W2 ⟨mk',d',hor,rfl,hb⟩;have Rs:=hh9 hor;have HB2:=hh9 hb;have HJ2:=hh9 (XE NT.out JY.out hb);have Rt:=hh9 (JZ.out mk' d' W2 Rs.out HB2.out HJ2.out);clear hor hb)
      |(refine⟨trivial,?_⟩;gi_at_call 23;refine(callsIn_wide.2 Rt.out).mono ?_;rintro e W4 (⟨rfl,ys,hys,DJ,hK4⟩|⟨rfl,p,hp,hx⟩)))
     ·go_roundw
      case rel=>exact⟨q+1,xs++ys,by go_num,by omega,(by
        unfold Hid;have h1:=HX.out;have h2:=hys;have h3:=XI.out;unfold NX.vals at h1 h2 ⊢;rw[h3,iM.out,<- h1,<- h2];simp),(by unfold Hid;rw[<- List.append_assoc];exact DJ),xZ.out.trans (BZ.out.trans ((zap.below HB2.out).trans hK4))⟩
      case measure=>simp[intOf];omega
     ·refine bodyPost_ret (results_tmp2 rfl _ _ _) rfl ?_;exact .inr ⟨rfl,p,hp.trans NU.out,hx⟩
   ·obtain rfl:q=n:=by omega
    have aU:=hh9 (show NX.vals xs=(ts.map bn).flatten by
     have:=HX.out;rwa[List.take_of_length_le (by have:=HN.out;omega)]at this)
    have HKE:=hh9 (show zap M W wr by
     have:=AA.out;rw[<- hW1]at this;exact this.trans xZ.out)
    gi_wp2;refine bodyPost_ret (results_tmp2 rfl _ _ _) rfl ?_;exact .inl ⟨rfl,xs,aU.out,JY.out,HKE.out⟩
attribute [local go_sem] Oper.semAt_some
theorem zr4(w:World):Calls Tryz.prog 24 #[.slice none 0 0] w (fun e w'=>e=.returned (.tuple #[])/\w=w'):=by
 go_enter Tryz.func24,Tryz.ntmps24;go_wp2_with fail
 go_loop [2,3] (fun s v=>s=.int .i64 0/\v=.int .i64 (-1)) (fun _ _=>0)
 case atStart=>exact⟨rfl,rfl⟩
 case round =>
  obtain⟨rfl,rfl⟩:=hrel;go_wp2_with fail
  go_end0;exact⟨rfl,rfl⟩
theorem J2(W:World)(o:Obj){b:Nat}{x:Obj}(h:W.heap[b]?=some x):(W.alloc o).heap[b]?=some x :=
 (((zbE W.heap.size W).alloc (zbA _) o).block b (zbD.1 h).1).trans h
def gK(W:World)(b:Nat)(X:XV):Prop:=W.heap[b]?=some (.cells X.arr 29 (0,0))
theorem gK.cells{W:World}{b:Nat}{X:XV}(h:gK W b X):W.cell? ⟨b,0,none⟩=some (.int .i64 X.kind)/\W.cell? ⟨b,1,none⟩=some (.string X.text)/\W.cell? ⟨b,2,none⟩=some X.ns/\W.cell? ⟨b,3,none⟩=some (.int .i64 X.lo)/\W.cell? ⟨b,4,none⟩=some (.int .i64 X.hi)/\W.cell? ⟨b,5,none⟩=some X.ks:=by
 unfold gK at h;simp[World.cell?,h,XV.arr]
theorem gK.kept{W W':World}{M:Nat->Prop}{b:Nat}{X:XV}(h:gK W b X)(hk:zap M W W')(hm:¬ M b):gK W' b X:=hk.2 b _ _ _ hm (.inl rfl) h
theorem zuc{W:World}{P:Nat->Prop}{X:XV}{t:Tree}{g:Nat}(hb:gK W g X)(hE:dX W P X t):EP W (fun b=>P b\/b=g) (.slice (some ⟨g,0,none⟩) 1 1) [X] [t]:=by
 refine⟨.inr ⟨g,0,1,rfl,by simp,by unfold maxLen;omega,⟨_,_,.inl rfl,hb⟩,.inr rfl,fun j u hj=>?_⟩,rfl,fun i y t' hy ht=>?_⟩
 ·unfold gK at hb;have e:([X].flatMap XV.cells)=X.arr.toList:=by simp[XV.cells,XV.arr]
  rw[e]at hj;unfold World.cell?;simp only[hb,Nat.zero_add];simpa using hj
 ·cases i with
  |zero =>
   simp at hy ht;subst hy ht;exact hE.kept (M:=fun _=>False) (zap.refl _ _) (fun b hb _=>⟨id,.inl hb⟩)
  |succ i=>simp at hy
theorem zwy{l B N Bs:Nat}{M P:Nat->Prop}{J Jx:List NX->World->Prop}(hM:∀ b,M b->b<B)(hP:∀ b,P b->¬ M b)(hMs:¬ M Bs)(hJ:AbidesFrom B J)
  (hY:∀ pre (x:NX) W,J pre W->pre.length<N->B<=W.heap.size->YieldAt Fence.wide 0 Tryz.prog l #[.string (ak x.1)] W fun e W' =>
   (e=.returned (.bool true)/\J (pre++[x]) W'/\zap M W W')\/(e=.returned (.bool false)/\Jx (pre++[x]) W'))
  {W:World} {X:XV} {t:Tree} (hE:dX W P X t) (hb:gK W Bs X) (hd:dep t<=9000) (hN:(bn t).length<=N) (hB:B<=W.heap.size) (h0:J [] W) :
  CallsIn Fence.wide 5 Tryz.prog 22 #[.func (.yield l) #[] #[],.pointer (some ⟨Bs,0,none⟩)] W (fun e W'=>(∃ v,e=.returned v)/\((∃ xs,NX.vals xs=bn t/\J xs W')\/(∃ p,NX.vals p <+: bn t/\Jx p W'))):=by
 obtain⟨k,tx,nv,lo,hi,kv⟩:=X;obtain⟨b0,b1,b2,b3,b4,b5⟩:=hb.cells;obtain⟨x,ns,kids,vs,ht,htx,hto,hks⟩:=hE.kids
 obtain⟨na,nn,nc,rfl⟩:∃ a n c,nv=.slice a n c:=by
  cases hE with
  |mk vs h0 hl h1 h2 h3 h4 =>
   rcases h1 with ⟨_,a,cap,h⟩|⟨g',o',cap',h,_⟩
   ·exact⟨_,_,_,h⟩
   ·exact⟨_,_,_,h⟩
 obtain⟨ka,kn,kc,rfl⟩:∃ a n c,kv=.slice a n c:=by
  rcases hks.1 with ⟨_,a,cap,h⟩|⟨g',o',cap',h,_⟩
  ·exact⟨_,_,_,h⟩
  ·exact⟨_,_,_,h⟩
 simp only[]at b0 b1 b2 b3 b4 b5;have hb1:Below W.heap.size W (W.alloc (aB k lo hi tx (.slice na nn nc) (.slice ka kn kc))):=(zbE _ _).alloc (zbA _) _;have hb2:Below W.heap.size W ((W.alloc (aB k lo hi tx (.slice na nn nc) (.slice ka kn kc))).alloc (.cells #[.slice (some ⟨W.heap.size,0,none⟩) 1 1,.pointer none,.int .i64 1] 65)):=hb1.alloc (by simp) _
 have ru:gK ((W.alloc (aB k lo hi tx (.slice na nn nc) (.slice ka kn kc))).alloc (.cells #[.slice (some ⟨W.heap.size,0,none⟩) 1 1,.pointer none,.int .i64 1] 65)) W.heap.size ⟨k,tx,.slice na nn nc,lo,hi,.slice ka kn kc⟩ :=
  J2 _ _ (zbO W (aB k lo hi tx (.slice na nn nc) (.slice ka kn kc)))
 have hkp:=zuc ru (hE.kept (P':=P) (zap.below (M:=M) hb2) (fun b hb _=>⟨hP b hb,hb⟩))
 have HV:=hh9 (zwx (l:=l) (B:=B) (N:=N) (m0:=0) (M:=M) (P:=fun b=>P b\/b=W.heap.size) (J:=J) (Jx:=Jx) hM (fun b hb hm=>hb.elim (fun h=>hP b h hm) (fun h=>by have:=hM b hm;omega)) hJ hY
  t.tw _ _ [_] [t] none 1 10000 [] (by simp) hkp (fun u hu=>.inl rfl) (fun u hu=>by simp at hu;subst hu;omega) (by omega) (by omega) (by simpa using hN) (zbH hB (by simp;omega)) (NS hJ (NS hJ h0 _) _))
 have hcell:=zbO (W.alloc (aB k lo hi tx (.slice na nn nc) (.slice ka kn kc))) (.cells #[.slice (some ⟨W.heap.size,0,none⟩) 1 1,.pointer none,.int .i64 1] 65);rw[World.size_alloc]at hcell;have l0:((W.alloc (aB k lo hi tx (.slice na nn nc) (.slice ka kn kc))).alloc (.cells #[.slice (some ⟨W.heap.size,0,none⟩) 1 1,.pointer none,.int .i64 1] 65)).cell? ⟨W.heap.size+1,0,none⟩=some (.slice (some ⟨W.heap.size,0,none⟩) 1 1):=by unfold World.cell?;simp only[hcell];rfl
 have l1:((W.alloc (aB k lo hi tx (.slice na nn nc) (.slice ka kn kc))).alloc (.cells #[.slice (some ⟨W.heap.size,0,none⟩) 1 1,.pointer none,.int .i64 1] 65)).cell? ⟨W.heap.size+1,1,none⟩=some (.pointer none):=by unfold World.cell?;simp only[hcell];rfl
 have l2:((W.alloc (aB k lo hi tx (.slice na nn nc) (.slice ka kn kc))).alloc (.cells #[.slice (some ⟨W.heap.size,0,none⟩) 1 1,.pointer none,.int .i64 1] 65)).cell? ⟨W.heap.size+1,2,none⟩=some (.int .i64 1):=by unfold World.cell?;simp only[hcell];rfl
 have iM:Hid (([t].map bn).flatten=bn t):=by unfold Hid;simp
 rw[iM.out]at HV;obtain⟨NM,hNM⟩:∃ NM,NM=bn t:=⟨_,rfl⟩
 rw[<- hNM]at HV ⊢;unfold aB at HV l0 l1 l2;have hws:((W.alloc (aB k lo hi tx (.slice na nn nc) (.slice ka kn kc))).alloc (.cells #[.slice (some ⟨W.heap.size,0,none⟩) 1 1,.pointer none,.int .i64 1] 65)).heap.size=W.heap.size+2:=by simp
 unfold aB at hws;clear hE hb ht htx hto hks hb1 hb2 ru hkp hcell hNM iM hY hJ;obtain⟨W2,hW2⟩:∃ W2,W2=((W.alloc (.cells #[.int .i64 k,.string tx,.slice na nn nc,.int .i64 lo,.int .i64 hi,.slice ka kn kc] 29)).alloc (.cells #[.slice (some ⟨W.heap.size,0,none⟩) 1 1,.pointer none,.int .i64 1] 65)):=⟨_,rfl⟩
 refine callsIn_of_wp Tryz.func22 rfl trivial ?_ rfl;simp only[Tryz.ntmps22,List.size_toArray,List.length_cons,List.length_nil,Nat.reduceAdd,Nat.reduceSub,Array.replicate_succ,Array.replicate_zero,List.push_toArray,List.append_toArray,List.nil_append,List.cons_append];gi_wp2
 gi_loopw [3] (fun v wr=>(v=.slice (some ⟨W.heap.size+1,0,none⟩) 1 1/\wr=W2)\/(v=.slice (some ⟨W.heap.size+1,0,none⟩) 0 1/\∃ xs,NX.vals xs=NM/\J xs wr)) (fun v _=>match v with|.slice _ n _=>n|_=>0)
 case atStart=>exact .inl ⟨rfl,by rw[hW2]⟩
 case round =>
  rcases hrel with ⟨rfl,rfl⟩|⟨rfl,xs,hxs,hJx⟩
  ·subst hW2
   gi_wp2_with (first
    |(refine⟨trivial,?_⟩;gi_at_call 23;refine(callsIn_wide.2 HV.out).mono ?_;rintro e W4 (⟨rfl,ys,hys,DJ,hK4⟩|⟨rfl,p,hp,hx⟩))
    |(refine⟨trivial,?_⟩;gi_at_call 24;refine(callsIn_wide.2 (zr4 _)).mono ?_;rintro e w' ⟨rfl,rfl⟩))
   ·exact⟨.inr ⟨rfl,ys,hys,DJ⟩,by show (0:Nat)<1;omega⟩
   ·refine bodyPost_ret (results_none rfl _ _ _) rfl ?_;exact⟨⟨_,rfl⟩,.inr ⟨p,by simpa[NX.vals]using hp,hx⟩⟩
  ·gi_wp2;go_end0;exact⟨⟨_,rfl⟩,.inl ⟨xs,hxs,hJx⟩⟩
theorem Ru{Bs:Nat}{M P:Nat->Prop}{w:World}{X:XV}{t:Tree}(hM:∀ b,M b->b<w.heap.size)(hP:∀ b,P b->¬ M b)(hMs:¬ M Bs)(hE:dX w P X t)(hb:gK w Bs X)(hd:dep t<=9000) :
  SeqStopsK Fence.wide 5 Tryz.prog 22 #[.pointer (some ⟨Bs,0,none⟩)] (fun x:NX=>#[Value.string (ak x.1)]) (zap M) (fun xs=>NX.vals xs=bn t) (fun xs=>NX.vals xs <+: bn t) (bn t).length w :=
 fun l J Jx W hW hJ _ hY h0=>(zwy (l:=l) (B:=W.heap.size) (N:=(bn t).length) (M:=M) (P:=P) (J:=J) (Jx:=Jx) (fun b hm=>Nat.lt_of_lt_of_le (hM b hm) hW.size) hP hMs hJ (fun pre x W1 h1 h2 _=>XG (hY pre x W1 h1 h2))
  (hE.kept (zap.below (M:=M) hW) (fun b hb _=>⟨hP b hb,hb⟩)) (hb.kept (zap.below (M:=M) hW) hMs) hd (zbA _) (zbA _) h0).mono fun e W' ⟨h1,h2⟩=>⟨h1,by
   rcases h2 with ⟨xs,h2,h3⟩|⟨p,hp,h2⟩
   ·exact .inl ⟨xs,h2,h3⟩
   ·exact .inr ⟨p,hp,h2⟩⟩
theorem Rv{w:World}(X:XV)(h1:X.ns.oneCell'=true)(h2:X.ks.oneCell'=true):Calls Tryz.prog 14 #[X.val] w (fun e w'=>e=.returned (.func (.func 22) #[] #[.pointer (some ⟨w.heap.size,0,none⟩)])/\w'=w.alloc (aB X.kind X.lo X.hi X.text X.ns X.ks)):=by
 obtain⟨k,tx,nv,lo,hi,kv⟩:=X;show Calls Tryz.prog 14 #[.agg #[.int .i64 k,.string tx,nv,.int .i64 lo,.int .i64 hi,kv]] w _
 go_enter Tryz.func14,Tryz.ntmps14;go_wp2_with fail
 go_ret;exact⟨rfl,rfl⟩
attribute [local go_sem] Oper.semAt_some
theorem Rw{M:Nat->Prop}{X Y Z:World}(h:zap M X Y)(k:zap M Y Z):zap M X Z:=h.trans k
theorem wQ{W:World}{base base' size n:Nat}{e:TypeId}{v:Value}{xs:List Value}(h:W.ownsRow base e size v n xs)(hb:base'<=base):W.ownsRow base' e size v n xs:=by
 refine⟨h.1,?_⟩;rcases h.2 with hn|⟨g,cap,cur,hv,hg,rest⟩
 ·exact .inl hn
 ·exact .inr ⟨g,cap,cur,hv,by omega,rest⟩
def gy(l:List (List Int)):List Value:=l.map fun x=>.string (ak x)
theorem XJ(l:List (List Int)):(gy l).length=l.length:=by unfold gy;simp
theorem NV:(Tryz.prog.info? 9).map (fun i=>(i.zero,i.size,i.bytes))=some (some (.string ⟨#[]⟩),1,16):=by kernel_rfl
theorem XK{W w1:World}{n₀ base B:Nat}{t e:TypeId}{size k m:Nat}{v v':Value}{xs ys:List Value}{tmp:Obj}
  (hv:Go.Boxed W B t v) (hte:t≠e) (hkt:¬ KT t) (hke:¬ KT e) (hrow:W.ownsRow base e size v k xs) (hn₀:n₀<=B) (hB:B<base) (hW:base<=W.heap.size)
  (hown':w1.ownsRow base e size v' m ys) (hgrow:(W.alloc tmp).grownBy w1 v.ownBlock) :
  Go.Boxed w1 B t v/\Go.Boxed (w1.setCell ⟨B,0,none⟩ v') B t v'/\(w1.setCell ⟨B,0,none⟩ v').ownsRow base e size v' m ys/\KeepsOthers W (w1.setCell ⟨B,0,none⟩ v')/\zap (fun _=>False) W (w1.setCell ⟨B,0,none⟩ v')/\Below n₀ W (w1.setCell ⟨B,0,none⟩ v'):=by
 obtain⟨hv1,hv2,_,hk2,hb2⟩:=hv.appended (n₀:=n₀) hte (wQ hrow (by omega)) (by omega) hn₀ (wQ hown' (by omega)) hgrow;refine⟨hv1,hv2,hown'.kept (grownBy_setCell' w1 B v') (.inr (hv1.not_row hte hown').symm),hk2,⟨hk2.size,fun b c t' z _ ht hb=>?_⟩,hb2⟩
 have hne:b≠B:=fun h=>by
  subst h;have e:=zbB (hb.symm.trans hv);simp at e;exact hkt (e.2.1 ▸ ht)
 have hlt:=(zbD.1 hb).1;refine(zbQ _ _ _ _ hne).trans ((hgrow.block b (by simp;omega) ?_).trans ((zbP _ _ _ hlt).trans hb));rcases hrow.2 with ⟨rfl,_⟩|⟨g,cap,cur,rfl,hg,hgb,_⟩
 ·simp[Value.ownBlock]
 ·intro h;simp[Value.ownBlock]at h;subst h;have e:=zbB (hb.symm.trans hgb);simp at e;exact hke (e.2.1 ▸ ht)
def J3(l:List (List Int))(w:World)(e:Ending)(w':World):Prop :=
 ∃ v,e=.returned v/\w'.ownsRow w.heap.size 9 1 v l.length (gy l)/\Below w.heap.size w w'
theorem qah{w:World}{P:Nat->Prop}{X:XV}{t:Tree}(hE:dX w P X t)(hd:dep t<=9000)(hlen:(bn t).length<=1000000000) :
  CallsIn Fence.wide 6 Tryz.prog 6 #[X.val] w (J3 (bn t) w):=by
 obtain⟨NM,hNM⟩:∃ NM,NM=bn t:=⟨_,rfl⟩
 rw[<- hNM]at hlen ⊢;have iM:=hh9 hNM;clear hNM;obtain⟨i0,hi0,hz0,hz1,hz2⟩:=info_parts NV;have hX:X=⟨X.kind,X.text,X.ns,X.lo,X.hi,X.ks⟩:=rfl
 obtain⟨na,nn,nc,hns⟩:∃ a n c,X.ns=.slice a n c:=by
  cases hE with
  |mk vs h0 hl h1 h2 h3 h4 =>
   rcases h1 with ⟨_,a,cap,h⟩|⟨g',o',cap',h,_⟩
   ·exact⟨_,_,_,h⟩
   ·exact⟨_,_,_,h⟩
 obtain⟨ka,kn,kc,hks⟩:∃ a n c,X.ks=.slice a n c:=by
  cases hE with
  |mk vs h0 hl h1 h2 h3 h4 =>
   rcases h2 with ⟨_,a,cap,h⟩|⟨g',o',cap',h,_⟩
   ·exact⟨_,_,_,h⟩
   ·exact⟨_,_,_,h⟩
 obtain⟨k,tx,nv,lo,hi,kv⟩:=X;simp only[]at hns hks;subst hns hks;have HX:=hh9 (fun W=>Rv (w:=W) ⟨k,tx,.slice na nn nc,lo,hi,.slice ka kn kc⟩ rfl rfl);have hb0:Below w.heap.size w (((w.alloc (aB k lo hi tx (.slice na nn nc) (.slice ka kn kc))).alloc (.cells #[.slice none 0 0] 35)).alloc (aB k lo hi tx (.slice na nn nc) (.slice ka kn kc))):=by go_grown
 have bO:=Boxed.new (w.alloc (aB k lo hi tx (.slice na nn nc) (.slice ka kn kc))) 35 (.slice none 0 0);rw[World.size_alloc]at bO;have XL:=bO.alloc (aB k lo hi tx (.slice na nn nc) (.slice ka kn kc))
 have bX:gK (((w.alloc (aB k lo hi tx (.slice na nn nc) (.slice ka kn kc))).alloc (.cells #[.slice none 0 0] 35)).alloc (aB k lo hi tx (.slice na nn nc) (.slice ka kn kc))) (w.heap.size+1+1) ⟨k,tx,.slice na nn nc,lo,hi,.slice ka kn kc⟩:=by
  have h:=zbO ((w.alloc (aB k lo hi tx (.slice na nn nc) (.slice ka kn kc))).alloc (.cells #[.slice none 0 0] 35)) (aB k lo hi tx (.slice na nn nc) (.slice ka kn kc));rw[World.size_alloc,World.size_alloc]at h;exact h
 have hstop:=Ru (Bs:=w.heap.size+1+1) (M:=fun _=>False) (P:=P) (fun _ h=>h.elim) (fun _ _ h=>h) (fun h=>h) (hE.kept (P':=P) (zap.below (M:=fun _=>False) hb0) (fun b hb _=>⟨fun h=>h,hb⟩)) bX hd;rw[<- iM.out]at hstop;have Rx:(((w.alloc (aB k lo hi tx (.slice na nn nc) (.slice ka kn kc))).alloc (.cells #[.slice none 0 0] 35)).alloc (aB k lo hi tx (.slice na nn nc) (.slice ka kn kc))).heap.size=w.heap.size+3:=by simp
 unfold aB at HX hb0 XL hstop Rx;clear bO bX hE;refine callsIn_of_wp_marks Tryz.func6 rfl trivial ?_ rfl;simp only[XV.val,Tryz.ntmps6,List.size_toArray,List.length_cons,List.length_nil,Nat.reduceAdd,Nat.reduceSub,Array.replicate_succ,Array.replicate_zero,List.push_toArray,List.append_toArray,List.nil_append,List.cons_append]
 gi_wp2_with (refine⟨trivial,?_⟩;gi_at_call 14;refine(callsIn_wide.2 (HX.out _)).mono ?_;rintro e w' ⟨rfl,rfl⟩)
 refine wpIn_rangeFunc_ownG rfl (by omega) (gf:=22) (lb:=#[.pointer (some ⟨w.heap.size+1+1,0,none⟩)]) rfl trivial (enters_of Tryz.func22 (by kernel_rfl) rfl)
  hstop Rw (fun W l o o' _ h ho _=>zap.put W l o o' h ho) (zbE _ _) (fun _=>rfl)
  (fun pre W=>((∃ v,Go.Boxed W (w.heap.size+1) 35 v/\W.ownsRow (w.heap.size+3) 9 1 v pre.length (gy (NX.vals pre))/\True)/\w.heap.size+3<=W.heap.size)/\Below w.heap.size w W)
  (fun _ _ _=>False)
  (OwnFrom.and (OwnFrom.and (Own.from (holdsRow_own (w.heap.size+3) (w.heap.size+1) 35 9 1 (fun pre:List NX=>pre.length) (fun pre=>gy (NX.vals pre)) (fun _ _=>True)) _) (fun _ _ _ _ hs hg _=>zbH hs hg.size)) (ownFrom_below (zbA _) (by simp;omega)))
  (fun _ _ _ _ _ hs _ _=>hs)
  ⟨⟨⟨_,XL,World.ownsRow_nil _ _ _ _,trivial⟩,by simp⟩,hb0⟩
  (fun x=>{ tmps:=#[.agg #[.int .i64 k,.string tx,.slice na nn nc,.int .i64 lo,.int .i64 hi,.slice ka kn kc],.pointer (some ⟨w.heap.size,0,none⟩),.slice none 0 0,.pointer (some ⟨w.heap.size+1,0,none⟩),.string (ak x.1),.agg #[.int .i64 k,.string tx,.slice na nn nc,.int .i64 lo,.int .i64 hi,.slice ka kn kc],.func (.func 22) #[] #[.pointer (some ⟨w.heap.size+1+1,0,none⟩)],.string (ak x.1),undef,undef,undef,undef,undef],defers:=[] }) ?assign ?body ?done ?stop
 case assign =>
  intro l x W K hK;gi_wp2;exact hK
 case body =>
  rintro l pre ⟨x,hx⟩ W ⟨⟨⟨v,hv,hrow,_⟩,hsz⟩,hB⟩ hlt;have hc:=hv.cell;have hf:=hv.frozen;rcases fB hrow with ⟨rfl,h0⟩|⟨g,cap,rfl⟩
  ·skip
   obtain rfl:pre=[]:=List.length_eq_zero_iff.1 h0;clear h0
   gi_wp2_with (gi_at_builtin;refine wpListIn_append_own _ rfl _ _ 35 rfl (w.heap.size+3) 9 i0 (.string ⟨#[]⟩) 1 16 Tryz.underlying35 hi0 hz0 hz1 hz2 rfl (by decide) _ _ _ rfl (hrow.alloc _) ⟨W.heap.size,0,none⟩ 1 1 [.string (ak x)] rfl rfl (cell_one_new _ _ _) (by simp[Value.oneCell']) (by unfold maxLen;omega) (by omega) (by simp;omega) ?_;intro v' w1 hown' hgrow _;obtain⟨g',cap',rfl⟩:=ownsRow_succ hown';obtain⟨hv1,hv2,hr2,hk2,hx2,hb2⟩:=XK (n₀:=w.heap.size) hv (by decide) (by unfold KT;decide) (by unfold KT;decide) hrow (by omega) (by omega) hsz hown' hgrow;have hc1:=hv1.cell;have hf1:=hv1.frozen)
   refine⟨hk2.from _,hx2,⟨⟨_,hv2,?_⟩,zbH hsz hk2.size⟩,hB.trans hb2⟩;simpa[gy,NX.vals]using hr2
  ·skip
   gi_wp2_with (gi_at_builtin;refine wpListIn_append_own _ rfl _ _ 35 rfl (w.heap.size+3) 9 i0 (.string ⟨#[]⟩) 1 16 Tryz.underlying35 hi0 hz0 hz1 hz2 rfl (by decide) _ _ _ rfl (hrow.alloc _) ⟨W.heap.size,0,none⟩ 1 1 [.string (ak x)] rfl rfl (cell_one_new _ _ _) (by simp[Value.oneCell']) (by unfold maxLen;omega) (by omega) (by simp;omega) ?_;intro v' w1 hown' hgrow _;obtain⟨g',cap',rfl⟩:=ownsRow_succ hown';obtain⟨hv1,hv2,hr2,hk2,hx2,hb2⟩:=XK (n₀:=w.heap.size) hv (by decide) (by unfold KT;decide) (by unfold KT;decide) hrow (by omega) (by omega) hsz hown' hgrow;have hc1:=hv1.cell;have hf1:=hv1.frozen)
   refine⟨hk2.from _,hx2,⟨⟨_,hv2,?_⟩,zbH hsz hk2.size⟩,hB.trans hb2⟩;simpa[gy,NX.vals]using hr2
 case done =>
  rintro D ys W hD hys ⟨⟨⟨v,hv,hrow,_⟩,hsz⟩,hB⟩ hK;have hc:=hv.cell;have hl:ys.length=NM.length:=by rw[<- hys];simp[NX.vals]
  rw[hys,hl]at hrow;gi_wp2;refine⟨by simp,.inl ⟨_,_,rfl,run_takeDeferred hK,?_⟩⟩;exact⟨_,results_tmp rfl _ _ _,v,rfl,wQ (ownsRow_putObj hrow _ hK rfl) (by omega),hB.trans (belowK_b (w:=w) (zbA _) W D _ _ (by simp at hD;omega) hK rfl rfl)⟩
 case stop =>
  rintro D c pre W _ _ h _;exact h.elim
theorem XM{w:World}{P:Nat->Prop}{X:XV}{t:Tree}(hE:dX w P X t)(hd:dep t<=9000)(hlen:(bn t).length<=1000000000) :
  Calls Tryz.prog 6 #[X.val] w (J3 (bn t) w):=(callsIn_wide (n:=6)).1 (qah hE hd hlen)
end Go.Proofs.YtahibnnhjahmnaaGreatDoor
