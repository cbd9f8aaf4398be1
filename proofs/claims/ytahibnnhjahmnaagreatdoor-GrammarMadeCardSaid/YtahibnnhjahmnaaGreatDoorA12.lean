/- Part 12 of what the laws of the grammar rest on. -/
import Derived.Test.YtahibnnhjahmnaaGreatDoorA11
import Derived.RangeFuncNested
import Derived.RangeFuncBound
import Derived.RangeFuncCalls
import Derived.RangeFuncLeaves
import Derived.RangeFuncBox
import Derived.LaidEqlPtr
set_option linter.all false
set_option maxRecDepth 100000
set_option maxHeartbeats 8000000
namespace Go.Proofs.YtahibnnhjahmnaaGreatDoor
open Go.RowKit
def DC(W:World)(y:LV)(r:Rule):Prop:=y.name=ak r.name/\(∀ c∈r.name,0<=c/\c<=255)/\r.name.length<=9223372036854775807/\y.more=r.more/\aM W y.expr r.expr
theorem DC.under{W W':World}{y:LV}{r:Rule}(h:DC W y r)(hb:Below W.heap.size W W'):DC W' y r:=⟨h.1,h.2.1,h.2.2.1,h.2.2.2.1,h.2.2.2.2.under hb⟩
def dz(W:World)(v:Value)(ys:List LV)(l:List Rule):Prop :=
 au W v l.length (ys.flatMap LV.cells)/\ys.length=l.length/\∀ (i:Nat) (y:LV) (r:Rule),ys[i]?=some y->l[i]?=some r->DC W y r
theorem dz.below{W W':World}{v:Value}{ys:List LV}{l:List Rule}(h:dz W v ys l)(hb:Below W.heap.size W W'):dz W' v ys l:=⟨h.1.below hb,h.2.1,fun i y r hy hr=>(h.2.2 i y r hy hr).under hb⟩
def iZ(r:Rule):Bool:=mF r.name&&dK 50 r.expr
def mZ(y:LV):Obj:=.cells y.arr 31
def L8(W:World)(g:Nat)(y:LV):Prop:=W.heap[g]?=some (.cells y.arr 31 (0,0))
theorem L8.lt{W:World}{g:Nat}{y:LV}(h:L8 W g y):g<W.heap.size:=(zbD.1 h).1
theorem L8.under{W W1:World}{g:Nat}{y:LV}(h:L8 W g y)(hb:Below W.heap.size W W1):L8 W1 g y:=(hb.block g h.lt).trans h
theorem L8.new(W:World)(y:LV):L8 (W.alloc (mZ y)) W.heap.size y:=zbO W _
theorem L8.cells{W:World}{g:Nat}{y:LV}(h:L8 W g y) :
  W.cell? ⟨g,0,none⟩=some (.string y.name)/\W.cell? ⟨g,1,none⟩=some (.bool y.more)/\W.cell? ⟨g,2,none⟩=some (.int .i64 y.expr.kind)/\W.cell? ⟨g,3,none⟩=some (.string y.expr.text)/\W.cell? ⟨g,4,none⟩=some y.expr.ns/\W.cell? ⟨g,5,none⟩=some (.int .i64 y.expr.lo)/\W.cell? ⟨g,6,none⟩=some (.int .i64 y.expr.hi)/\W.cell? ⟨g,7,none⟩=some y.expr.ks:=by
 unfold L8 at h;simp[World.cell?,h,LV.arr]
theorem EN(vs:List LV)(i j:Nat)(x:LV)(h:vs[i]?=some x)(hj:j<8):(vs.flatMap LV.cells)[i*8+j]?=x.cells[j]?:=by
 induction vs generalizing i with
 |nil=>simp at h
 |cons y vs ih =>
  cases i with
  |zero =>
   simp at h;subst h;simp only[List.flatMap_cons,Nat.zero_mul,Nat.zero_add];rw[zbK (by simp[LV.cells];exact hj)]
  |succ i =>
   simp at h;have:=ih i h;simp only[List.flatMap_cons];rw[zbL (by simp[LV.cells];omega),show (i+1)*8+j-(LV.cells y).length=i*8+j by simp[LV.cells];omega];exact this
theorem zwq{W:World}{y:LV}{r:Rule}(h:DC W y r):Calls Tryz.prog 45 #[y.val] W (gG (iZ r) W):=by
 obtain⟨hn,hc,hl,hm,ht⟩:=h;obtain⟨a,m,ca,c,n,cc,e1,e2⟩:=ht.slices;have hb:=(zbE W.heap.size W).alloc (zbA _) (mZ y);have hL:=L8.new W y;have HN:=hh9 (fun W'=>WE (x:=r.name) W' hc hl);have HR:=hh9 (fun W' (hb':Below W.heap.size W W')=>zw2 (ht.under hb'));unfold iZ;obtain⟨nm,mo,⟨k,s,nv,lo,hi,kv⟩⟩:=y;simp only[]at hn hm e1 e2;subst hn hm e1 e2;obtain⟨a0,a1,a2,a3,a4,a5,a6,a7⟩:=hL.cells;have HL:=hh9 hL;have HB:=hh9 hb;unfold mZ at HB HL a0 a1 a2 a3 a4 a5 a6 a7;show Calls _ _ #[.agg #[.string (ak r.name),.bool r.more,.int .i64 k,.string s,.slice a m ca,.int .i64 lo,.int .i64 hi,.slice c n cc]] W _
 clear hb hL hc hl ht
 cases hp:mF r.name
 ·rw[hp]at HN;clear hp;rw[Bool.false_and];go_enter Tryz.func45,Tryz.ntmps45;go_wp2_with fail
  refine(HN.out _).mono ?_;rintro e w1 ⟨rfl,hb⟩;have HB1:=hh9 (aJ HB.out hb);clear hb;go_wp2_with fail
  go_ret;exact⟨rfl,HB1.out⟩
 ·rw[hp]at HN;clear hp;rw[Bool.true_and]
  cases hq:dK 50 r.expr
  all_goals
   rw[hq]at HR;clear hq;go_enter Tryz.func45,Tryz.ntmps45;go_wp2_with fail
   refine(HN.out _).mono ?_;rintro e w1 ⟨rfl,hb⟩;have HB1:=hh9 (aJ HB.out hb);clear a0 a1 a2 a3 a4 a5 a6 a7;obtain⟨a0,a1,a2,a3,a4,a5,a6,a7⟩:=(HL.out.under hb).cells;clear hb;go_wp2_with fail
   refine(HR.out _ HB1.out).mono ?_;rintro e w2 ⟨rfl,hb⟩;have HB2:=hh9 (aJ HB1.out hb);clear hb a0 a1 a2 a3 a4 a5 a6 a7;go_wp2_with fail
   go_ret;exact⟨rfl,HB2.out⟩
theorem qa9{B:Nat}{W:World}{y:LV}{r:Rule}(h:DC W y r)(hB:W.cell? ⟨B,0,none⟩=some (.func (Fn.func 45) #[] #[])) :
  Calls Tryz.prog 65 #[y.val,.pointer (some ⟨B,0,none⟩)] W (gG (!iZ r) W):=by
 obtain⟨a,m,ca,c,n,cc,e1,e2⟩:=h.2.2.2.2.slices;have hb:=(zbE W.heap.size W).alloc (zbA _) (mZ y);have HC:=hh9 (zwq (h.under hb));have hB2:=gu hB hb;obtain⟨nm,mo,⟨k,s,nv,lo,hi,kv⟩⟩:=y;simp only[]at e1 e2;subst e1 e2;unfold mZ LV.arr at hb HC hB2;have HB:=hh9 hb;show Calls _ _ #[.agg #[.string nm,.bool mo,.int .i64 k,.string s,.slice a m ca,.int .i64 lo,.int .i64 hi,.slice c n cc],.pointer (some ⟨B,0,none⟩)] W _
 clear hb h hB
 cases hp:iZ r
 all_goals
  rw[hp]at HC;clear hp;go_enter Tryz.func65,Tryz.ntmps65;go_wp2_with fail
  refine HC.out.mono ?_;rintro e w' ⟨rfl,hb⟩;have HB2:=hh9 (aJ HB.out hb);clear hb;go_wp2_with fail
  go_ret;exact⟨rfl,HB2.out⟩
theorem zwr{P:Rule->Bool}{x:List Rule}{n:Nat}(hn:x.length<=n)(h:∀ (i:Nat) (c:Rule),i<n->x[i]?=some c->P c=true):x.all P=true:=by
 rw[List.all_eq_true];intro c hc;obtain⟨i,hi⟩:=List.getElem?_of_mem hc;exact h i c (Nat.lt_of_lt_of_le (zbF.1 hi).1 hn) hi
theorem XA{P:Rule->Bool}{x:List Rule}{i:Nat}{c:Rule}(h:x[i]?=some c)(hc:P c=false):x.all P=false:=by
 rw[List.all_eq_false];exact⟨c,zbI h,by simp[hc]⟩
theorem zub{B:Nat}{w:World}{v:Value}{vs:List LV}{l:List Rule}(h:dz w v vs l)(hB:w.cell? ⟨B,0,none⟩=some (.func (Fn.func 45) #[] #[])) :
  Calls Tryz.prog 82 #[v,.func (Fn.func 65) #[] #[.pointer (some ⟨B,0,none⟩)]] w (WK (!l.all iZ) w):=by
 obtain⟨h1,h2,h3⟩:=h;obtain⟨m,hm⟩:∃ m,m=l.length:=⟨_,rfl⟩
 rw[<- hm]at h1 h2;have HM:=hh9 hm;have H2:=hh9 h2;have H3:=hh9 h3;have jX:=hh9 hB;rcases h1 with ⟨h0,a,cap,rfl⟩|⟨g,off,cap,rfl,g1,g2,g3,g4⟩
 ·have hx0:l=[]:=List.length_eq_zero_iff.1 (by omega);subst hx0;clear hm h0 hB h2 h3;go_enter Tryz.func82,Tryz.ntmps82;go_wp2_with fail
  go_loop [8] (fun v=>v=.int .i64 0) (fun v=>0)
  case atStart=>rfl
  case round =>
   subst hrel;go_wp2_with fail
   go_ret;exact⟨-1,rfl,zbE _ _,by omega,by decide⟩
 ·have G4:=hh9 g4;unfold maxLen at g2;clear hm hB h2 h3 g4;go_enter Tryz.func82,Tryz.ntmps82;go_wp2_with fail
  go_loopw [8] (fun v wr=>∃ i:Nat,v=.int .i64 i/\i<=m/\Hid (Below w.heap.size w wr)/\Hid (∀ (j:Nat) (c:Rule),j<i->l[j]?=some c->iZ c=true)) (fun v _=>m-(intOf v).toNat)
  case atStart=>exact⟨0,rfl,by omega,zbE _ _,fun j c h=>by omega⟩
  case round =>
   obtain⟨i,rfl,hi,aA,aF⟩:=hrel;by_cases hlt:i<m
   ·obtain⟨Y,hY⟩:∃ y,vs[i]?=some y:=⟨_,zbC (by rw[H2.out];exact hlt)⟩
    obtain⟨t,ht⟩:∃ y,l[i]?=some y:=⟨_,zbC (by rw[<- HM.out];exact hlt)⟩
    have jM:=hh9 ht
    have CX:∀ (j:Nat) (u:Value),j<8->Y.cells[j]?=some u->wr.cell? ⟨g,off+(i*8+j),none⟩=some u:=fun j u hj hu =>
     (aA.out.cell (p:=⟨g,off+(i*8+j),none⟩) g3).trans (G4.out _ u ((EN vs i j Y hY hj).trans hu))
    have HN:=hh9 (qa9 ((H3.out i Y t hY ht).under aA.out) (gu jX.out aA.out));obtain⟨nm,mo,⟨k,s,nv,lo,hi',kv⟩⟩:=Y;have e0:=CX 0 _ (by omega) rfl;have e1:=CX 1 _ (by omega) rfl;have e2:=CX 2 _ (by omega) rfl;have e3:=CX 3 _ (by omega) rfl;have e4:=CX 4 _ (by omega) rfl;have e5:=CX 5 _ (by omega) rfl;have e6:=CX 6 _ (by omega) rfl;have e7:=CX 7 _ (by omega) rfl;rw[<- Nat.add_assoc]at e0 e1 e2 e3 e4 e5 e6 e7;rw[Nat.add_zero]at e0;clear CX hY ht
    cases hf:iZ t
    ·have kJ:=hh9 (XA (P:=iZ) jM.out hf);rw[hf]at HN;clear hf;go_wp2_with fail
     refine HN.out.mono ?_;rintro e w' ⟨rfl,hb'⟩;have HB2:=hh9 (aJ aA.out hb');clear hb';go_wp2_with fail
     go_ret;exact⟨(i:Int),rfl,HB2.out,by omega,by rw[kJ.out];simp⟩
    ·have bT:Hid (∀ (j:Nat) (c:Rule),j<i+1->l[j]?=some c->iZ c=true):=fun j c hj hc=>by
      by_cases g:j=i
      ·subst g;rw[jM.out]at hc;rw[<- zbB hc];exact hf
      ·exact aF.out j c (by omega) hc
     rw[hf]at HN;clear hf;go_wp2_with fail
     refine HN.out.mono ?_;rintro e w' ⟨rfl,hb'⟩;have HB2:=hh9 (aJ aA.out hb');clear hb' e0 e1 e2 e3 e4 e5 e6 e7;go_wp2_with fail
     go_roundw
     case rel=>exact⟨i+1,by go_num,by omega,HB2,bT⟩
     case measure=>simp[intOf];omega
   ·have hyes:l.all iZ=true:=zwr (n:=m) (by rw[HM.out];exact zbA _) (fun j c h hc=>aF.out j c (by omega) hc);have jy:=hh9 hyes;clear hyes;go_wp2_with fail
    go_ret;exact⟨-1,rfl,aA.out,by omega,by rw[jy.out];decide⟩
theorem zws{B:Nat}{w:World}{v:Value}{vs:List LV}{l:List Rule}(h:dz w v vs l)(hB:w.cell? ⟨B,0,none⟩=some (.func (Fn.func 45) #[] #[])) :
  Calls Tryz.prog 64 #[v,.func (Fn.func 65) #[] #[.pointer (some ⟨B,0,none⟩)]] w (gG (!l.all iZ) w):=by
 have HI:=hh9 (zub h hB);clear h hB;go_enter Tryz.func64,Tryz.ntmps64;go_wp2_with fail
 refine HI.out.mono ?_;rintro e w' ⟨i,rfl,hb,hi,hd⟩;have HD:=hh9 hd;have HB2:=hh9 hb;clear hd hb;go_wp2_with fail
 go_ret;exact⟨by rw[<- HD.out];exact rfl,HB2.out⟩
theorem qaa{w:World}{v:Value}{vs:List LV}{l:List Rule}(h:dz w v vs l) :
  Calls Tryz.prog 44 #[v,.func (Fn.func 45) #[] #[]] w (gG (l.all iZ) w):=by
 have HS:=hh9 (fun o:Obj=>zws (w:=w.alloc o) (B:=w.heap.size) (h.below ((zbE _ _).alloc (zbA _) _)));clear h
 cases hp:l.all iZ
 all_goals
  rw[hp]at HS;clear hp;go_enter Tryz.func44,Tryz.ntmps44;go_wp2_with fail
  refine(HS.out _ (by unfold World.cell?;rw[zbO];rfl)).mono ?_;rintro e w' ⟨rfl,hb⟩;have HB2:=hh9 (((zbE w.heap.size w).alloc (zbA _) _).trans (hb.mono (by simp)));clear hb;go_wp2_with fail
  go_ret;exact⟨rfl,HB2.out⟩
def DF(w:World)(nm:ByteArray)(k lo hi:Int)(s:ByteArray)(ns ks:Value)(W:World):Prop :=
 (W.cell? ⟨w.heap.size,0,none⟩=some (.string nm)/\W.cell? ⟨w.heap.size,2,none⟩=some (.int .i64 k)/\W.cell? ⟨w.heap.size,3,none⟩=some (.string s)/\W.cell? ⟨w.heap.size,4,none⟩=some ns/\W.cell? ⟨w.heap.size,5,none⟩=some (.int .i64 lo)/\W.cell? ⟨w.heap.size,6,none⟩=some (.int .i64 hi)/\W.cell? ⟨w.heap.size,7,none⟩=some ks)/\Below w.heap.size w W
theorem DF.step{w:World}{nm:ByteArray}{k lo hi:Int}{s:ByteArray}{ns ks:Value}{W W':World}(hb:Below W.heap.size W W')(h:DF w nm k lo hi s ns ks W):DF w nm k lo hi s ns ks W' :=
 ⟨⟨gu h.1.1 hb,gu h.1.2.1 hb,gu h.1.2.2.1 hb,gu h.1.2.2.2.1 hb,gu h.1.2.2.2.2.1 hb,gu h.1.2.2.2.2.2.1 hb,gu h.1.2.2.2.2.2.2 hb⟩,aJ h.2 hb⟩
theorem DF.drew{w:World}{nm:ByteArray}{k lo hi:Int}{s:ByteArray}{ns ks:Value}{W:World}(h:DF w nm k lo hi s ns ks W):DF w nm k lo hi s ns ks W.drew:=⟨h.1,dJ h.2 1⟩
theorem zwt{W:World}{y:LV}{r:Rule}(h:DC W y r)(hr:iZ r=true)(hT:gJ W)(hlt:(dZ r).length<=1000000000000):Calls Tryz.prog 47 #[y.val] W (nJ (dZ r) W):=by
 obtain⟨hn,hc,hl,hm,ht⟩:=h;obtain⟨a,m,ca,c,n,cc,e1,e2⟩:=ht.slices;unfold iZ at hr;rw[zbJ]at hr
 have hlen:r.name.length+(aI 50 r.expr).length+5<=1000000000002:=by
  unfold dZ at hlt;simp only[zbG]at hlt;have:(3:Nat)<=(if r.more=true then ([32,61,47,32]:List Int) else [32,61,32]).length:=by split<;>simp
  have e10:([10]:List Int).length=1:=rfl;omega
 have hb:=(zbE W.heap.size W).alloc (zbA _) (mZ y);have hL:=L8.new W y;have kF:=hh9 (fun W' (hb':Below W.heap.size W W')=>Xz 50 W' y.expr r.expr (ht.under hb') hr.2 (hT.below hb') (by omega));obtain⟨S,hS⟩:∃ S,S=ak (aI 50 r.expr):=⟨_,rfl⟩
 have hSs:S.size<=1000000000000:=by rw[hS,eP];omega
 have lu:Hid (∀ W',Below W.heap.size W W'->Calls Tryz.prog 69 #[y.expr.val] W' (fun e w'=>e=.returned (.string S)/\Below W'.heap.size W' w')):=by rw[hS];exact kF
 obtain⟨N,hN⟩:∃ N,N=ak r.name:=⟨_,rfl⟩
 have hNs:N.size<=1000000000000:=by rw[hN,eP];omega
 have BU:=hh9 (show r.more=false->((N++(⟨#[32,61,32]⟩:ByteArray))++S)++(⟨#[10]⟩:ByteArray)=ak (dZ r) from fun e=>by
  rw[hN,hS,show (⟨#[32,61,32]⟩:ByteArray)=ak [32,61,32]from rfl,show (⟨#[10]⟩:ByteArray)=ak [10]from rfl,eT,eT,eT];unfold dZ;rw[e];rfl)
 have EJ:=hh9 (show r.more=true->((N++(⟨#[32,61,47,32]⟩:ByteArray))++S)++(⟨#[10]⟩:ByteArray)=ak (dZ r) from fun e=>by
  rw[hN,hS,show (⟨#[32,61,47,32]⟩:ByteArray)=ak [32,61,47,32]from rfl,show (⟨#[10]⟩:ByteArray)=ak [10]from rfl,eT,eT,eT];unfold dZ;rw[e];rfl)
 obtain⟨nm,mo,⟨k,s,nv,lo,hi,kv⟩⟩:=y;simp only[]at hn hm e1 e2;have hn2:nm=N:=hn.trans hN.symm;subst hn2 hm e1 e2;obtain⟨a0,a1,a2,a3,a4,a5,a6,a7⟩:=hL.cells;unfold mZ LV.arr at hb a0 a1 a2 a3 a4 a5 a6 a7;have HB:=hh9 hb;show Calls _ _ #[.agg #[.string nm,.bool r.more,.int .i64 k,.string s,.slice a m ca,.int .i64 lo,.int .i64 hi,.slice c n cc]] W _
 have g1:(⟨#[32,61,32]⟩:ByteArray).size=3:=rfl;have g2:(⟨#[32,61,47,32]⟩:ByteArray).size=4:=rfl;have g3:(⟨#[10]⟩:ByteArray).size=1:=rfl;have d1:∀ W:World,(Op.stringOp .add nm ⟨#[32,61,32]⟩).run Tryz.prog W=.ok (.string (nm++⟨#[32,61,32]⟩)) W:=fun W=>run_string_add_sum W _ _ (by omega)
 have d2:∀ W:World,(Op.stringOp .add (nm++⟨#[32,61,32]⟩) S).run Tryz.prog W=.ok (.string ((nm++⟨#[32,61,32]⟩)++S)) W:=fun W=>run_string_add_sum W _ _ (by rw[ByteArray.size_append];omega)
 have d3:∀ W:World,(Op.stringOp .add ((nm++⟨#[32,61,32]⟩)++S) ⟨#[10]⟩).run Tryz.prog W=.ok (.string (((nm++⟨#[32,61,32]⟩)++S)++⟨#[10]⟩)) W:=fun W=>run_string_add_sum W _ _ (by rw[ByteArray.size_append,ByteArray.size_append];omega)
 have f1:∀ W:World,(Op.stringOp .add nm ⟨#[32,61,47,32]⟩).run Tryz.prog W=.ok (.string (nm++⟨#[32,61,47,32]⟩)) W:=fun W=>run_string_add_sum W _ _ (by omega)
 have f2:∀ W:World,(Op.stringOp .add (nm++⟨#[32,61,47,32]⟩) S).run Tryz.prog W=.ok (.string ((nm++⟨#[32,61,47,32]⟩)++S)) W:=fun W=>run_string_add_sum W _ _ (by rw[ByteArray.size_append];omega)
 have f3:∀ W:World,(Op.stringOp .add ((nm++⟨#[32,61,47,32]⟩)++S) ⟨#[10]⟩).run Tryz.prog W=.ok (.string (((nm++⟨#[32,61,47,32]⟩)++S)++⟨#[10]⟩)) W:=fun W=>run_string_add_sum W _ _ (by rw[ByteArray.size_append,ByteArray.size_append];omega)
 clear hb hL hc hl ht hS hN hn hr hT hlt hlen kF g1 g2 g3
 cases hmo:r.more
 all_goals
  rw[hmo]at BU EJ a0 a1 a2 a3 a4 a5 a6 a7 HB;clear hmo;go_enter Tryz.func47,Tryz.ntmps47;go_wp2_with fail
  go_region_held3 (fun W'=>(W'.cell? ⟨W.heap.size,0,none⟩=some (.string nm)/\W'.cell? ⟨W.heap.size,2,none⟩=some (.int .i64 k)/\W'.cell? ⟨W.heap.size,3,none⟩=some (.string s)/\W'.cell? ⟨W.heap.size,4,none⟩=some (.slice a m ca)/\W'.cell? ⟨W.heap.size,5,none⟩=some (.int .i64 lo)/\W'.cell? ⟨W.heap.size,6,none⟩=some (.int .i64 hi)/\W'.cell? ⟨W.heap.size,7,none⟩=some (.slice c n cc))/\Below W.heap.size W W')
   (first|exact DF.step (by assumption) (by assumption)|exact DF.drew (by assumption)|exact⟨⟨by assumption,by assumption,by assumption,by assumption,by assumption,by assumption,by assumption⟩,dJ HB.out 1⟩)
   (first|(go_at_call 69;refine(lu.out _ (And.right (by assumption))).mono ?_;rintro e w' ⟨rfl,hb'⟩))
  rename_i hS;have HB2:=hh9 hS.2;clear hS a0 a1 a2 a3 a4 a5 a6 a7;go_wp2_with fail
  go_ret
  first
   |exact⟨congrArg (fun u=>Ending.returned (Value.string u)) (BU.out (by simp)),HB2.out⟩
   |exact⟨congrArg (fun u=>Ending.returned (Value.string u)) (EJ.out (by simp)),HB2.out⟩
structure RV where
 name:ByteArray
 expr:XV
def RV.cells(y:RV):List Value:=[.string y.name,.int .i64 y.expr.kind,.string y.expr.text,y.expr.ns,.int .i64 y.expr.lo,.int .i64 y.expr.hi,y.expr.ks]
def RV.arr(y:RV):Array Value:=#[.string y.name,.int .i64 y.expr.kind,.string y.expr.text,y.expr.ns,.int .i64 y.expr.lo,.int .i64 y.expr.hi,y.expr.ks]
def RV.val(y:RV):Value:=.agg y.arr
def bJ(x:List Int):Prop:=(∀ c∈x,0<=c/\c<=255)/\x.length<=9223372036854775807
def NQ(W:World)(y:RV)(r:GR):Prop:=y.name=ak r.name/\bJ r.name/\aM W y.expr r.expr
theorem NQ.under{W W':World}{y:RV}{r:GR}(h:NQ W y r)(hb:Below W.heap.size W W'):NQ W' y r:=⟨h.1,h.2.1,h.2.2.under hb⟩
def qF(W:World)(v:Value)(ys:List RV)(g:List GR):Prop :=
 au W v g.length (ys.flatMap RV.cells)/\ys.length=g.length/\∀ (i:Nat) (y:RV) (r:GR),ys[i]?=some y->g[i]?=some r->NQ W y r
theorem qF.below{W W':World}{v:Value}{ys:List RV}{g:List GR}(h:qF W v ys g)(hb:Below W.heap.size W W'):qF W' v ys g:=⟨h.1.below hb,h.2.1,fun i y r hy hr=>(h.2.2 i y r hy hr).under hb⟩
theorem uI(vs:List RV)(i j:Nat)(x:RV)(h:vs[i]?=some x)(hj:j<7):(vs.flatMap RV.cells)[i*7+j]?=x.cells[j]?:=by
 induction vs generalizing i with
 |nil=>simp at h
 |cons y vs ih =>
  cases i with
  |zero =>
   simp at h;subst h;simp only[List.flatMap_cons,Nat.zero_mul,Nat.zero_add];rw[zbK (by simp[RV.cells];exact hj)]
  |succ i =>
   simp at h;have:=ih i h;simp only[List.flatMap_cons];rw[zbL (by simp[RV.cells];omega),show (i+1)*7+j-(RV.cells y).length=i*7+j by simp[RV.cells];omega];exact this
theorem qd3{a b:Int}(ha:0<=a/\a<=255)(hb:0<=b/\b<=255)(h:ig a=ig b):a=b:=by
 unfold ig at h;have h2:=congrArg UInt8.toNat h;simp at h2;omega
theorem Rf:∀ {x y:List Int},(∀ c∈x,0<=c/\c<=255)->(∀ c∈y,0<=c/\c<=255)->ak x=ak y->x=y:=by
 intro x y hx hy h;have h2:x.map ig=y.map ig:=by rw[<- Ag,<- Ag,h]
 clear h
 induction x generalizing y with
 |nil=>cases y with
  |nil=>rfl
  |cons b y=>simp at h2
 |cons a x ih=>cases y with
  |nil=>simp at h2
  |cons b y =>
   simp only[List.map_cons,List.cons.injEq]at h2;rw[qd3 (hx a (by simp)) (hy b (by simp)) h2.1,ih (fun c hc=>hx c (by simp[hc])) (fun c hc=>hy c (by simp[hc])) h2.2]
theorem qad{x y:List Int}(hx:bJ x)(hy:bJ y):(ak x==ak y)=decide (x=y):=by
 by_cases h:x=y
 ·subst h;rw[zbN rfl];exact(Go.MapKept.bytes_beq _ _).2 rfl
 ·rw[zbM h]
  cases hb:(ak x==ak y) with
  |false=>rfl
  |true=>exact absurd (Rf hx.1 hy.1 ((Go.MapKept.bytes_beq _ _).1 hb)) h
theorem Rh{x y:List Int}(hx:bJ x)(hy:bJ y):((ak x).toList==(ak y).toList)=decide (x=y):=by
 rw[<- qad hx hy];rw[Bool.eq_iff_iff,beq_iff_eq,Go.MapKept.bytes_beq,Lib.toList_data,Lib.toList_data];constructor
 ·intro h;exact ByteArray.ext (Array.toList_inj.1 h)
 ·intro h;rw[h]
def JX(n:Int)(w:World)(e:Ending)(w':World):Prop:=e=.returned (.int .i64 n)/\Below w.heap.size w w'
theorem XB{g:List GR}{x:List Int}{i:Nat}{r:GR}(h:g[i]?=some r)(hr:r.name=x)(hno:∀ (j:Nat) (u:GR),j<i->g[j]?=some u->u.name≠x):uz g x=i:=Dq (tN.2 ⟨⟨r,h,hr⟩,hno⟩)
theorem XC{g:List GR}{x:List Int}(hno:∀ (j:Nat) (u:GR),j<g.length->g[j]?=some u->u.name≠x):uz g x=-1:=ED (Ny.2 fun r hr=>by
 obtain⟨j,hj,e⟩:=List.mem_iff_getElem.1 hr;exact hno j r hj (by rw[<- e];exact zbC hj))
theorem NR{w:World}{v:Value}{ys:List RV}{g:List GR}{x:List Int}(h:qF w v ys g)(hx:bJ x):Calls Tryz.prog 21 #[v,.string (ak x)] w (JX (uz g x) w):=by
 obtain⟨h1,h2,h3⟩:=h;have H2:=hh9 h2;have H3:=hh9 h3;have HX:=hh9 hx;obtain⟨n,hnn⟩:∃ n,n=g.length:=⟨_,rfl⟩
 obtain⟨N,hN⟩:∃ N,N=uz g x:=⟨_,rfl⟩
 obtain⟨s,hs⟩:∃ s,s=ak x:=⟨_,rfl⟩
 rw[<- hnn]at h1;rw[<- hN,<- hs];have bH:=hh9 hnn;have HN:=hh9 hN;have HS:=hh9 hs;clear h2 h3 hnn hN hs hx;rcases h1 with ⟨h0,a,cap,rfl⟩|⟨b,off,cap,rfl,g1,g2,g3,g4⟩
 ·obtain rfl:g=[]:=List.length_eq_zero_iff.1 (by rw[<- bH.out];exact h0);subst h0;obtain rfl:N=-1:=by rw[HN.out];rfl
  go_enter Tryz.func21,Tryz.ntmps21;go_wp2_with fail
  go_loop [5] (fun v=>v=.int .i64 0) (fun _=>0)
  case atStart=>rfl
  case round =>
   subst hrel;go_wp2_with fail
   go_ret;exact⟨rfl,zbE _ _⟩
 ·have G4:=hh9 g4;unfold maxLen at g2;clear g4;have HB0:=hh9 (zbE w.heap.size w);go_enter Tryz.func21,Tryz.ntmps21;go_wp2_with fail
  go_loopw [5] (fun v wr=>∃ i:Nat,v=.int .i64 i/\i<=n/\Hid (∀ (j:Nat) (u:GR),j<i->g[j]?=some u->u.name≠x)/\Hid (Below w.heap.size w wr)) (fun v _=>n-(intOf v).toNat)
  case atStart=>exact⟨0,rfl,by omega,fun j u hj=>by omega,HB0⟩
  case round =>
   obtain⟨i,rfl,hi,lq,aA⟩:=hrel;by_cases hlt:i<n
   ·obtain⟨Y,hY⟩:∃ y,ys[i]?=some y:=⟨_,zbC (by rw[H2.out,<- bH.out];exact hlt)⟩
    obtain⟨t,ht⟩:∃ y,g[i]?=some y:=⟨_,zbC (by rw[<- bH.out];exact hlt)⟩
    have e0:wr.cell? ⟨b,off+(i*7+0),none⟩=some (.string Y.name) :=
     (aA.out.cell (p:=⟨b,off+(i*7+0),none⟩) g3).trans (G4.out _ _ ((uI ys i 0 Y hY (by omega)).trans rfl))
    obtain⟨en,hto,_⟩:=H3.out i Y t hY ht;rw[Nat.add_zero]at e0;rw[en]at e0;have hq:=Rh hto HX.out;rw[<- HS.out]at hq;obtain⟨T,hT⟩:∃ T,T=ak t.name:=⟨_,rfl⟩
    rw[<- hT]at e0 hq;clear hT;by_cases hc:t.name=x
    ·rw[zbN hc]at hq;have HV:=hh9 (show N=i by rw[HN.out];exact XB ht hc lq.out);clear hY ht hto en hc;go_wp2_with fail
     go_ret;exact⟨by rw[HV.out];rfl,aA.out⟩
    ·rw[zbM hc]at hq
     have EO:Hid (∀ (j:Nat) (u:GR),j<i+1->g[j]?=some u->u.name≠x):=fun j u hj hu=>by
      by_cases hji:j<i
      ·exact lq.out j u hji hu
      ·obtain rfl:j=i:=by omega
       rw[ht]at hu;rw[<- zbB hu];exact hc
     clear hY ht hto en hc;go_wp2_with fail
     go_roundw
     case rel=>exact⟨i+1,by go_num,by omega,EO,aA⟩
     case measure=>simp[intOf];omega
   ·obtain rfl:i=n:=by omega
    obtain rfl:N=-1:=by rw[HN.out];exact XC (fun j u hj=>lq.out j u (by rw[bH.out];exact hj))
    go_wp2_with fail
    go_ret;exact⟨rfl,aA.out⟩
theorem zwv{w:World}{b:Nat}{Y:RV}{s:ByteArray}(hb:w.cell? ⟨b,0,none⟩=some (.string s))(hl:b<w.heap.size):Calls Tryz.prog 34 #[Y.val,.pointer (some ⟨b,0,none⟩)] w (fun e w'=>e=.returned (.bool (Y.name.toList==s.toList))/\Below w.heap.size w w'):=by
 obtain⟨nm,⟨k,t,nv,lo,hi,kv⟩⟩:=Y;have hb2:=jr hb (.cells #[.string nm,.int .i64 k,.string t,nv,.int .i64 lo,.int .i64 hi,kv] 33);show Calls Tryz.prog 34 #[.agg #[.string nm,.int .i64 k,.string t,nv,.int .i64 lo,.int .i64 hi,kv],.pointer (some ⟨b,0,none⟩)] w _
 go_enter Tryz.func34,Tryz.ntmps34;go_wp2_with fail
 go_ret;exact⟨rfl,by go_grown⟩
def KT(t:TypeId):Prop:=t=29\/t=3\/t=65\/t=31
def wO(W:World)(g:Nat):Prop:=∃ (c:Array Value) (t:TypeId),KT t/\W.heap[g]?=some (.cells c t (0,0))
theorem wO.lt{W:World}{g:Nat}(h:wO W g):g<W.heap.size:=by
 obtain⟨c,t,_,h⟩:=h;exact(zbD.1 h).1
def zap(M:Nat->Prop)(W W':World):Prop:=W.heap.size<=W'.heap.size/\∀ (b:Nat) (c:Array Value) (t:TypeId) (z:Nat × Nat),¬ M b->KT t->W.heap[b]?=some (.cells c t z)->W'.heap[b]?=some (.cells c t z)
theorem zap.refl(M:Nat->Prop)(W:World):zap M W W:=⟨zbA _,fun _ _ _ _ _ _ h=>h⟩
theorem zap.trans{M:Nat->Prop}{A B C:World}(h:zap M A B)(k:zap M B C):zap M A C:=⟨zbH h.1 k.1,fun b c t z hm ht hb=>k.2 b c t z hm ht (h.2 b c t z hm ht hb)⟩
theorem zap.below{M:Nat->Prop}{W W':World}(h:Below W.heap.size W W'):zap M W W':=⟨h.size,fun b c t z _ _ hb=>(h.block b (zbD.1 hb).1).trans hb⟩
theorem wO.kept{W W':World}{M:Nat->Prop}{g:Nat}(h:wO W g)(hk:zap M W W')(hm:¬ M g):wO W' g:=by
 obtain⟨c,t,ht,h⟩:=h;exact⟨c,t,ht,hk.2 g c t (0,0) hm ht h⟩
theorem zap.cell{M:Nat->Prop}{W W':World}(h:zap M W W'){b j:Nat}{v:Value}(h0:wO W b)(hm:¬ M b)(hc:W.cell? ⟨b,j,none⟩=some v):W'.cell? ⟨b,j,none⟩=some v:=by
 obtain⟨c,t,ht,hb⟩:=h0;have hb':=h.2 b c t (0,0) hm ht hb;unfold World.cell? at hc ⊢;simp only[hb]at hc;simp only[hb'];exact hc
theorem zap.put{M:Nat->Prop}(W:World)(l:Nat)(o o':Obj)(hl:W.heap[l]?=some o)(ho:o.isCells=false):zap M W (W.putObj l o'):=by
 refine⟨by simp[World.putObj],fun b c t z _ _ hb=>?_⟩;by_cases h:b=l
 ·subst h;rw[hl]at hb;have e:=zbB hb;subst e
  cases ho
 ·rw[World.putObj_heap_other (by omega)];exact hb
def iL(W:World)(P:Nat->Prop)(v:Value)(n:Nat)(xs:List Value):Prop :=
 (n=0/\∃ a cap,v=.slice a 0 cap)\/∃ g off cap,v=.slice (some ⟨g,off,none⟩) n cap/\n<=cap/\cap<=maxLen/\wO W g/\P g/\∀ (j:Nat) (u:Value),xs[j]?=some u->W.cell? ⟨g,off+j,none⟩=some u
theorem iL.any{W:World}{P:Nat->Prop}{v:Value}{n:Nat}{xs:List Value}(h:iL W P v n xs):au W v n xs:=by
 rcases h with h|⟨g,off,cap,h1,h2,h3,h4,_,h5⟩
 ·exact .inl h
 ·exact .inr ⟨g,off,cap,h1,h2,h3,h4.lt,h5⟩
theorem iL.kept{W W':World}{P P' M:Nat->Prop}{v:Value}{n:Nat}{xs:List Value}(h:iL W P v n xs)(hk:zap M W W')(hm:∀ b,P b->b<W.heap.size->¬ M b/\P' b):iL W' P' v n xs:=by
 rcases h with h|⟨g,off,cap,h1,h2,h3,h4,hP,h5⟩
 ·exact .inl h
 ·exact .inr ⟨g,off,cap,h1,h2,h3,h4.kept hk (hm g hP h4.lt).1,(hm g hP h4.lt).2,fun j u hj=>hk.cell h4 (hm g hP h4.lt).1 (h5 j u hj)⟩
theorem iL.oI{W:World}{P:Nat->Prop}{base size n:Nat}{e:TypeId}{v:Value}{xs:List Value}(he:KT e)(h:W.ownsRow base e size v n xs)(hP:∀ b,v.ownBlock=some b->P b):iL W P v n xs:=by
 rcases fB h with ⟨rfl,rfl⟩|⟨g,cap,rfl⟩
 ·exact .inl ⟨rfl,_,_,rfl⟩
 ·obtain⟨hb,hc,hm,hg⟩:=iX h;refine .inr ⟨g,0,cap,rfl,hc,hm,?_,hP g rfl,fun j u hj=>by rw[Nat.zero_add];exact eZ h hj⟩;rcases h.2 with ⟨hn,_⟩|⟨g',cap',cur,hv,_,hblk,_⟩
  ·cases hn
  ·simp at hv;obtain⟨rfl,_⟩:=hv;exact⟨_,_,he,hblk⟩
inductive dX (W:World) (P:Nat->Prop):XV->Tree->Prop
 |mk {k lo hi:Int} {ns ks:Value} {x nums:List Int} {kids:List Tree} (vs:List XV) :
   (∀ c∈x,0<=c/\c<=255)->x.length<=9223372036854775807->iL W P ns nums.length (dA nums)->iL W P ks kids.length (vs.flatMap XV.cells)->vs.length=kids.length ->
   (∀ (i:Nat) (y:XV) (t:Tree),vs[i]?=some y->kids[i]?=some t->dX W P y t)->dX W P ⟨k,ak x,ns,lo,hi,ks⟩ (.mk k x nums lo hi kids)
theorem dX.any{W:World}{P:Nat->Prop}{X:XV}{t:Tree}(h:dX W P X t):aM W X t:=by
 induction h with
 |mk vs h0 hl h1 h2 h3 _ ih=>exact .mk vs h0 hl h1.any h2.any h3 ih
theorem dX.kept{W W':World}{P P' M:Nat->Prop}{X:XV}{t:Tree}(h:dX W P X t)(hk:zap M W W')(hm:∀ b,P b->b<W.heap.size->¬ M b/\P' b):dX W' P' X t:=by
 induction h with
 |mk vs h0 hl h1 h2 h3 _ ih=>exact .mk vs h0 hl (h1.kept hk hm) (h2.kept hk hm) h3 ih
theorem iL.same{W:World}{P:Nat->Prop}{v:Value}{n n':Nat}{xs xs':List Value}(h:iL W P v n xs)(h':iL W P v n' xs'):n=n'/\(∀ (j:Nat) (u u':Value),xs[j]?=some u->xs'[j]?=some u'->0<n->u=u'):=by
 rcases h with ⟨rfl,a,cap,rfl⟩|⟨g,off,cap,rfl,_,_,_,_,h5⟩<;>rcases h' with ⟨rfl,a',cap',e⟩|⟨g',off',cap',e,_,_,_,_,h5'⟩
 ·exact⟨rfl,fun _ _ _ _ _ h=>by omega⟩
 ·simp at e;exact⟨e.2.1,fun _ _ _ _ _ h=>by omega⟩
 ·simp at e;exact⟨e.2.1,fun _ _ _ _ _ h=>by omega⟩
 ·simp at e;obtain⟨⟨rfl,rfl⟩,rfl,rfl⟩:=e;exact⟨rfl,fun j u u' h1 h2 _=>zbB ((h5 j u h1).symm.trans (h5' j u' h2))⟩
theorem dX.one{W:World}{P:Nat->Prop}{X:XV}{t:Tree}(h:dX W P X t):∀ {t':Tree},dX W P X t'->t=t':=by
 induction h with
 |@mk k lo hi ns ks x nums kids vs h0 hl h1 h2 h3 h4 ih =>
  intro t' h';generalize hX:(⟨k,ak x,ns,lo,hi,ks⟩:XV)=X at h'
  cases h' with
  |@mk k' lo' hi' ns' ks' x' yK qE vs' h0' hl' h1' h2' h3' h4' =>
   simp only[XV.mk.injEq]at hX;obtain⟨rfl,e,rfl,rfl,rfl,rfl⟩:=hX;have ex:=Rf h0 h0' e;subst ex;obtain⟨en,hn⟩:=h1.same h1';obtain⟨ek,hk⟩:=h2.same h2'
   have enum:nums=yK:=by
    apply List.ext_getElem?;intro i;by_cases hi:i<nums.length
    ·have:=hn i (.int .i64 nums[i]) (.int .i64 (yK[i]'(by omega))) (by unfold dA;simp[hi]) (by unfold dA;simp[show i<yK.length by omega]) (by omega);simp at this;rw[zbC hi,zbC (by omega),this]
    ·rw[List.getElem?_eq_none (by omega),List.getElem?_eq_none (by omega)]
   subst enum
   have Ri:kids=qE:=by
    apply List.ext_getElem?;intro i;by_cases hi:i<kids.length
    ·have a1:vs[i]?=some vs[i]:=zbC (by omega);have a2:vs'[i]?=some vs'[i]:=zbC (by omega);have a3:kids[i]?=some kids[i]:=zbC hi;have a4:qE[i]?=some qE[i]:=zbC (by omega)
     have cell:∀ j,j<6->(vs[i]).cells[j]?=(vs'[i]).cells[j]?:=fun j hj=>by
      obtain⟨u,hu⟩:∃ u,(vs[i]).cells[j]?=some u:=⟨_,zbC (show j<(vs[i]).cells.length from hj)⟩
      obtain⟨u',hu'⟩:∃ u,(vs'[i]).cells[j]?=some u:=⟨_,zbC (show j<(vs'[i]).cells.length from hj)⟩
      rw[hu,hu',hk (i*6+j) u u' ((pV vs i j _ a1 hj).trans hu) ((pV vs' i j _ a2 hj).trans hu') (by omega)]
     have ev:vs[i]=vs'[i]:=by
      have c0:=cell 0 (by omega);have c1:=cell 1 (by omega);have c2:=cell 2 (by omega);have c3:=cell 3 (by omega);have c4:=cell 4 (by omega);have c5:=cell 5 (by omega);revert c0 c1 c2 c3 c4 c5;generalize vs[i]=A;generalize vs'[i]=B;obtain⟨_,_,_,_,_,_⟩:=A;obtain⟨_,_,_,_,_,_⟩:=B;simp[XV.cells]
      intros
      simp_all
     have:=ih i _ _ a1 a3 (ev ▸ h4' i _ _ a2 a4);rw[a3,a4,this]
    ·rw[List.getElem?_eq_none (by omega),List.getElem?_eq_none (by omega)]
   subst Ri;rfl
def dep:Tree->Nat
 |.mk _ _ _ _ _ kids=>1+(kids.map dep).foldr max 0
theorem max_le{l:List Nat}{n:Nat}:(l.foldr max 0)<=n ↔ ∀ k∈l,k<=n:=by
 induction l with
 |nil=>simp
 |cons a l ih=>simp only[List.foldr_cons,Nat.max_le,ih,List.mem_cons,forall_eq_or_imp]
theorem qeh{k lo hi:Int}{x ns:List Int}{kids:List Tree}{n:Nat}:dep (.mk k x ns lo hi kids)<=n+1 ↔ ∀ t∈kids,dep t<=n:=by
 rw[dep];have:1+(kids.map dep).foldr max 0<=n+1 ↔ (kids.map dep).foldr max 0<=n:=by omega
 rw[this,max_le];simp
theorem Rj(t:Tree):1<=dep t:=by
 obtain⟨_,_,_,_,_,_⟩:=t;rw[dep];omega
def EP(W:World)(P:Nat->Prop)(v:Value)(vs:List XV)(l:List Tree):Prop :=
 iL W P v l.length (vs.flatMap XV.cells)/\vs.length=l.length/\∀ (i:Nat) (y:XV) (t:Tree),vs[i]?=some y->l[i]?=some t->dX W P y t
theorem EP.kept{W W':World}{P P' M:Nat->Prop}{v:Value}{vs:List XV}{l:List Tree}(h:EP W P v vs l)(hk:zap M W W')(hm:∀ b,P b->b<W.heap.size->¬ M b/\P' b):EP W' P' v vs l :=
 ⟨h.1.kept hk hm,h.2.1,fun i y t hy ht=>(h.2.2 i y t hy ht).kept hk hm⟩
theorem dX.kids{W:World}{P:Nat->Prop}{X:XV}{t:Tree}(h:dX W P X t):∃ x ns kids vs,t=.mk X.kind x ns X.lo X.hi kids/\X.text=ak x/\bJ x/\EP W P X.ks vs kids:=by
 cases h with
 |mk vs h0 hl h1 h2 h3 h4=>exact⟨_,_,_,vs,rfl,rfl,⟨h0,hl⟩,h2,h3,h4⟩
def wP(W:World)(P:Nat->Prop)(mk:Option Addr)(n:Nat):Prop :=
 mk=none\/∃ (b o:Nat) (X:XV) (t:Tree),mk=some ⟨b,o,none⟩/\P b/\wO W b/\(∀ (j:Nat) (u:Value),X.cells[j]?=some u->W.cell? ⟨b,o+j,none⟩=some u)/\dX W P X t/\n<t.tw
theorem wP.kept{W W':World}{P P' M:Nat->Prop}{mk:Option Addr}{n:Nat}(h:wP W P mk n)(hk:zap M W W')(hm:∀ b,P b->b<W.heap.size->¬ M b/\P' b):wP W' P' mk n:=by
 rcases h with h|⟨b,o,X,t,h1,h2,h3,h4,h5,h6⟩
 ·exact .inl h
 ·exact .inr ⟨b,o,X,t,h1,(hm b h2 h3.lt).2,h3.kept hk (hm b h2 h3.lt).1,fun j u hj=>hk.cell h3 (hm b h2 h3.lt).1 (h4 j u hj),h5.kept hk hm,h6⟩
theorem wP.less{W:World}{P:Nat->Prop}{mk:Option Addr}{n n':Nat}(h:wP W P mk n)(hn:n'<=n):wP W P mk n':=by
 rcases h with h|⟨b,o,X,t,h1,h2,h3,h4,h5,h6⟩
 ·exact .inl h
 ·exact .inr ⟨b,o,X,t,h1,h2,h3,h4,h5,by omega⟩
theorem wP.ne{W:World}{P:Nat->Prop}{mk:Option Addr}{n b o:Nat}{X:XV}{t:Tree}(h:wP W P mk n)(hc:∀ (j:Nat) (u:Value),X.cells[j]?=some u->W.cell? ⟨b,o+j,none⟩=some u)(hE:dX W P X t)(hn:t.tw<=n):mk≠some ⟨b,o,none⟩:=by
 rintro rfl;rcases h with h|⟨b',o',X',t',h1,h2,h3,h4,h5,h6⟩
 ·cases h
 ·simp at h1;obtain⟨rfl,rfl⟩:=h1
  have ev:X=X':=by
   have c:=fun j (u u':Value) (hu:X.cells[j]?=some u) (hu':X'.cells[j]?=some u')=>zbB ((hc j u hu).symm.trans (h4 j u' hu'))
   have c0:=c 0 _ _ rfl rfl;have c1:=c 1 _ _ rfl rfl;have c2:=c 2 _ _ rfl rfl;have c3:=c 3 _ _ rfl rfl;have c4:=c 4 _ _ rfl rfl;have c5:=c 5 _ _ rfl rfl;obtain⟨_,_,_,_,_,_⟩:=X;obtain⟨_,_,_,_,_,_⟩:=X';simp at c0 c1 c2 c3 c4 c5
   simp_all
  subst ev;have:=hE.one h5;subst this;omega
theorem qae:∃ j:TypeInfo,Tryz.prog.info? 29=some j/\j.size≠0:=by
 have h:(Tryz.prog.info? 29).map (fun i=>i.size)=some 6:=by kernel_rfl
 cases e:Tryz.prog.info? 29 with
 |none=>rw[e]at h;cases h
 |some j =>
  rw[e]at h;simp at h;exact⟨j,rfl,by omega⟩
theorem pointee:Tryz.prog.underlying 63=some (.pointer (Tryz.prog.pointee 63)):=by kernel_rfl
theorem qaf{W:World}{P:Nat->Prop}{mk:Option Addr}{n b o:Nat}(h:wP W P mk n)(hc:wO W b)(hn:mk≠some ⟨b,o,none⟩) :
  (binOp .eql 63 (.pointer (some ⟨b,o,none⟩)) (.pointer mk)).run Tryz.prog W=.ok (.bool false) W:=by
 rcases h with rfl|⟨b',o',X,t,rfl,h2,h3,_⟩
 ·rw[run_eql_pointer_nil W _ _ pointee];rfl
 ·obtain⟨j,hj,hs⟩:=qae;obtain⟨c,t,_,hc⟩:=hc;obtain⟨c',t',_,hc'⟩:=h3;exact run_eql_ptr_other W (te:=29) (by kernel_rfl) hj hs (fun e=>hn (by rw[e])) hc hc'
end Go.Proofs.YtahibnnhjahmnaaGreatDoor
