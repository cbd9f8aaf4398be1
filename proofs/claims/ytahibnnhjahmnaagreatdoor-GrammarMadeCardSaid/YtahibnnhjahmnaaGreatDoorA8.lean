/- Part 8 of what the laws of the grammar rest on. -/
import Derived.Test.YtahibnnhjahmnaaGreatDoorA6
import Derived.Test.YtahibnnhjahmnaaGreatDoorA7
import Derived.Laws.BytesString
import Derived.Maps.OwnSet
import Derived.Deep.MidRow
import Derived.Shelf.Strings.OnBuilder
import Derived.Shelf.LaysM
import Derived.Shelf.Strconv.Itoa3
import Derived.Test.YtahibnnhjahmnaaGreatDoorProg
set_option linter.all false
set_option maxRecDepth 100000
set_option maxHeartbeats 8000000
namespace Go.Proofs.YtahibnnhjahmnaaGreatDoor
open Go.RowKit
def dG:Nat->Tree->Bool
 |0,_=>false
 |n+1,t=>dK n t
theorem QG(n:Nat)(k lo hi:Int)(x ns:List Int)(kids:List Tree):dK n (.mk k x ns lo hi kids)=(jd k x ns lo hi kids.length&&aY k x ns lo hi kids.length&&kids.all (dG n)):=by
 cases n with
 |zero =>
  rw[dK,WI]
  congr 1
  cases kids<;>simp[dG]
 |succ n=>rw[dK,WI];rfl
def BM(n:Nat):Prop:=∀ (W:World) (X:XV) (t:Tree) (q:Int),q=51-(n:Int)->aM W X t->Calls Tryz.prog 86 #[X.val,.int .i64 q] W (gG (dG n t) W)
theorem aM.ones{W:World}{X:XV}{t:Tree}(h:aM W X t):X.ns.oneCell'=true/\X.ks.oneCell'=true:=by
 cases h with
 |mk vs h0 hl h1 h2 _ _=>exact⟨h1.one,h2.one⟩
theorem zu0{n:Nat}(hn:n<=51)(ih:BM n){D:Nat}{W:World}{X:XV}{t:Tree}(h:aM W X t)(hD:W.cell? ⟨D,0,none⟩=some (.int .i64 (50-(n:Int)))) :
  Calls Tryz.prog 104 #[X.val,.pointer (some ⟨D,0,none⟩)] W (gG (dG n t) W):=by
 obtain⟨o1,o2⟩:=h.ones;obtain⟨k,s,nv,lo,hi,kv⟩:=X;obtain⟨q,hq⟩:∃ q:Int,q=50-(n:Int):=⟨_,rfl⟩
 rw[<- hq]at hD;have hb:=(zbE W.heap.size W).alloc (zbA _) (aB k lo hi s nv kv);have hDl:D<W.heap.size:=World.block_lt_of_cell? W ⟨D,0,none⟩ hD;have HC:=hh9 (ih _ _ t (q+1) (by omega) (h.under hb));have q0:-1<=q:=by omega
 have q1:q<=50:=by omega
 have hD2:=(hb.cell (p:=⟨D,0,none⟩) hDl).trans hD;unfold aB at hb HC hD2;have HB:=hh9 hb;show Calls _ _ #[.agg #[.int .i64 k,.string s,nv,.int .i64 lo,.int .i64 hi,kv],.pointer (some ⟨D,0,none⟩)] W _
 clear hb h hq ih hD
 cases hp:dG n t
 all_goals
  rw[hp]at HC;clear hp;go_enter Tryz.func104,Tryz.ntmps104;go_wp2_with fail
  refine HC.out.mono ?_;rintro e w' ⟨rfl,hb⟩;have HB2:=hh9 (aJ HB.out hb);clear hb;go_wp2_with fail
  go_ret;exact⟨rfl,HB2.out⟩
theorem qa1{n:Nat}(hn:n<=51)(ih:BM n){B D:Nat}{W:World}{X:XV}{t:Tree}(h:aM W X t)(hD:W.cell? ⟨D,0,none⟩=some (.int .i64 (50-(n:Int))))
  (hB:W.cell? ⟨B,0,none⟩=some (.func (Fn.func 104) #[] #[.pointer (some ⟨D,0,none⟩)])) :
  Calls Tryz.prog 126 #[X.val,.pointer (some ⟨B,0,none⟩)] W (gG (!dG n t) W):=by
 obtain⟨o1,o2⟩:=h.ones;obtain⟨k,s,nv,lo,hi,kv⟩:=X;have hb:=(zbE W.heap.size W).alloc (zbA _) (aB k lo hi s nv kv);have hDl:D<W.heap.size:=World.block_lt_of_cell? W ⟨D,0,none⟩ hD;have hBl:B<W.heap.size:=World.block_lt_of_cell? W ⟨B,0,none⟩ hB;have HC:=hh9 (zu0 hn ih (h.under hb) ((hb.cell (p:=⟨D,0,none⟩) hDl).trans hD));have hB2:=(hb.cell (p:=⟨B,0,none⟩) hBl).trans hB;unfold aB at hb HC hB2;have HB:=hh9 hb;show Calls _ _ #[.agg #[.int .i64 k,.string s,nv,.int .i64 lo,.int .i64 hi,kv],.pointer (some ⟨B,0,none⟩)] W _
 clear hb h ih hD hB
 cases hp:dG n t
 all_goals
  rw[hp]at HC;clear hp;go_enter Tryz.func126,Tryz.ntmps126;go_wp2_with fail
  refine HC.out.mono ?_;rintro e w' ⟨rfl,hb⟩;have HB2:=hh9 (aJ HB.out hb);clear hb;go_wp2_with fail
  go_ret;exact⟨rfl,HB2.out⟩
def pX(W:World)(v:Value)(vs:List XV)(kids:List Tree):Prop :=
 au W v kids.length (vs.flatMap XV.cells)/\vs.length=kids.length/\∀ (i:Nat) (y:XV) (t:Tree),vs[i]?=some y->kids[i]?=some t->aM W y t
theorem pX.below{W W':World}{v:Value}{vs:List XV}{kids:List Tree}(h:pX W v vs kids)(hb:Below W.heap.size W W'):pX W' v vs kids :=
 ⟨h.1.below hb,h.2.1,fun i y t hy ht=>(h.2.2 i y t hy ht).under hb⟩
def WK(no:Bool)(w:World)(e:Ending)(w':World):Prop:=∃ i:Int,e=.returned (.int .i64 i)/\Below w.heap.size w w'/\-1<=i/\decide (0<=i)=no
theorem BN{P:Tree->Bool}{x:List Tree}{n:Nat}(hn:x.length<=n)(h:∀ (i:Nat) (c:Tree),i<n->x[i]?=some c->P c=true):x.all P=true:=by
 rw[List.all_eq_true];intro c hc;obtain⟨i,hi⟩:=List.getElem?_of_mem hc;exact h i c (Nat.lt_of_lt_of_le (zbF.1 hi).1 hn) hi
theorem WL{P:Tree->Bool}{x:List Tree}{i:Nat}{c:Tree}(h:x[i]?=some c)(hc:P c=false):x.all P=false:=by
 rw[List.all_eq_false];exact⟨c,zbI h,by simp[hc]⟩
theorem zu1{n:Nat}(hn:n<=51)(ih:BM n){B D:Nat}{w:World}{v:Value}{vs:List XV}{kids:List Tree}(h:pX w v vs kids)(hD:w.cell? ⟨D,0,none⟩=some (.int .i64 (50-(n:Int))))
  (hB:w.cell? ⟨B,0,none⟩=some (.func (Fn.func 104) #[] #[.pointer (some ⟨D,0,none⟩)])) :
  Calls Tryz.prog 147 #[v,.func (Fn.func 126) #[] #[.pointer (some ⟨B,0,none⟩)]] w (WK (!kids.all (dG n)) w):=by
 have hDl:D<w.heap.size:=World.block_lt_of_cell? w ⟨D,0,none⟩ hD;have hBl:B<w.heap.size:=World.block_lt_of_cell? w ⟨B,0,none⟩ hB;obtain⟨h1,h2,h3⟩:=h;obtain⟨m,hm⟩:∃ m,m=kids.length:=⟨_,rfl⟩
 rw[<- hm]at h1 h2;have HM:=hh9 hm;have H2:=hh9 h2;have H3:=hh9 h3;have HD:=hh9 hD;have jX:=hh9 hB;have IH:=hh9 ih;rcases h1 with ⟨h0,a,cap,rfl⟩|⟨g,off,cap,rfl,g1,g2,g3,g4⟩
 ·have hx0:kids=[]:=List.length_eq_zero_iff.1 (by omega);subst hx0;clear hm h0 hD hB h2 h3 ih;go_enter Tryz.func147,Tryz.ntmps147;go_wp2_with fail
  go_loop [8] (fun v=>v=.int .i64 0) (fun v=>0)
  case atStart=>rfl
  case round =>
   subst hrel;go_wp2_with fail
   go_ret;exact⟨-1,rfl,zbE _ _,by omega,by decide⟩
 ·have G4:=hh9 g4;unfold maxLen at g2;clear hm hD hB h2 h3 ih g4;go_enter Tryz.func147,Tryz.ntmps147;go_wp2_with fail
  go_loopw [8] (fun v wr=>∃ i:Nat,v=.int .i64 i/\i<=m/\Hid (Below w.heap.size w wr)/\Hid (∀ (j:Nat) (c:Tree),j<i->kids[j]?=some c->dG n c=true)) (fun v _=>m-(intOf v).toNat)
  case atStart=>exact⟨0,rfl,by omega,zbE _ _,fun j c h=>by omega⟩
  case round =>
   obtain⟨i,rfl,hi,aA,aF⟩:=hrel;by_cases hlt:i<m
   ·obtain⟨Y,hY⟩:∃ y,vs[i]?=some y:=⟨_,zbC (by rw[H2.out];exact hlt)⟩
    obtain⟨t,ht⟩:∃ y,kids[i]?=some y:=⟨_,zbC (by rw[<- HM.out];exact hlt)⟩
    have jM:=hh9 ht
    have CX:∀ (j:Nat) (u:Value),j<6->Y.cells[j]?=some u->wr.cell? ⟨g,off+(i*6+j),none⟩=some u:=fun j u hj hu =>
     (aA.out.cell (p:=⟨g,off+(i*6+j),none⟩) g3).trans (G4.out _ u ((pV vs i j Y hY hj).trans hu))
    have HN:=hh9 (qa1 hn IH.out ((H3.out i Y t hY ht).under aA.out) ((aA.out.cell (p:=⟨D,0,none⟩) hDl).trans HD.out) ((aA.out.cell (p:=⟨B,0,none⟩) hBl).trans jX.out));obtain⟨k,s,nv,lo,hi',kv⟩:=Y;have e0:=CX 0 _ (by omega) rfl;have e1:=CX 1 _ (by omega) rfl;have e2:=CX 2 _ (by omega) rfl;have e3:=CX 3 _ (by omega) rfl;have e4:=CX 4 _ (by omega) rfl;have e5:=CX 5 _ (by omega) rfl;rw[<- Nat.add_assoc]at e0 e1 e2 e3 e4 e5;rw[Nat.add_zero]at e0;clear CX hY ht
    cases hf:dG n t
    ·have kJ:=hh9 (WL (P:=dG n) jM.out hf);rw[hf]at HN;clear hf;go_wp2_with fail
     refine HN.out.mono ?_;rintro e w' ⟨rfl,hb'⟩;have HB2:=hh9 (aJ aA.out hb');clear hb';go_wp2_with fail
     go_ret;exact⟨(i:Int),rfl,HB2.out,by omega,by rw[kJ.out];simp⟩
    ·have bT:Hid (∀ (j:Nat) (c:Tree),j<i+1->kids[j]?=some c->dG n c=true):=fun j c hj hc=>by
      by_cases g:j=i
      ·subst g;rw[jM.out]at hc;rw[<- zbB hc];exact hf
      ·exact aF.out j c (by omega) hc
     rw[hf]at HN;clear hf;go_wp2_with fail
     refine HN.out.mono ?_;rintro e w' ⟨rfl,hb'⟩;have HB2:=hh9 (aJ aA.out hb');clear hb' e0 e1 e2 e3 e4 e5;go_wp2_with fail
     go_roundw
     case rel=>exact⟨i+1,by go_num,by omega,HB2,bT⟩
     case measure=>simp[intOf];omega
   ·have hyes:kids.all (dG n)=true:=BN (n:=m) (by rw[HM.out];exact zbA _) (fun j c h hc=>aF.out j c (by omega) hc);have jy:=hh9 hyes;clear hyes;go_wp2_with fail
    go_ret;exact⟨-1,rfl,aA.out,by omega,by rw[jy.out];decide⟩
theorem zw1{n:Nat}(hn:n<=51)(ih:BM n){B D:Nat}{w:World}{v:Value}{vs:List XV}{kids:List Tree}(h:pX w v vs kids)(hD:w.cell? ⟨D,0,none⟩=some (.int .i64 (50-(n:Int))))
  (hB:w.cell? ⟨B,0,none⟩=some (.func (Fn.func 104) #[] #[.pointer (some ⟨D,0,none⟩)])) :
  Calls Tryz.prog 125 #[v,.func (Fn.func 126) #[] #[.pointer (some ⟨B,0,none⟩)]] w (gG (!kids.all (dG n)) w):=by
 have HI:=hh9 (zu1 hn ih h hD hB);clear h hD hB ih;go_enter Tryz.func125,Tryz.ntmps125;go_wp2_with fail
 refine HI.out.mono ?_;rintro e w' ⟨i,rfl,hb,hi,hd⟩;have HD:=hh9 hd;have HB2:=hh9 hb;clear hd hb;go_wp2_with fail
 go_ret;exact⟨by rw[<- HD.out];exact rfl,HB2.out⟩
theorem qa2{n:Nat}(hn:n<=51)(ih:BM n){D:Nat}{w:World}{v:Value}{vs:List XV}{kids:List Tree}(h:pX w v vs kids)(hD:w.cell? ⟨D,0,none⟩=some (.int .i64 (50-(n:Int)))) :
  Calls Tryz.prog 103 #[v,.func (Fn.func 104) #[] #[.pointer (some ⟨D,0,none⟩)]] w (gG (kids.all (dG n)) w):=by
 have hDl:D<w.heap.size:=World.block_lt_of_cell? w ⟨D,0,none⟩ hD;have HS:=hh9 (fun o:Obj=>zw1 (w:=w.alloc o) (B:=w.heap.size) (D:=D) hn ih (h.below ((zbE _ _).alloc (zbA _) _)) ((((zbE _ _).alloc (zbA _) o).cell (p:=⟨D,0,none⟩) hDl).trans hD));clear h hD ih
 cases hp:kids.all (dG n)
 all_goals
  rw[hp]at HS;clear hp;go_enter Tryz.func103,Tryz.ntmps103;go_wp2_with fail
  refine(HS.out _ (by unfold World.cell?;rw[zbO];rfl)).mono ?_;rintro e w' ⟨rfl,hb⟩;have HB2:=hh9 (((zbE w.heap.size w).alloc (zbA _) _).trans (hb.mono (by simp)));clear hb;go_wp2_with fail
  go_ret;exact⟨rfl,HB2.out⟩
theorem gu{W W':World}{b j:Nat}{v:Value}(h:W.cell? ⟨b,j,none⟩=some v)(hb:Below W.heap.size W W'):W'.cell? ⟨b,j,none⟩=some v :=
 (hb.cell (p:=⟨b,j,none⟩) (World.block_lt_of_cell? W ⟨b,j,none⟩ h)).trans h
theorem zu2{n:Nat}(hn:n<=50)(ih:BM n):BM (n+1):=by
 intro w X t q hq h;obtain⟨k,x,ns,lo,hi,kids⟩:=t;have hr:dG (n+1) (.mk k x ns lo hi kids)=(jd k x ns lo hi kids.length&&aY k x ns lo hi kids.length&&kids.all (dG n)):=QG n k lo hi x ns kids;rw[hr];obtain⟨o1,o2⟩:=h.ones;have hb:Below w.heap.size w ((w.alloc (aB X.kind X.lo X.hi X.text X.ns X.ks)).alloc (.cells #[.int .i64 q] 3)):=((zbE _ _).alloc (zbA _) _).alloc (by simp) _;have hX:X6 ((w.alloc (aB X.kind X.lo X.hi X.text X.ns X.ks)).alloc (.cells #[.int .i64 q] 3)) w.heap.size X.kind X.lo X.hi X.text X.ns X.ks:=(X6.new w _ _ _ _ _ _).alloc _
 have hQ:((w.alloc (aB X.kind X.lo X.hi X.text X.ns X.ks)).alloc (.cells #[.int .i64 q] 3)).cell? ⟨w.heap.size+1,0,none⟩=some (.int .i64 q):=by
  have:=oq (w.alloc (aB X.kind X.lo X.hi X.text X.ns X.ks)) (.cells #[.int .i64 q] 3) (w.heap.size+1) (by simp);simp only[World.cell?,this];rfl
 have HA:=hh9 (fun W (hW:aM W X (.mk k x ns lo hi kids))=>qcx hW);have HO:=hh9 (fun W (hW:aM W X (.mk k x ns lo hi kids))=>qcw hW);have HE:=hh9 h;have HK:Hid (∃ vs,pX w X.ks vs kids):=by cases h with|mk vs h0 hl h1 h2 h3 h4=>exact⟨vs,h2,h3,h4⟩
 have HQQ:=hh9 (show q=50-(n:Int) by omega);have IH:=hh9 ih;obtain⟨xk,s,nv,xlo,xhi,kv⟩:=X;unfold aB at hb hX hQ;have HB:=hh9 hb;have HX:=hh9 hX;have HQ:=hh9 hQ;have q0:-1<=q:=by omega
 have q1:q<=50:=by omega
 show Calls _ _ #[.agg #[.int .i64 xk,.string s,nv,.int .i64 xlo,.int .i64 xhi,kv],.int .i64 q] w _
 clear hb hX hQ hr h hq ih
 cases hf:jd k x ns lo hi kids.length
 ·rw[hf]at HA;clear hf;go_enter Tryz.func86,Tryz.ntmps86;go_wp2_with fail
  refine(HA.out _ (HE.out.under HB.out)).mono ?_;rintro e w1 ⟨rfl,hb⟩;have HB2:=hh9 (aJ HB.out hb);clear hb;go_wp2_with fail
  go_ret;exact⟨rfl,HB2.out⟩
 ·rw[hf]at HA;clear hf
  cases ho:aY k x ns lo hi kids.length
  ·rw[ho]at HO;clear ho;go_enter Tryz.func86,Tryz.ntmps86;go_wp2_with fail
   refine(HA.out _ (HE.out.under HB.out)).mono ?_;rintro e w1 ⟨rfl,hb⟩;have HB2:=hh9 (aJ HB.out hb);obtain⟨a0,a1,a2,a3,a4,a5⟩:=(HX.out.under hb).cells;clear hb;go_wp2_with fail
   refine(HO.out _ (HE.out.under HB2.out)).mono ?_;rintro e w2 ⟨rfl,hb⟩;have HB3:=hh9 (aJ HB2.out hb);clear hb;go_wp2_with fail
   go_ret;exact⟨rfl,HB3.out⟩
  ·rw[ho]at HO;clear ho
   cases hp:kids.all (dG n)
   all_goals
    have HP:=hh9 hp;clear hp;go_enter Tryz.func86,Tryz.ntmps86;go_wp2_with fail
    refine(HA.out _ (HE.out.under HB.out)).mono ?_;rintro e w1 ⟨rfl,hb⟩;have HB2:=hh9 (aJ HB.out hb);have wL:=hh9 (HX.out.under hb);have QH:=hh9 (gu HQ.out hb);obtain⟨a0,a1,a2,a3,a4,a5⟩:=wL.out.cells;clear hb;go_wp2_with fail
    refine(HO.out _ (HE.out.under HB2.out)).mono ?_;rintro e w2 ⟨rfl,hb⟩;have HB3:=hh9 (aJ HB2.out hb);have ND:=hh9 (wL.out.under hb);have uG:=hh9 (gu QH.out hb);clear a0 a1 a2 a3 a4 a5 hb;obtain⟨a0,a1,a2,a3,a4,a5⟩:=ND.out.cells;obtain⟨vs,hk⟩:=HK.out;have HC:=hh9 (qa2 (w:=w2) (D:=w.heap.size+1) (by omega) IH.out (hk.below HB3.out) (by rw[<- HQQ.out];exact uG.out));rw[HP.out]at HC;clear hk;go_wp2_with fail
    refine HC.out.mono ?_;rintro e w3 ⟨rfl,hb⟩;have eB:=hh9 (aJ HB3.out hb);clear hb a0 a1 a2 a3 a4 a5;go_wp2_with fail
    go_ret;exact⟨rfl,eB.out⟩
theorem zu3:BM 0:=by
 intro w X t q hq0 h;obtain⟨o1,o2⟩:=h.ones;obtain⟨xk,s,nv,xlo,xhi,kv⟩:=X;have hq:50<q:=by omega
 clear hq0;have q1:decide (q<=50)=false:=zbM (by omega);have hb:Below w.heap.size w ((w.alloc (aB xk xlo xhi s nv kv)).alloc (.cells #[.int .i64 q] 3)):=((zbE _ _).alloc (zbA _) _).alloc (by simp) _;unfold aB at hb;have HB:=hh9 hb;show Calls _ _ #[.agg #[.int .i64 xk,.string s,nv,.int .i64 xlo,.int .i64 xhi,kv],.int .i64 q] w (gG false w)
 clear hb h;go_enter Tryz.func86,Tryz.ntmps86;go_wp2_with fail
 go_ret;exact⟨rfl,HB.out⟩
theorem WM:∀ n,n<=51->BM n
 |0,_=>zu3
 |n+1,h=>zu2 (by omega) (WM n (by omega))
theorem zw2{w:World}{X:XV}{t:Tree}(h:aM w X t):Calls Tryz.prog 67 #[X.val] w (gG (dK 50 t) w):=by
 obtain⟨o1,o2⟩:=h.ones;have hb:=(zbE w.heap.size w).alloc (zbA _) (aB X.kind X.lo X.hi X.text X.ns X.ks);have HC:=hh9 (WM 51 (by omega) _ X t 0 (by omega) (h.under hb));have e:dG 51 t=dK 50 t:=rfl;rw[e]at HC;obtain⟨xk,s,nv,xlo,xhi,kv⟩:=X;unfold aB at hb HC;have HB:=hh9 hb;show Calls _ _ #[.agg #[.int .i64 xk,.string s,nv,.int .i64 xlo,.int .i64 xhi,kv]] w _
 clear hb h e
 cases hp:dK 50 t
 all_goals
  rw[hp]at HC;clear hp;go_enter Tryz.func67,Tryz.ntmps67;go_wp2_with fail
  refine HC.out.mono ?_;rintro e w1 ⟨rfl,hb⟩;have HB2:=hh9 (aJ HB.out hb);clear hb;go_wp2_with fail
  go_ret;exact⟨rfl,HB2.out⟩
def yH(W:World):Prop:=W.cell? ⟨6,15,none⟩=some (.int .u8 4)
theorem yH.below{W W':World}(h:yH W)(hb:Below W.heap.size W W'):yH W':=gu h hb
theorem qcy(w:World):Calls Tryz.prog 171 #[.int .i64 16] w (kR true w):=by
 have h1:bits .and .i64 16 15=0:=by decide +kernel
 go_enter Tryz.func171,Tryz.ntmps171;go_wp2;go_ret;exact⟨rfl,rfl⟩
theorem zu4{w:World}(h:yH w):Calls Tryz.prog 182 #[.int .u64 16] w fun e w'=>e=.returned (.int .i64 4)/\w=w':=by
 unfold yH at h;have h1:bits .and .u64 16 (IntKind.u64.wrap (-16))=16:=by decide +kernel
 have h2:IntKind.u64.wrap 4573923408821661840=4573923408821661840:=by decide +kernel
 have h3:IntKind.u64.wrap (16*285870213051353865)=4573923408821661840:=by decide +kernel
 go_enter Tryz.func182,Tryz.ntmps182;go_wp2;go_ret;exact⟨rfl,rfl⟩
theorem qa3{w:World}(h:yH w):Calls Tryz.prog 172 #[.int .u64 16] w fun e w'=>e=.returned (.int .i64 4)/\w=w':=by
 have HZ:=hh9 (zu4 h);go_enter Tryz.func172,Tryz.ntmps172;go_wp2_with fail
 refine HZ.out.mono ?_;rintro e w' ⟨rfl,rfl⟩;go_wp2_with fail
 go_ret;exact⟨rfl,rfl⟩
def gZ(n:Nat):Int:=if n<10 then 48+n else 87+n
def eX:Nat->Nat->List Int
 |0,_=>[]
 |f+1,n=>(if n<16 then [] else eX f (n / 16))++[gZ (n%16)]
theorem zw3{f n:Nat}(h:16<=n):eX (f+1) n=eX f (n / 16)++[gZ (n%16)]:=by rw[eX,if_neg (by omega)]
theorem zw4{f n:Nat}(h:n<16):eX (f+1) n=[gZ n]:=by rw[eX,if_pos h,Nat.mod_eq_of_lt h];rfl
theorem WO{n:Nat}(h:n<16):48<=gZ n/\gZ n<=102:=by unfold gZ;split<;>omega
theorem WQ:∀ (f n:Nat) (c:Int),c∈eX f n->0<=c/\c<=255
 |0,_,_,h=>by simp[eX]at h
 |f+1,n,c,h=>by
  unfold eX at h;rw[List.mem_append]at h;rcases h with h|h
  ·split at h
   ·simp at h
   ·exact WQ f _ c h
  ·have:=WO (n:=n%16) (by omega);simp at h;omega
def Av(y:List Int):Array Value:=(List.replicate (65-y.length) (Value.int .u8 0)++y.map (Value.int .u8)).toArray
theorem zu5{y:List Int}(h:y.length<65)(c:Int):(Av y).setIfInBounds (64-y.length) (.int .u8 c)=Av (c::y):=by
 unfold Av;have e:65-y.length=(64-y.length)+1:=by omega
 have e2:65-(c::y).length=64-y.length:=by simp
 rw[e,e2];generalize 64-y.length=m;rw[List.setIfInBounds_toArray]
 congr 1
 rw[List.replicate_succ',List.append_assoc,List.set_append_right _ _ (by simp)];simp
theorem zw5{y:List Int}(h:y.length<=65)(j:Nat)(c:Int)(hc:y[j]?=some c):(Av y)[65-y.length+j]?=some (.int .u8 c):=by
 unfold Av;rw[List.getElem?_toArray,zbL (by simp)];simp[hc]
theorem zqx{y:List Int}(h:y.length<65):(Av y)[64-y.length]?=some (.int .u8 0):=by
 unfold Av;rw[List.getElem?_toArray,zbK (by simp;omega),List.getElem?_replicate,if_pos (by omega)]
theorem zw6(w:World):(zeroValue 179).run Tryz.prog w=.ok (.agg (Av [])) w:=by kernel_rfl
def Dg(B:Nat)(y:List Int)(W:World):Prop:=W.heap[B]?=some (.cells (Av y) 179 (0,0))
theorem Dg.cell{B:Nat}{y:List Int}{W:World}(h:Dg B y W)(hl:y.length<65):W.cell? ⟨B,64-y.length,none⟩=some (.int .u8 0):=by
 unfold Dg at h;simp only[World.cell?,h];exact zqx hl
theorem Dg.frozen{B:Nat}{y:List Int}{W:World}(h:Dg B y W)(j:Nat):W.frozen? ⟨B,j,none⟩=false:=by
 unfold Dg at h;simp[World.frozen?,h]
theorem Dg.set{B:Nat}{y:List Int}{W:World}(h:Dg B y W)(hl:y.length<65)(c:Int):Dg B (c::y) (W.setCell ⟨B,64-y.length,none⟩ (.int .u8 c)):=by
 unfold Dg at h ⊢;rw[setCell_eq_setRow _ _ _ _ _ _ _ h,zu5 hl];exact setRow_heap _ _ _ _ _ _ h
theorem Dg.read{B:Nat}{y:List Int}{W:World}(h:Dg B y W)(hl:y.length<=65)(j:Nat)(c:Int)(hc:y[j]?=some c):W.cell? ⟨B,65-y.length+j,none⟩=some (.int .u8 c):=by
 unfold Dg at h;simp only[World.cell?,h];exact zw5 hl j c hc
theorem WR(n:Nat)(h:n<18446744073709551616):(BitVec.ofInt 64 (n:Int)).toNat=n:=by
 simp[BitVec.toNat_ofInt];omega
theorem JI(m:Nat)(h:m<16777216):bits .and .u64 (m:Int) 15=((m%16:Nat):Int):=by
 show IntKind.u64.wrap ((BitVec.ofInt 64 (m:Int) &&& BitVec.ofInt 64 ((15:Nat):Int)).toNat:Int)=_
 rw[BitVec.toNat_and,WR m (by omega),WR 15 (by omega)];have e:=Nat.and_two_pow_sub_one_eq_mod m 4;rw[show 2 ^ 4-1=15 by decide,show 2 ^ 4=16 by decide]at e;rw[e,IntKind.wrap_u64];omega
theorem WS{a:Nat}(h:a<16)(h2:a<(⟨#[48,49,50,51,52,53,54,55,56,57,97,98,99,100,101,102,103,104,105,106,107,108,109,110,111,112,113,114,115,116,117,118,119,120,121,122]⟩:ByteArray).size) :
  (((⟨#[48,49,50,51,52,53,54,55,56,57,97,98,99,100,101,102,103,104,105,106,107,108,109,110,111,112,113,114,115,116,117,118,119,120,121,122]⟩:ByteArray)[a]'h2).toNat:Int)=gZ a:=by
 have key:∀ i:Fin 16,(((⟨#[48,49,50,51,52,53,54,55,56,57,97,98,99,100,101,102,103,104,105,106,107,108,109,110,111,112,113,114,115,116,117,118,119,120,121,122]⟩:ByteArray)[i.val]'(Nat.lt_of_lt_of_le i.isLt (by decide))).toNat:Int)=gZ i.val:=by decide +kernel
 exact key ⟨a,h⟩
theorem zu6(n:Nat)(hn:n<=1114111){w:World}(hB:yH w):Calls Tryz.prog 158 #[.slice none 0 0,.int .u64 n,.int .i64 16,.bool false,.bool false] w
  fun e w'=>e=.returned (.tuple #[.slice none 0 0,.string (ak (eX 6 n))])/\Below w.heap.size w w':=by
 obtain⟨Z,hZ⟩:∃ Z,Z=Av []:=⟨_,rfl⟩
 have hz:∀ w:World,(zeroValue 179).run Tryz.prog w=.ok (.agg Z) w:=by
  intro w;rw[hZ];exact zw6 w
 have HZ:=hh9 hZ;have HP:=hh9 (fun W=>qcy W);have HT:=hh9 (fun (o:Obj)=>qa3 (w:=w.alloc o) (hB.below ((zbE _ _).alloc (zbA _) _)));clear hZ hB;go_enter Tryz.func158,Tryz.ntmps158;go_wp2_with fail
 refine(HP.out _).mono ?_;rintro e w' ⟨rfl,rfl⟩;go_wp2_with fail
 refine(HT.out _).mono ?_;rintro e w' ⟨rfl,rfl⟩;go_wp2_with fail
 go_loopw [1,13] (fun u i wr=>∃ (m:Nat) (y:List Int),u=.int .u64 m/\i=.int .i64 (65-(y.length:Int))/\y.length<=5/\m<16 ^ (6-y.length)/\Hid (eX 6 n=eX (6-y.length) m++y)/\Hid (Dg w.heap.size y wr)/\Hid (Below w.heap.size w wr)) (fun u _ _=>(intOf u).toNat)
 case atStart =>
  refine⟨n,[],rfl,rfl,by simp,by show n<16 ^ 6;rw[show (16:Nat) ^ 6=16777216 by decide];omega,by show eX 6 n=eX 6 n++[];simp,?_,(zbE _ _).alloc (zbA _) _⟩;unfold Hid Dg;rw[<- HZ.out];exact zbO w _
 case round =>
  obtain⟨m,y,rfl,rfl,hy,hm,HL,HD,aA⟩:=hrel;obtain⟨l,hl⟩:∃ l,l=y.length:=⟨_,rfl⟩
  obtain⟨q,hq⟩:∃ q:Nat,64-l=q:=⟨_,rfl⟩
  have hq2:65-(l:Int)-1=(q:Int):=by omega
  have qV:q<65:=by omega
  have hc:=HD.out.cell (by omega);have hf:=HD.out.frozen (64-y.length);rw[<- hl,hq]at hc hf;rw[<- hl]at hm hy HL ⊢;have QI:m<16777216:=Nat.lt_of_lt_of_le hm (Nat.pow_le_pow_right (n:=16) (by omega) (by omega:6-l<=6));obtain⟨a,ha⟩:∃ a:Nat,m%16=a:=⟨_,rfl⟩
  have ha16:a<16:=by omega
  have hand:bits .and .u64 (m:Int) 15=(a:Int):=by rw[<- ha];exact JI m QI
  by_cases h16:16<=m
  ·have q16:decide ((16:Int)<=(m:Int))=true:=zbN (by omega);obtain⟨d,hd⟩:∃ d:Nat,m / 16=d:=⟨_,rfl⟩
   have hdi:(m:Int) / 16=(d:Int):=by omega
   have hl4:l<=4:=by
    rcases Nat.lt_or_ge l 5 with g|g
    ·omega
    ·have:l=5:=by omega
     subst this;simp at hm;omega
   have bT:=hh9 (show eX 6 n=eX (6-(l+1)) d++(gZ a::y) by
    rw[HL.out,show 6-l=(6-(l+1))+1 by omega,zw3 h16,hd,ha];simp)
   have HM:=hh9 (show d<16 ^ (6-(l+1)) by
    have e:6-l=6-(l+1)+1:=by omega
    rw[e,Nat.pow_succ]at hm;omega)
   have xY:=hh9 hl;have HQ:=hh9 hq;clear hm ha hd hl hq;go_wp2_with fail
   go_roundw
   case rel =>
    refine⟨d,gZ a::y,rfl,?_,?_,?_,?_,?_,?_⟩
    ·rw[List.length_cons,<- xY.out]
     congr 1
     have:=HQ.out;omega
    ·rw[List.length_cons,<- xY.out];omega
    ·rw[List.length_cons,<- xY.out];exact HM.out
    ·unfold Hid;rw[List.length_cons,<- xY.out];exact bT.out
    ·unfold Hid;rw[WS ha16];have:=HD.out.set (by rw[<- xY.out];omega) (gZ a);rw[<- xY.out,HQ.out]at this;exact this
    ·exact aA.out.setCell (zbA _) _
   case measure=>simp[intOf];omega
  ·have q16:decide ((16:Int)<=(m:Int))=false:=zbM (by omega);have EH:m<16:=by omega
   have ay:=hh9 (show eX 6 n=gZ m::y by
    rw[HL.out,show 6-l=(5-l)+1 by omega,zw4 EH];rfl)
   have xY:=hh9 hl;have HQ:=hh9 hq;have hal:Tryz.prog.arrayLen 179=65:=by kernel_rfl
   have hsl:∀ W,(Instr.sliceAt 179 (.pointer (some ⟨w.heap.size,0,none⟩)) (some (.int .i64 (q:Int))) none none).run Tryz.prog W=.ok (.slice (some ⟨w.heap.size,q,none⟩) (65-q) (65-q)) W:=fun W=>by
    rw[run_sliceAt_array_l W 179 ⟨w.heap.size,0,none⟩ (by kernel_rfl) .i64 (q:Int) (by omega) (by rw[hal];omega),hal];have hne:¬ 65=q:=by omega
    go_simp
   obtain⟨W2,hW2⟩:∃ W,W=wr.setCell ⟨w.heap.size,q,none⟩ (.int .u8 (gZ m)):=⟨_,rfl⟩
   have hD2:Dg w.heap.size (gZ m::y) W2:=by
    have:=HD.out.set (by rw[<- xY.out];omega) (gZ m);rw[<- xY.out,HQ.out]at this;rw[hW2];exact this
   have hr:∀ c∈(gZ m::y),0<=c/\c<=255:=by
    intro c hc;rw[<- ay.out]at hc;exact WQ 6 n c hc
   have kc:(convert 22 9 (.slice (some ⟨w.heap.size,q,none⟩) (65-q) (65-q))).run Tryz.prog W2=.ok (.string (ak (gZ m::y))) W2:=by
    have hlen:(65-q)=((gZ m::y).map ig).length:=by
     rw[List.length_map,List.length_cons,<- xY.out];have:=HQ.out;omega
    have:=run_convert_bytes_back (P:=Tryz.prog) W2 22 9 5 ⟨w.heap.size,q,none⟩ (65-q) ((gZ m::y).map ig) Tryz.underlying22 Tryz.underlying5 Tryz.underlying9 (fun j hj=>by
     have hj2:j<(gZ m::y).length:=by simpa using hj
     have hc:=hD2.read (by rw[List.length_cons,<- xY.out];omega) j _ (zbC hj2)
     have e1:65-(gZ m::y).length+j=q+j:=by
      rw[List.length_cons,<- xY.out];have:=HQ.out;omega
     rw[e1]at hc;have e2:(⟨w.heap.size,q,none⟩:Addr).add j=⟨w.heap.size,q+j,none⟩:=by cases j<;>simp[Addr.add]
     rw[e2,hc];have:=hr _ (List.getElem_mem hj2);rw[List.getElem_map]
     congr 2
     unfold ig;simp;omega)
    rw[<- hlen]at this;exact this
   have QJ:=hh9 (show Below w.heap.size w W2 by rw[hW2];exact aA.out.setCell (zbA _) _);rw[hW2]at kc QJ;have JJ:=hh9 (show ak (gZ m::y)=ak (eX 6 n) by rw[ay.out]);rw[<- WS EH (by exact Nat.lt_of_lt_of_le EH (by decide))]at kc QJ JJ;clear hm ha hl hq hand hW2 hD2 hr hal;go_wp2_with fail
   go_ret2
   exact⟨congrArg (fun u=>Ending.returned (Value.tuple #[.slice none 0 0,Value.string u])) JJ.out,QJ.out⟩
theorem qa4(n:Nat)(hn:n<=1114111){w:World}(hB:yH w):Calls Tryz.prog 134 #[.int .i64 n,.int .i64 16] w
  fun e w'=>e=.returned (.string (ak (eX 6 n)))/\Below w.heap.size w w':=by
 have HB:=hh9 (zu6 n hn hB);have hw:IntKind.u64.wrap (n:Int)=(n:Int):=by rw[IntKind.wrap_u64];omega
 clear hB;go_enter Tryz.func134,Tryz.ntmps134;go_wp2_with fail
 refine HB.out.mono ?_;rintro e w' ⟨rfl,hb⟩;have HB2:=hh9 hb;clear hb;go_wp2_with fail
 go_ret;exact⟨rfl,HB2.out⟩
theorem zw7(n:Nat)(hn:n<=1114111){w:World}(hB:yH w):Calls Tryz.prog 111 #[.int .i64 n,.int .i64 16] w
  fun e w'=>e=.returned (.string (ak (eX 6 n)))/\Below w.heap.size w w':=by
 have HB:=hh9 (qa4 n hn hB);clear hB;go_enter Tryz.func111,Tryz.ntmps111;go_wp2_with fail
 refine HB.out.mono ?_;rintro e w' ⟨rfl,hb⟩;have HB2:=hh9 hb;clear hb;go_wp2_with fail
 go_ret;exact⟨rfl,HB2.out⟩
end Go.Proofs.YtahibnnhjahmnaaGreatDoor
namespace Go.Proofs
open Go.Shelf
def Tryz.nH:Go.Shelf.Ren:=⟨fun|158=>110|165=>87|166=>88|167=>131|169=>89|230=>132|203=>133|240=>105|241=>106|197=>150|118=>151|168=>152|270=>153|262=>154|276=>127|277=>128|260=>165|242=>166|313=>167|278=>178|274=>179|275=>180|n=>n,fun|9=>9|4=>4|3=>3|5=>5|72=>120|0=>0|76=>124|75=>123|107=>154|70=>118|20=>20|37=>22|127=>137|21=>21|105=>159|164=>148|162=>175|203=>173|119=>182|46=>180|139=>185|138=>184|51=>178|160=>186|208=>196|206=>194|80=>92|n=>n,fun|13=>1|3=>3|4=>4|n=>n⟩
theorem Tryz.BO:Go.Proofs.Lays.n158 Tryz.prog Tryz.nH:={
 mixed:=by kernel_rfl
 f118:=Tryz.func151.trans (congrArg some (by kernel_rfl))
 f158:=Tryz.func110.trans (congrArg some (by kernel_rfl))
 f165:=Tryz.func87.trans (congrArg some (by kernel_rfl))
 f166:=Tryz.func88.trans (congrArg some (by kernel_rfl))
 f167:=Tryz.func131.trans (congrArg some (by kernel_rfl))
 f168:=Tryz.func152.trans (congrArg some (by kernel_rfl))
 f169:=Tryz.func89.trans (congrArg some (by kernel_rfl))
 f197:=Tryz.func150.trans (congrArg some (by kernel_rfl))
 f203:=Tryz.func133.trans (congrArg some (by kernel_rfl))
 f230:=Tryz.func132.trans (congrArg some (by kernel_rfl))
 f240:=Tryz.func105.trans (congrArg some (by kernel_rfl))
 f241:=Tryz.func106.trans (congrArg some (by kernel_rfl))
 f242:=Tryz.func166.trans (congrArg some (by kernel_rfl))
 f260:=Tryz.func165.trans (congrArg some (by kernel_rfl))
 f262:=Tryz.func154.trans (congrArg some (by kernel_rfl))
 f270:=Tryz.func153.trans (congrArg some (by kernel_rfl))
 f274:=Tryz.func179.trans (congrArg some (by kernel_rfl))
 f275:=Tryz.func180.trans (congrArg some (by kernel_rfl))
 f276:=Tryz.func127.trans (congrArg some (by kernel_rfl))
 f277:=Tryz.func128.trans (congrArg some (by kernel_rfl))
 f278:=Tryz.func178.trans (congrArg some (by kernel_rfl))
 f313:=Tryz.func167.trans (congrArg some (by kernel_rfl))
 t0:=Tryz.underlying0
 a0:=Tryz.isAgg0
 z0:=Tryz.sizeOf0
 v0:=Tryz.zeroValue0
 t3:=Tryz.underlying3
 a3:=Tryz.isAgg3
 z3:=Tryz.sizeOf3
 v3:=Tryz.zeroValue3
 t4:=Tryz.underlying4
 a4:=Tryz.isAgg4
 z4:=Tryz.sizeOf4
 v4:=Tryz.zeroValue4
 t5:=Tryz.underlying5
 a5:=Tryz.isAgg5
 z5:=Tryz.sizeOf5
 v5:=Tryz.zeroValue5
 t9:=Tryz.underlying9
 a9:=Tryz.isAgg9
 z9:=Tryz.sizeOf9
 v9:=Tryz.zeroValue9
 t20:=Tryz.underlying20
 a20:=Tryz.isAgg20
 z20:=Tryz.sizeOf20
 v20:=Tryz.zeroValue20
 t21:=Tryz.underlying21
 a21:=Tryz.isAgg21
 z21:=Tryz.sizeOf21
 v21:=Tryz.zeroValue21
 t37:=Tryz.underlying22
 a37:=Tryz.isAgg22
 z37:=Tryz.sizeOf22
 v37:=Tryz.zeroValue22
 t46:=Tryz.underlying180
 a46:=Tryz.isAgg180
 z46:=Tryz.sizeOf180
 v46:=Tryz.zeroValue180
 t51:=Tryz.underlying178
 a51:=Tryz.isAgg178
 z51:=Tryz.sizeOf178
 v51:=Tryz.zeroValue178
 t70:=Tryz.underlying118
 a70:=Tryz.isAgg118
 z70:=Tryz.sizeOf118
 v70:=Tryz.zeroValue118
 t72:=Tryz.underlying120
 a72:=Tryz.isAgg120
 z72:=Tryz.sizeOf120
 v72:=Tryz.zeroValue120
 t75:=Tryz.underlying123
 a75:=Tryz.isAgg123
 z75:=Tryz.sizeOf123
 v75:=Tryz.zeroValue123
 t76:=Tryz.underlying124
 a76:=Tryz.isAgg124
 z76:=Tryz.sizeOf124
 v76:=Tryz.zeroValue124
 t105:=Tryz.underlying159
 a105:=Tryz.isAgg159
 z105:=Tryz.sizeOf159
 v105:=Tryz.zeroValue159
 t107:=Tryz.underlying154
 a107:=Tryz.isAgg154
 z107:=Tryz.sizeOf154
 v107:=Tryz.zeroValue154
 t119:=Tryz.underlying182
 a119:=Tryz.isAgg182
 z119:=Tryz.sizeOf182
 t127:=Tryz.underlying137
 a127:=Tryz.isAgg137
 z127:=Tryz.sizeOf137
 v127:=Tryz.zeroValue137
 t138:=Tryz.underlying184
 a138:=Tryz.isAgg184
 z138:=Tryz.sizeOf184
 v138:=Tryz.zeroValue184
 t139:=Tryz.underlying185
 a139:=Tryz.isAgg185
 z139:=Tryz.sizeOf185
 v139:=Tryz.zeroValue185
 t160:=Tryz.underlying186
 a160:=Tryz.isAgg186
 z160:=Tryz.sizeOf186
 v160:=Tryz.zeroValue186
 t162:=Tryz.underlying175
 a162:=Tryz.isAgg175
 z162:=Tryz.sizeOf175
 v162:=Tryz.zeroValue175
 t164:=Tryz.underlying148
 a164:=Tryz.isAgg148
 z164:=Tryz.sizeOf148
 v164:=Tryz.zeroValue148
 t203:=Tryz.underlying173
 a203:=Tryz.isAgg173
 z203:=Tryz.sizeOf173
 v203:=Tryz.zeroValue173
 t206:=Tryz.underlying194
 a206:=Tryz.isAgg194
 z206:=Tryz.sizeOf194
 v206:=Tryz.zeroValue194
 t208:=Tryz.underlying196
 a208:=Tryz.isAgg196
 z208:=Tryz.sizeOf196
 v208:=Tryz.zeroValue196
 g3:=by kernel_rfl
 g4:=by kernel_rfl
 g13:=by kernel_rfl }
theorem Tryz.mG:Builder.Extra Tryz.prog Tryz.nH:={
 sizeBuilder:=by kernel_rfl
 liesBuilder:=by kernel_rfl
 t5:=Tryz.underlying5
 a5:=Tryz.isAgg5
 z5:=Tryz.sizeOf5
 v5:=Tryz.zeroValue5
 infoByte:=by kernel_rfl
 cellsByte:=by kernel_rfl
 sizeByte:=by kernel_rfl
 neB5:=by decide }
open Go.RowKit in
theorem Tryz.strings_ToUpper_ascii(s:ByteArray)(w:World)(hs:s.size<=140737488355328)(hascii:∀ (j:Nat) (b:UInt8),s.data.toList[j]?=some b->b.toNat<128) :
  Calls Tryz.prog 110 #[.string s] w fun e w'=>e=.returned (.string ⟨(Lib.toUpperA s.data.toList).toArray⟩)/\Below w.heap.size w w':=Any.strings_ToUpper_ascii Tryz.BO Tryz.mG s w hs hascii
def Tryz.nI:Go.Shelf.Ren:=⟨fun|156=>68|165=>87|166=>88|169=>89|240=>105|241=>106|276=>127|277=>128|n=>n,fun|31=>35|9=>9|3=>3|4=>4|0=>0|20=>20|72=>120|76=>124|70=>118|37=>22|75=>123|127=>137|164=>148|5=>5|80=>92|n=>n,fun|n=>n⟩
theorem Tryz.BP:Go.Proofs.Lays.n156 Tryz.prog Tryz.nI:={
 mixed:=by kernel_rfl
 f156:=Tryz.func68.trans (congrArg some (by kernel_rfl))
 f165:=Tryz.func87.trans (congrArg some (by kernel_rfl))
 f166:=Tryz.func88.trans (congrArg some (by kernel_rfl))
 f169:=Tryz.func89.trans (congrArg some (by kernel_rfl))
 f240:=Tryz.func105.trans (congrArg some (by kernel_rfl))
 f241:=Tryz.func106.trans (congrArg some (by kernel_rfl))
 f276:=Tryz.func127.trans (congrArg some (by kernel_rfl))
 f277:=Tryz.func128.trans (congrArg some (by kernel_rfl))
 t0:=Tryz.underlying0
 a0:=Tryz.isAgg0
 z0:=Tryz.sizeOf0
 v0:=Tryz.zeroValue0
 t3:=Tryz.underlying3
 a3:=Tryz.isAgg3
 z3:=Tryz.sizeOf3
 v3:=Tryz.zeroValue3
 t4:=Tryz.underlying4
 a4:=Tryz.isAgg4
 z4:=Tryz.sizeOf4
 v4:=Tryz.zeroValue4
 t9:=Tryz.underlying9
 a9:=Tryz.isAgg9
 z9:=Tryz.sizeOf9
 v9:=Tryz.zeroValue9
 t20:=Tryz.underlying20
 a20:=Tryz.isAgg20
 z20:=Tryz.sizeOf20
 v20:=Tryz.zeroValue20
 t31:=Tryz.underlying35
 a31:=Tryz.isAgg35
 z31:=Tryz.sizeOf35
 v31:=Tryz.zeroValue35
 t37:=Tryz.underlying22
 a37:=Tryz.isAgg22
 z37:=Tryz.sizeOf22
 v37:=Tryz.zeroValue22
 t70:=Tryz.underlying118
 a70:=Tryz.isAgg118
 z70:=Tryz.sizeOf118
 v70:=Tryz.zeroValue118
 t72:=Tryz.underlying120
 a72:=Tryz.isAgg120
 z72:=Tryz.sizeOf120
 v72:=Tryz.zeroValue120
 t75:=Tryz.underlying123
 a75:=Tryz.isAgg123
 z75:=Tryz.sizeOf123
 v75:=Tryz.zeroValue123
 t76:=Tryz.underlying124
 a76:=Tryz.isAgg124
 z76:=Tryz.sizeOf124
 v76:=Tryz.zeroValue124
 t127:=Tryz.underlying137
 a127:=Tryz.isAgg137
 z127:=Tryz.sizeOf137
 v127:=Tryz.zeroValue137
 t164:=Tryz.underlying148
 a164:=Tryz.isAgg148
 z164:=Tryz.sizeOf148
 v164:=Tryz.zeroValue148 }
theorem Tryz.mH:Builder.Extra Tryz.prog Tryz.nI:={
 sizeBuilder:=by kernel_rfl
 liesBuilder:=by kernel_rfl
 t5:=Tryz.underlying5
 a5:=Tryz.isAgg5
 z5:=Tryz.sizeOf5
 v5:=Tryz.zeroValue5
 infoByte:=by kernel_rfl
 cellsByte:=by kernel_rfl
 sizeByte:=by kernel_rfl
 neB5:=by decide }
open Go.RowKit in
theorem Tryz.strings_Join(bk o c:Nat)(xs:List ByteArray)(sep:ByteArray)(w:World)(hcells:∀ (j:Nat) x,xs[j]?=some x->w.cell? ⟨bk,o+j,none⟩=some (.string x))(hbk:bk<w.heap.size)(hN:xs.length<=140737488355328)(hcap:xs.length<=c)(hlen:(Lib.join (xs.map (·.data.toList)) sep.data.toList).length<=140737488355328) :
  Calls Tryz.prog 68 #[.slice (some ⟨bk,o,none⟩) xs.length c,.string sep] w fun e w'=>e=.returned (.string ⟨(Lib.join (xs.map (·.data.toList)) sep.data.toList).toArray⟩)/\Below w.heap.size w w':=Any.strings_Join Tryz.BP Tryz.mH bk o c xs sep w hcells hbk hN hcap hlen
def Tryz.qW:Go.Shelf.Ren:=⟨fun|171=>130|243=>149|246=>134|283=>155|284=>156|285=>157|286=>158|129=>169|317=>168|318=>170|319=>171|320=>172|337=>181|338=>182|n=>n,fun|3=>3|9=>9|2=>2|4=>4|171=>164|0=>0|53=>165|37=>22|5=>5|173=>168|212=>177|51=>178|20=>20|213=>179|46=>180|232=>197|233=>198|n=>n,fun|17=>2|18=>5|19=>6|n=>n⟩
theorem Tryz.yI:Go.Proofs.LaysM.n171 Tryz.prog Tryz.qW:={
 mixed:=by kernel_rfl
 f129:=Tryz.func169.trans (congrArg some (by kernel_rfl))
 f171:=Tryz.func130.trans (congrArg some (by kernel_rfl))
 f243:=Tryz.func149.trans (congrArg some (by kernel_rfl))
 f246:=Tryz.func134.trans (congrArg some (by kernel_rfl))
 f283:=Tryz.func155.trans (congrArg some (by kernel_rfl))
 f284:=Tryz.func156.trans (congrArg some (by kernel_rfl))
 f285:=Tryz.func157.trans (congrArg some (by kernel_rfl))
 f286:=Tryz.func158.trans (congrArg some (by kernel_rfl))
 f317:=Tryz.func168.trans (congrArg some (by kernel_rfl))
 f318:=Tryz.func170.trans (congrArg some (by kernel_rfl))
 f319:=Tryz.func171.trans (congrArg some (by kernel_rfl))
 f320:=Tryz.func172.trans (congrArg some (by kernel_rfl))
 f337:=Tryz.func181.trans (congrArg some (by kernel_rfl))
 f338:=Tryz.func182.trans (congrArg some (by kernel_rfl))
 t0:=Tryz.underlying0
 a0:=Tryz.isAgg0
 z0:=Tryz.sizeOf0
 v0:=Tryz.zeroValue0
 t2:=Tryz.underlying2
 a2:=Tryz.isAgg2
 z2:=Tryz.sizeOf2
 v2:=Tryz.zeroValue2
 t3:=Tryz.underlying3
 a3:=Tryz.isAgg3
 z3:=Tryz.sizeOf3
 v3:=Tryz.zeroValue3
 t4:=Tryz.underlying4
 a4:=Tryz.isAgg4
 z4:=Tryz.sizeOf4
 v4:=Tryz.zeroValue4
 t5:=Tryz.underlying5
 a5:=Tryz.isAgg5
 z5:=Tryz.sizeOf5
 v5:=Tryz.zeroValue5
 t9:=Tryz.underlying9
 a9:=Tryz.isAgg9
 z9:=Tryz.sizeOf9
 v9:=Tryz.zeroValue9
 t20:=Tryz.underlying20
 a20:=Tryz.isAgg20
 z20:=Tryz.sizeOf20
 v20:=Tryz.zeroValue20
 t37:=Tryz.underlying22
 a37:=Tryz.isAgg22
 z37:=Tryz.sizeOf22
 v37:=Tryz.zeroValue22
 t46:=Tryz.underlying180
 a46:=Tryz.isAgg180
 z46:=Tryz.sizeOf180
 v46:=Tryz.zeroValue180
 t51:=Tryz.underlying178
 a51:=Tryz.isAgg178
 z51:=Tryz.sizeOf178
 v51:=Tryz.zeroValue178
 t53:=Tryz.underlying165
 a53:=Tryz.isAgg165
 z53:=Tryz.sizeOf165
 v53:=Tryz.zeroValue165
 t171:=Tryz.underlying164
 a171:=Tryz.isAgg164
 z171:=Tryz.sizeOf164
 v171:=Tryz.zeroValue164
 t173:=Tryz.underlying168
 a173:=Tryz.isAgg168
 z173:=Tryz.sizeOf168
 v173:=Tryz.zeroValue168
 t212:=Tryz.underlying177
 a212:=Tryz.isAgg177
 z212:=Tryz.sizeOf177
 v212:=Tryz.zeroValue177
 t213:=Tryz.underlying179
 a213:=Tryz.isAgg179
 z213:=Tryz.sizeOf179
 t232:=Tryz.underlying197
 a232:=Tryz.isAgg197
 z232:=Tryz.sizeOf197
 v232:=Tryz.zeroValue197
 t233:=Tryz.underlying198
 a233:=Tryz.isAgg198
 z233:=Tryz.sizeOf198
 v233:=Tryz.zeroValue198
 g17:=by kernel_rfl
 g18:=by kernel_rfl
 g19:=by kernel_rfl
 i0:=by kernel_rfl
 i2:=by kernel_rfl
 i3:=by kernel_rfl
 i4:=by kernel_rfl
 i5:=by kernel_rfl
 i9:=by kernel_rfl
 i20:=by kernel_rfl
 i37:=by kernel_rfl
 i46:=by kernel_rfl
 i51:=by kernel_rfl
 i53:=by kernel_rfl
 i171:=by kernel_rfl
 i173:=by kernel_rfl
 i212:=by kernel_rfl
 i232:=by kernel_rfl
 i233:=by kernel_rfl
 m17:=by kernel_rfl
 m18:=by kernel_rfl
 m19:=by kernel_rfl }
open Go.RowKit Go.Sort Go.Lib in
theorem Tryz.strconv_Itoa (n : Int) (h0 : -9223372036854775808 <= n) (h1 : n <= 9223372036854775807) (w : World) (htab : Lib.TabIs Tryz.prog w "internal/strconv.uint64pow10" .u64 Lib.pow10Tab) :
  Calls Tryz.prog 130 #[.int .i64 n] w fun e w'=>e=.returned (.string ⟨(Lib.itoa n).toArray⟩)/\∃ k os,w'=grow (w.drewN k) os:=Any.strconv_Itoa Tryz.yI n h0 h1 w htab
end Go.Proofs
namespace Go.Proofs.YtahibnnhjahmnaaGreatDoor
theorem QK:∀ (k j n:Nat),n<10 ^ k->0<k->k<=j->iK k n=iK j n
 |0,_,_,_,h,_=>absurd h (by omega)
 |k+1,0,_,_,_,h=>absurd h (by omega)
 |k+1,j+1,n,h,_,hj=>by
  unfold iK;by_cases g:n<10
  ·rw[if_pos g,if_pos g]
  ·rw[if_neg g,if_neg g]
   have hk:0<k:=by
    rcases Nat.eq_zero_or_pos k with e|e
    ·subst e;simp at h;omega
    ·exact e
   rw[QK k j (n / 10) (by rw[Nat.pow_succ]at h;omega) hk (by omega)]
theorem WT:∀ (f n:Nat),16<=n->n<256 ^ (f+1)->iC f n=dx (2*f+2) n
 |0,n,h0,h=>by
  have h:n<256:=by simpa using h
  have e:dx 2 n=dx 1 (n / 16)++[cZ (n%16)]:=by rw[dx,if_neg (by omega)]
  have e2:dx 1 (n / 16)=[cZ (n / 16%16)]:=by rw[dx,if_pos (by omega)];rfl
  show iC 0 n=dx 2 n
  rw[e,e2];rfl
 |f+1,n,h0,h=>by
  have e:dx (2*(f+1)+2) n=dx (2*f+3) (n / 16)++[cZ (n%16)]:=by
   show dx (2*f+3+1) n=_
   rw[dx,if_neg (by omega)]
  rw[iC,e];by_cases h1:n<256
  ·rw[if_pos h1]
   have e2:dx (2*f+3) (n / 16)=[cZ (n / 16%16)]:=by
    show dx (2*f+2+1) (n / 16)=_
    rw[dx,if_pos (by omega)];rfl
   rw[e2];rfl
  ·rw[if_neg h1]
   have e2:dx (2*f+3) (n / 16)=dx (2*f+2) (n / 256)++[cZ (n / 16%16)]:=by
    show dx (2*f+2+1) (n / 16)=_
    rw[dx,if_neg (by omega),Nat.div_div_eq_div_mul]
   rw[e2];by_cases h2:n<4096
   ·rw[if_pos h2]
    have e3:dx (2*f+2) (n / 256)=[cZ (n / 256)]:=by
     show dx (2*f+1+1) (n / 256)=_
     rw[dx,if_pos (by omega),Nat.mod_eq_of_lt (by omega)];rfl
    rw[e3];rfl
   ·rw[if_neg h2];have:n<256 ^ (f+1)*256:=by rw[<- Nat.pow_succ];exact h
    rw[WT f (n / 256) (by omega) (by omega)];simp
theorem zu7(f n:Nat)(h:n<256):iC f n=[cZ (n / 16%16),cZ (n%16)]:=by
 cases f with
 |zero=>rfl
 |succ f=>rw[iC,if_pos h]
theorem qe9(n:Nat)(h:n<=1114111):iC 2 n=aL n:=by
 unfold aL;by_cases g:n<16
 ·rw[if_pos g,zu7 2 n (by omega),show n / 16%16=0 by omega,Nat.mod_eq_of_lt g];rfl
 ·rw[if_neg g,WT 2 n (by omega) (by rw[show (256:Nat) ^ (2+1)=16777216 by decide];omega)]
theorem qea{f n:Nat}(h:n<10 ^ (f+1))(hf:f<=17):iK (f+1) n=fA n:=QK (f+1) 20 n h (by omega) (by omega)
end Go.Proofs.YtahibnnhjahmnaaGreatDoor
namespace Go.Proofs.YtahibnnhjahmnaaGreatDoor
def Tree.tw:Tree->Nat
 |.mk _ x ns _ _ kids=>1+x.length+ns.length+(kids.map Tree.tw).sum
theorem EI{n:Int}(h0:0<=n)(h:n<=200):(fA n.toNat).length<=3:=by
 have:fA n.toNat=iK 3 n.toNat:=(QK 3 20 n.toNat (by rw[show (10:Nat) ^ 3=1000 by decide];omega) (by omega) (by omega)).symm;rw[this];exact Qx 3 _
theorem QL:∀ f n,(dx f n).length<=f
 |0,_=>by simp[dx]
 |f+1,n=>by
  unfold dx;split
  ·simp
  ·have:=QL f (n / 16);simp;omega
theorem NG(n:Nat):(aL n).length<=6:=by
 unfold aL;split
 ·simp
 ·exact QL 6 n
theorem WU{lo hi:Int}(h:dN lo hi=true):(cB lo hi).length<=7:=by
 unfold dN at h;simp at h
 have d1:(if 0<lo then fA lo.toNat else []).length<=3:=by
  split
  ·exact EI (by omega) (by omega)
  ·simp
 have d2:(if 0<=hi then fA hi.toNat else []).length<=3:=by
  split
  ·exact EI (by omega) (by omega)
  ·simp
 unfold cB;by_cases g0:hi=0
 ·rw[if_pos g0];simp
 rw[if_neg g0];by_cases g1:hi=lo
 ·rw[if_pos g1,List.append_nil];omega
 rw[if_neg g1,zbG,zbG];show _+(1+_)<=_
 omega
theorem JK(b:Bool)(x:List Int):(dD b x).length<=x.length+2:=by
 unfold dD;split<;>simp
theorem JL(s:List Int):∀ (l:List (List Int)),(aO s l).length<=(l.map fun x=>x.length+s.length).sum
 |[]=>by simp[aO]
 |[x]=>by simp[aO]
 |x::y::l=>by
  have:=JL s (y::l);simp only[aO,zbG,List.map_cons,List.sum_cons]at this ⊢;omega
theorem Dw{α:Type}{f g:α->Nat}:∀ (l:List α),(∀ x∈l,f x<=g x)->(l.map f).sum<=(l.map g).sum
 |[],_=>by simp
 |x::l,h=>by
  have h1:=h x (by simp);have h2:=Dw l (fun y hy=>h y (by simp[hy]));simp;omega
theorem WV{α:Type}(k:Nat)(f:α->Nat):∀ (l:List α),(l.map fun x=>k*f x).sum=k*(l.map f).sum
 |[]=>by simp
 |x::l=>by simp[WV k f l,Nat.mul_add]
theorem QM{α:Type}(k:Nat):∀ (l:List α),(l.map fun _=>k).sum=k*l.length
 |[]=>by simp
 |x::l=>by simp[QM k l,Nat.mul_add];omega
theorem QN{α:Type}(f:α->List Int):∀ (l:List α),((l.map f).flatten).length=(l.map fun x=>(f x).length).sum
 |[]=>rfl
 |x::l=>by simp[QN f l]
theorem WW{f:Tree->List Int}{t:Tree}(h:∀ k x ns lo hi kids,t=.mk k x ns lo hi kids->oo k x ns lo hi kids.length=true/\∀ u∈kids,(f u).length+5<=20*u.tw):(tL f t).length+5<=20*t.tw:=by
 obtain⟨k,x,ns,lo,hi,kids⟩:=t;obtain⟨h1,h2⟩:=h k x ns lo hi kids rfl;have e:(Tree.mk k x ns lo hi kids).tw=1+x.length+ns.length+(kids.map Tree.tw).sum:=by rw[Tree.tw]
 have hs:(kids.map fun u=>(f u).length+5).sum<=20*(kids.map Tree.tw).sum:=by
  rw[<- WV];exact Dw kids h2
 rw[e,tL];by_cases k1:k=1
 ·rw[if_pos k1];have a:=JL [32,47,32] (kids.map fun t=>dD (t.kind==1) (f t));rw[List.map_map]at a
  have b:(kids.map ((fun x:List Int=>x.length+([32,47,32]:List Int).length) ∘ fun t=>dD (t.kind==1) (f t))).sum<=(kids.map fun u=>(f u).length+5).sum:=Dw kids fun u hu=>by
   have:=JK (u.kind==1) (f u);simp;omega
  omega
 rw[if_neg k1];by_cases k2:k=2
 ·rw[if_pos k2];have a:=JL [32] (kids.map fun t=>dD (t.kind==1||t.kind==2) (f t));rw[List.map_map]at a
  have b:(kids.map ((fun x:List Int=>x.length+([32]:List Int).length) ∘ fun t=>dD (t.kind==1||t.kind==2) (f t))).sum<=(kids.map fun u=>(f u).length+5).sum:=Dw kids fun u hu=>by
   have:=JK (u.kind==1||u.kind==2) (f u);simp;omega
  omega
 rw[if_neg k2];by_cases k3:k=3
 ·rw[if_pos k3];unfold oo at h1;rw[if_neg (by omega),if_pos k3]at h1;simp only[zbJ,decide_eq_true_eq]at h1;have hc:=WU h1.2;split
  ·have a:=QN f kids;have b:(kids.map fun x=>(f x).length).sum<=(kids.map fun u=>(f u).length+5).sum:=Dw kids fun u hu=>by omega
   simp only[zbG,List.length_cons,List.length_nil];omega
  ·have a:=QN (fun t=>dD (t.kind==1||t.kind==2||t.kind==3) (f t)) kids
   have b:(kids.map fun x=>(dD (x.kind==1||x.kind==2||x.kind==3) (f x)).length).sum<=(kids.map fun u=>(f u).length+5).sum:=Dw kids fun u hu=>by
    have:=JK (u.kind==1||u.kind==2||u.kind==3) (f u);omega
   simp only[zbG];omega
 rw[if_neg k3];by_cases k4:k=4
 ·rw[if_pos k4];omega
 rw[if_neg k4];by_cases k5:k=5
 ·rw[if_pos k5];simp only[zbG,List.length_cons,List.length_nil];omega
 rw[if_neg k5]
 have key:∀ s:List Int,s.length=1->(aO s (ns.map fun n=>aL n.toNat)).length<=7*ns.length:=fun s hs=>by
  have a:=JL s (ns.map fun n=>aL n.toNat);rw[List.map_map]at a
  have b:(ns.map ((fun x:List Int=>x.length+s.length) ∘ fun n:Int=>aL n.toNat)).sum<=(ns.map fun _=>7).sum:=Dw ns fun u hu=>by
   have:=NG u.toNat;simp;omega
  rw[QM]at b;omega
 have:=key (if k=6 then [46] else [45]) (by split<;>rfl);simp only[zbG,List.length_cons,List.length_nil];omega
theorem QO:∀ (d:Nat) (t:Tree),dK d t=true->(aI d t).length+5<=20*t.tw
 |0,.mk k x ns lo hi kids,h=>by
  unfold dK at h;simp only[zbJ,List.isEmpty_iff]at h;rw[aI];refine WW fun k' x' ns' lo' hi' qE e=>?_
  cases e
  exact⟨h.1,fun u hu=>by rw[h.2]at hu;simp at hu⟩
 |d+1,.mk k x ns lo hi kids,h=>by
  unfold dK at h;simp only[zbJ,List.all_eq_true]at h;rw[aI];refine WW fun k' x' ns' lo' hi' qE e=>?_
  cases e
  exact⟨h.1,fun u hu=>QO d u (h.2 u hu)⟩
end Go.Proofs.YtahibnnhjahmnaaGreatDoor
