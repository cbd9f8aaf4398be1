/- Part 35 of what the laws of the grammar rest on. -/
import Derived.Test.YtahibnnhjahmnaaGreatDoorA33
import Derived.Test.YtahibnnhjahmnaaGreatDoorA34
set_option linter.all false
set_option maxRecDepth 100000
set_option maxHeartbeats 8000000
namespace Go.Proofs.YtahibnnhjahmnaaGreatDoor
open Go.RowKit
def qA(w:World)(g o:Nat)(nm:ByteArray)(k lo hi:Int)(s:ByteArray)(ns ks:Value)(W:World):Prop :=
 (W.cell? ⟨g,o,none⟩=some (.string nm)/\W.cell? ⟨g,o+2,none⟩=some (.int .i64 k)/\W.cell? ⟨g,o+3,none⟩=some (.string s)/\W.cell? ⟨g,o+4,none⟩=some ns/\W.cell? ⟨g,o+5,none⟩=some (.int .i64 lo)/\W.cell? ⟨g,o+6,none⟩=some (.int .i64 hi)/\W.cell? ⟨g,o+7,none⟩=some ks)/\Below w.heap.size w W
theorem qA.step{w:World}{g o:Nat}{nm:ByteArray}{k lo hi:Int}{s:ByteArray}{ns ks:Value}{W W':World}(hb:Below W.heap.size W W')(h:qA w g o nm k lo hi s ns ks W):qA w g o nm k lo hi s ns ks W' :=
 ⟨⟨gu h.1.1 hb,gu h.1.2.1 hb,gu h.1.2.2.1 hb,gu h.1.2.2.2.1 hb,gu h.1.2.2.2.2.1 hb,gu h.1.2.2.2.2.2.1 hb,gu h.1.2.2.2.2.2.2 hb⟩,aJ h.2 hb⟩
theorem qA.drew{w:World}{g o:Nat}{nm:ByteArray}{k lo hi:Int}{s:ByteArray}{ns ks:Value}{W:World}(h:qA w g o nm k lo hi s ns ks W):qA w g o nm k lo hi s ns ks W.drew:=⟨h.1,dJ h.2 1⟩
theorem zqc{w:World}{v:Value}{vs:List LV}{l:List Rule}(h:dz w v vs l)(hs:∀ i,(l.take i).all iZ=true->(((l.take i).map dZ).flatten).length<=1000000000000) :
  Calls Tryz.prog 35 #[v] w (D7 l w):=by
 obtain⟨h1,h2,h3⟩:=h;have H2:=hh9 h2;have H3:=hh9 h3;have HS:=hh9 hs;obtain⟨n,hnn⟩:∃ n,n=l.length:=⟨_,rfl⟩
 rw[<- hnn]at h1;have bH:=hh9 hnn
 have HBAD:∀ (i:Nat) (t:Rule),l[i]?=some t->iZ t=false->Hid (xC l=.tuple #[.string ⟨#[]⟩,.int .i64 1]):=fun i t ht hf=>by
  unfold xC Hid;rw[XA ht hf,if_neg (by simp)]
 clear h2 h3 hs hnn;rcases h1 with ⟨h0,a,cap,rfl⟩|⟨g,off,cap,rfl,g1,g2,g3,g4⟩
 ·have hx0:l=[]:=List.length_eq_zero_iff.1 (by rw[<- bH.out];exact h0);subst h0;subst hx0;clear HBAD;go_enter Tryz.func35,Tryz.ntmps35;go_wp2_with fail
  go_loop [4,5] (fun s v=>s=.string ⟨#[]⟩/\v=.int .i64 0) (fun _ _=>0)
  case atStart=>exact⟨rfl,rfl⟩
  case round =>
   obtain⟨rfl,rfl⟩:=hrel;go_wp2_with fail
   go_ret2
   exact⟨rfl,zbE _ _⟩
 ·have G4:=hh9 g4;unfold maxLen at g2;clear g4;have HB0:=hh9 (zbE w.heap.size w);go_enter Tryz.func35,Tryz.ntmps35;go_wp2_with fail
  go_loopw [4,5] (fun s v wr=>∃ (i:Nat) (T:ByteArray),s=.string T/\v=.int .i64 i/\i<=n/\T.size<=1000000000000/\Hid (T=ak (((l.take i).map dZ).flatten))/\Hid (Below w.heap.size w wr)/\Hid ((l.take i).all iZ=true)) (fun _ v _=>n-(intOf v).toNat)
  case atStart=>exact⟨0,_,rfl,rfl,by omega,by decide,rfl,HB0,rfl⟩
  case round =>
   obtain⟨i,T,rfl,rfl,hi,hT,HT,aA,rE⟩:=hrel;by_cases hlt:i<n
   ·obtain⟨Y,hY⟩:∃ y,vs[i]?=some y:=⟨_,zbC (by rw[H2.out,<- bH.out];exact hlt)⟩
    obtain⟨t,ht⟩:∃ y,l[i]?=some y:=⟨_,zbC (by rw[<- bH.out];exact hlt)⟩
    have CX:∀ (j:Nat) (u:Value),j<8->Y.cells[j]?=some u->wr.cell? ⟨g,off+(i*8+j),none⟩=some u:=fun j u hj hu =>
     (aA.out.cell (p:=⟨g,off+(i*8+j),none⟩) g3).trans (G4.out _ u ((EN vs i j Y hY hj).trans hu))
    have hL:=H3.out i Y t hY ht;have HB:=HBAD i t ht;obtain⟨en,hc,hl,em,hE⟩:=hL;have HN:=hh9 (fun W=>BK (x:=t.name) W hc hl);have HR:=hh9 (fun W (hb:Below w.heap.size w W)=>zn5 50 (by omega) W Y.expr t.expr 50 rfl (hE.under hb));have kF:=hh9 (fun W (hb:Below w.heap.size w W)=>zqb 50 W Y.expr t.expr (hE.under hb))
    have wM:=hh9 (show ((l.take (i+1)).map dZ).flatten=((l.take i).map dZ).flatten++dZ t by
     rw[List.take_add_one,ht];simp)
    have UU:=hh9 (fun (hf:iZ t=true)=>show (l.take (i+1)).all iZ=true by
     rw[List.take_add_one,ht,List.all_append,rE.out];simp[hf])
    obtain⟨N,hN⟩:∃ N,N=ak t.name:=⟨_,rfl⟩
    obtain⟨nm,mo,⟨k,s,nv,lo,hi',kv⟩⟩:=Y;simp only[]at en em;have KF:nm=N:=en.trans hN.symm;subst KF em;rw[<- hN]at HN;have e0:=CX 0 _ (by omega) rfl;have e1:=CX 1 _ (by omega) rfl;have e2:=CX 2 _ (by omega) rfl;have e3:=CX 3 _ (by omega) rfl;have e4:=CX 4 _ (by omega) rfl;have e5:=CX 5 _ (by omega) rfl;have e6:=CX 6 _ (by omega) rfl;have e7:=CX 7 _ (by omega) rfl;rw[<- Nat.add_assoc]at e0 e1 e2 e3 e4 e5 e6 e7;rw[Nat.add_zero]at e0;simp only[]at e0 e1 e2 e3 e4 e5 e6 e7;clear CX hY ht HBAD en hE hc hl
    cases hp:mF t.name
    ·have HV:=HB (by unfold iZ;rw[hp];rfl);rw[hp]at HN;clear hp HB hN;go_wp2_with fail
     refine(HN.out _).mono ?_;rintro e w' ⟨rfl,rfl⟩;go_wp2_with fail
     go_ret2
     exact⟨congrArg Ending.returned HV.out.symm,aA.out⟩
    rw[hp]at HN
    cases hq:dK 50 t.expr
    ·have HV:=HB (by unfold iZ;rw[hp,hq];rfl);rw[hq]at HR;clear hp hq HB hN;go_wp2_with fail
     refine(HN.out _).mono ?_;rintro e w' ⟨rfl,rfl⟩;go_wp2_with fail
     refine(HR.out _ aA.out).mono ?_;rintro e w1 ⟨rfl,hb⟩;have HB1:=hh9 (aJ aA.out hb);clear hb e0 e1 e2 e3 e4 e5 e6 e7;go_wp2_with fail
     go_ret2
     exact⟨congrArg Ending.returned HV.out.symm,HB1.out⟩
    ·rw[hq]at HR;have UW:=hh9 (UU.out (by unfold iZ;rw[hp,hq];rfl));have jY:=hh9 (HS.out (i+1) UW.out);have hle2:=jY.out;rw[wM.out,zbG]at hle2
     have hlt2:t.name.length+(aI 50 t.expr).length+4<=(dZ t).length:=by
      unfold dZ;simp only[zbG];have:(3:Nat)<=(if t.more=true then ([32,61,47,32]:List Int) else [32,61,32]).length:=by split<;>simp
      have e10:([10]:List Int).length=1:=rfl;omega
     have hNs:nm.size<=1000000000000:=by rw[hN,eP];omega
     obtain⟨S,hS⟩:∃ S,S=ak (aI 50 t.expr):=⟨_,rfl⟩
     have hSs:S.size<=1000000000000:=by rw[hS,eP];omega
     have lu:Hid (∀ W',Below w.heap.size w W'->Calls Tryz.prog 54 #[.agg #[.int .i64 k,.string s,nv,.int .i64 lo,.int .i64 hi',kv]] W' (fun e w'=>e=.returned (.string S)/\Below W'.heap.size W' w')):=by
      rw[hS];exact fun W' hb=>kF.out W' hb hq (by omega)
     have g1:(⟨#[32,61,32]⟩:ByteArray).size=3:=rfl;have g2:(⟨#[32,61,47,32]⟩:ByteArray).size=4:=rfl;have g3':(⟨#[10]⟩:ByteArray).size=1:=rfl;clear hp hq HB hle2 hlt2 kF
     cases hmo:t.more
     ·have bT:=hh9 (show (((T++nm)++(⟨#[32,61,32]⟩:ByteArray))++S)++(⟨#[10]⟩:ByteArray)=ak (((l.take (i+1)).map dZ).flatten) by
       rw[wM.out,HT.out,hN,hS,show (⟨#[32,61,32]⟩:ByteArray)=ak [32,61,32]from rfl,show (⟨#[10]⟩:ByteArray)=ak [10]from rfl,eT,eT,eT,eT];unfold dZ;rw[hmo];simp)
      have kE:=hh9 (show ((((T++nm)++(⟨#[32,61,32]⟩:ByteArray))++S)++(⟨#[10]⟩:ByteArray)).size<=1000000000000 by rw[bT.out,eP];exact jY.out);have d1:∀ W:World,(Op.stringOp .add T nm).run Tryz.prog W=.ok (.string (T++nm)) W:=fun W=>run_string_add_sum W _ _ (by omega)
      have d2:∀ W:World,(Op.stringOp .add (T++nm) (⟨#[32,61,32]⟩:ByteArray)).run Tryz.prog W=.ok (.string ((T++nm)++(⟨#[32,61,32]⟩:ByteArray))) W:=fun W=>run_string_add_sum W _ _ (by rw[ByteArray.size_append];omega)
      have d3:∀ W:World,(Op.stringOp .add ((T++nm)++(⟨#[32,61,32]⟩:ByteArray)) S).run Tryz.prog W=.ok (.string (((T++nm)++(⟨#[32,61,32]⟩:ByteArray))++S)) W:=fun W=>run_string_add_sum W _ _ (by rw[ByteArray.size_append,ByteArray.size_append];omega)
      have d4:∀ W:World,(Op.stringOp .add (((T++nm)++(⟨#[32,61,32]⟩:ByteArray))++S) ⟨#[10]⟩).run Tryz.prog W=.ok (.string ((((T++nm)++(⟨#[32,61,32]⟩:ByteArray))++S)++⟨#[10]⟩)) W:=fun W=>run_string_add_sum W _ _ (by rw[ByteArray.size_append,ByteArray.size_append,ByteArray.size_append];omega)
      rw[hmo]at e1;clear hmo hN hS;go_wp2_with fail
      refine(HN.out _).mono ?_;rintro e w' ⟨rfl,rfl⟩;go_wp2_with fail
      refine(HR.out _ aA.out).mono ?_;rintro e w1 ⟨rfl,hb⟩;have HB1:=hh9 (aJ aA.out hb);have f0:=gu e0 hb;have f1:=gu e1 hb;have f2:=gu e2 hb;have f3:=gu e3 hb;have f4:=gu e4 hb;have f5:=gu e5 hb;have f6:=gu e6 hb;have f7:=gu e7 hb;clear hb e0 e1 e2 e3 e4 e5 e6 e7;go_wp2_with fail
      go_region_held3 (fun W'=>(W'.cell? ⟨g,off+i*8,none⟩=some (.string nm)/\W'.cell? ⟨g,off+i*8+2,none⟩=some (.int .i64 k)/\W'.cell? ⟨g,off+i*8+3,none⟩=some (.string s)/\W'.cell? ⟨g,off+i*8+4,none⟩=some nv/\W'.cell? ⟨g,off+i*8+5,none⟩=some (.int .i64 lo)/\W'.cell? ⟨g,off+i*8+6,none⟩=some (.int .i64 hi')/\W'.cell? ⟨g,off+i*8+7,none⟩=some kv)/\Below w.heap.size w W')
       (first|exact qA.step (by assumption) (by assumption)|exact qA.drew (by assumption)|exact⟨⟨by assumption,by assumption,by assumption,by assumption,by assumption,by assumption,by assumption⟩,dJ HB1.out 1⟩)
       (first|(go_at_call 54;refine(lu.out _ (And.right (by assumption))).mono ?_;rintro e w' ⟨rfl,hb'⟩))
      rename_i hS;have HB2:=hh9 hS.2;clear hS f0 f1 f2 f3 f4 f5 f6 f7;go_wp2_with fail
      go_roundw
      case rel=>exact⟨i+1,_,rfl,by go_num,by omega,kE.out,bT,HB2,UW⟩
      case measure=>simp[intOf];omega
     ·have bT:=hh9 (show (((T++nm)++(⟨#[32,61,47,32]⟩:ByteArray))++S)++(⟨#[10]⟩:ByteArray)=ak (((l.take (i+1)).map dZ).flatten) by
       rw[wM.out,HT.out,hN,hS,show (⟨#[32,61,47,32]⟩:ByteArray)=ak [32,61,47,32]from rfl,show (⟨#[10]⟩:ByteArray)=ak [10]from rfl,eT,eT,eT,eT];unfold dZ;rw[hmo];simp)
      have kE:=hh9 (show ((((T++nm)++(⟨#[32,61,47,32]⟩:ByteArray))++S)++(⟨#[10]⟩:ByteArray)).size<=1000000000000 by rw[bT.out,eP];exact jY.out);have d1:∀ W:World,(Op.stringOp .add T nm).run Tryz.prog W=.ok (.string (T++nm)) W:=fun W=>run_string_add_sum W _ _ (by omega)
      have d2:∀ W:World,(Op.stringOp .add (T++nm) (⟨#[32,61,47,32]⟩:ByteArray)).run Tryz.prog W=.ok (.string ((T++nm)++(⟨#[32,61,47,32]⟩:ByteArray))) W:=fun W=>run_string_add_sum W _ _ (by rw[ByteArray.size_append];omega)
      have d3:∀ W:World,(Op.stringOp .add ((T++nm)++(⟨#[32,61,47,32]⟩:ByteArray)) S).run Tryz.prog W=.ok (.string (((T++nm)++(⟨#[32,61,47,32]⟩:ByteArray))++S)) W:=fun W=>run_string_add_sum W _ _ (by rw[ByteArray.size_append,ByteArray.size_append];omega)
      have d4:∀ W:World,(Op.stringOp .add (((T++nm)++(⟨#[32,61,47,32]⟩:ByteArray))++S) ⟨#[10]⟩).run Tryz.prog W=.ok (.string ((((T++nm)++(⟨#[32,61,47,32]⟩:ByteArray))++S)++⟨#[10]⟩)) W:=fun W=>run_string_add_sum W _ _ (by rw[ByteArray.size_append,ByteArray.size_append,ByteArray.size_append];omega)
      rw[hmo]at e1;clear hmo hN hS;go_wp2_with fail
      refine(HN.out _).mono ?_;rintro e w' ⟨rfl,rfl⟩;go_wp2_with fail
      refine(HR.out _ aA.out).mono ?_;rintro e w1 ⟨rfl,hb⟩;have HB1:=hh9 (aJ aA.out hb);have f0:=gu e0 hb;have f1:=gu e1 hb;have f2:=gu e2 hb;have f3:=gu e3 hb;have f4:=gu e4 hb;have f5:=gu e5 hb;have f6:=gu e6 hb;have f7:=gu e7 hb;clear hb e0 e1 e2 e3 e4 e5 e6 e7;go_wp2_with fail
      go_region_held3 (fun W'=>(W'.cell? ⟨g,off+i*8,none⟩=some (.string nm)/\W'.cell? ⟨g,off+i*8+2,none⟩=some (.int .i64 k)/\W'.cell? ⟨g,off+i*8+3,none⟩=some (.string s)/\W'.cell? ⟨g,off+i*8+4,none⟩=some nv/\W'.cell? ⟨g,off+i*8+5,none⟩=some (.int .i64 lo)/\W'.cell? ⟨g,off+i*8+6,none⟩=some (.int .i64 hi')/\W'.cell? ⟨g,off+i*8+7,none⟩=some kv)/\Below w.heap.size w W')
       (first|exact qA.step (by assumption) (by assumption)|exact qA.drew (by assumption)|exact⟨⟨by assumption,by assumption,by assumption,by assumption,by assumption,by assumption,by assumption⟩,dJ HB1.out 1⟩)
       (first|(go_at_call 54;refine(lu.out _ (And.right (by assumption))).mono ?_;rintro e w' ⟨rfl,hb'⟩))
      rename_i hS;have HB2:=hh9 hS.2;clear hS f0 f1 f2 f3 f4 f5 f6 f7;go_wp2_with fail
      go_roundw
      case rel=>exact⟨i+1,_,rfl,by go_num,by omega,kE.out,bT,HB2,UW⟩
      case measure=>simp[intOf];omega
   ·have hin:i=n:=by omega
    subst hin
    have HV:=hh9 (show Value.tuple #[.string T,.int .i64 0]=xC l by
     have e:l.take i=l:=List.take_of_length_le (by rw[<- bH.out];omega);have h1:=HT.out;have h2:=rE.out;rw[e]at h1 h2;unfold xC;rw[if_pos h2,h1])
    clear HBAD;go_wp2_with fail
    go_ret2
    exact⟨congrArg Ending.returned HV.out,aA.out⟩
end Go.Proofs.YtahibnnhjahmnaaGreatDoor
namespace Go.Proofs.YtahibnnhjahmnaaGreatDoor
def Pv(lo hi:Int)(t:Tree):Tree:=.mk 3 [] [] lo hi [t]
def Pw:List Int:=[119,111,114,100]
def zyl:List Int:=[110,111,98,111,100,121]
def Bb:Nat->Rule
 |0=>⟨[97],false,dH [120]⟩
 |1=>⟨[98],false,jh [bZ [97],bZ Ju]⟩
 |2=>⟨[97],true,bZ iQ⟩
 |3=>⟨[99],false,rP [Pv 1 (-1) (bZ [98]),Pv 0 1 (bZ tO)]⟩
 |4=>⟨[98],true,jh [mX 65,mX 66]⟩
 |5=>⟨Pw,false,rP [Pv 0 (-1) (bZ Jw),bZ Jv]⟩
 |6=>⟨[99],false,bZ zyl⟩
 |7=>⟨[97],false,rP [bZ [98],bZ [98]]⟩
 |8=>⟨[120],true,bZ [97]⟩
 |9=>⟨[100],false,jh [bZ [99],bZ Pw,bZ [97]]⟩
 |_=>⟨Pw,true,bZ yF⟩
def Px:Nat->List Int
 |0=>[97,32,61,32,34,120,34]
 |1=>[98,32,61,32,97,32,47,32,97,108,112,104,97]
 |2=>[97,32,61,47,32,100,105,103,105,116]
 |3=>[99,32,61,32,49,42,98,32,91,99,114,108,102,93]
 |4=>[98,32,61,47,32,37,120,52,49,32,47,32,37,120,52,50]
 |5=>[119,111,114,100,32,61,32,42,108,119,115,112,32,104,101,120,100,105,103]
 |6=>[99,32,61,32,110,111,98,111,100,121]
 |7=>[97,32,61,32,98,32,98]
 |8=>[120,32,61,47,32,97]
 |9=>[100,32,61,32,99,32,47,32,119,111,114,100,32,47,32,97]
 |_=>[119,111,114,100,32,61,47,32,99,116,108]
theorem zv9:∀ n,n<11->dZ (Bb n)=Px n++[10]:=by decide +kernel
theorem UY:∀ n,n<11->(mF (Bb n).name&&dK 50 (Bb n).expr&&Cw 49 (Bb n).expr&&decide ((Px n).length<=30)&&(Px n).all (fun c=>decide (0<=c)&&decide (c<=255)))=true:=by decide +kernel
theorem qbn:∀ n,n<11->(Bb n).expr.tw<=30:=by
 intro n hn;have h:n=0\/n=1\/n=2\/n=3\/n=4\/n=5\/n=6\/n=7\/n=8\/n=9\/n=10:=by omega
 rcases h with rfl|rfl|rfl|rfl|rfl|rfl|rfl|rfl|rfl|rfl|rfl<;>simp[Bb,dH,jh,bZ,rP,Pv,mX,Tree.tw,Ju,iQ,tO,Pw,Jw,Jv,zyl,yF]
def xP(p:List Nat):List Rule:=p.map fun n=>Bb (n%11)
def CG(p:List Nat):List Int:=(p.map fun n=>Px (n%11)++[10]).flatten
theorem zym(p:List Nat):((xP p).map dZ).flatten=CG p:=by
 unfold xP CG;rw[List.map_map]
 congr 1
 apply List.map_congr_left;intro n _;exact zv9 _ (Nat.mod_lt _ (by omega))
theorem zn6:∀ (p:List Nat),(CG p).length<=31*p.length
 |[]=>by simp[CG]
 |n::p=>by
  have h:=zn6 p;have h2:=UY (n%11) (Nat.mod_lt _ (by omega));simp only[zbJ,decide_eq_true_eq]at h2;have h3:=h2.1.2;simp only[CG,List.map_cons,List.flatten_cons,zbG,List.length_cons,List.length_nil]at h ⊢;omega
theorem zqd(p:List Nat):wU (CG p):=by
 intro c hc;unfold CG at hc;obtain⟨x,hx,hcx⟩:=List.mem_flatten.1 hc;obtain⟨n,hn,rfl⟩:=List.mem_map.1 hx;have h2:=UY (n%11) (Nat.mod_lt _ (by omega));simp only[zbJ,List.all_eq_true,decide_eq_true_eq]at h2;rcases List.mem_append.1 hcx with h|h
 ·exact h2.2 c h
 ·simp at h;omega
theorem zqe(p:List Nat):G7 (xP p)=true:=by
 unfold G7 xP;rw[List.all_eq_true];intro r hr;obtain⟨n,hn,rfl⟩:=List.mem_map.1 hr;have h2:=UY (n%11) (Nat.mod_lt _ (by omega));simp only[zbJ,decide_eq_true_eq]at h2;rw[zbJ];exact⟨h2.1.1.1.1,h2.1.1.1.2⟩
theorem zqf:∀ (p:List Nat),ko (xP p)<=31*p.length
 |[]=>by simp[ko,xP]
 |n::p=>by
  have h:=zqf p;have h3:=qbn (n%11) (Nat.mod_lt _ (by omega));simp only[ko,xP,List.map_cons,List.sum_cons,List.length_cons]at h ⊢;omega
theorem zqg{p:List Nat}(hp:p.length<=400){r:Got (List Rule)}(ha:uN (ak (CG p)) r):∃ q,r=.ok (xP p) q:=by
 have h1:=zqe p;have h2:=zn6 p;have h3:=zqd p;have h4:(xP p).length<=500:=by unfold xP;simp;omega
 rw[<- zym]at h2 h3 ha;exact YC h1 h4 h3 (by omega) ha
def xQ:List Rule:=[⟨[97],false,dH [120]⟩,⟨[97],true,bZ iQ⟩]
def qB:List GR:=[⟨[97],jh [dH [120],bZ iQ]⟩,⟨iQ,jK 48 57⟩]
def UZ:List GR:=[⟨[97],jh [dH [120],bZ iQ]⟩]
theorem zyn:lg [] xQ=some UZ:=by kernel_rfl
theorem qbo(x:List Int):bn (dH x)=[]:=by
 unfold dH;rw[Dr,if_neg (by decide)];rfl
theorem ztf(x:List Int):bn (bZ x)=[x]:=by
 unfold bZ;rw[Dr,if_pos rfl];rfl
theorem ztg(a b:Int):bn (jK a b)=[]:=by
 unfold jK;rw[Dr,if_neg (by decide)];rfl
theorem U0:bn (jh [dH [120],bZ iQ])=[iQ]:=by
 unfold jh;rw[Dr,if_neg (by decide)];simp[qbo,ztf]
theorem zqh:qR xQ qB 0:=by
 refine .inr ⟨by decide +kernel,.inr ⟨UZ,2,some qB,zyn,?_,.inr ⟨rfl,rfl⟩⟩⟩;refine .step (r:=⟨[97],jh [dH [120],bZ iQ]⟩) (g':=qB) rfl ?_ (.step (r:=⟨iQ,jK 48 57⟩) (g':=qB) rfl ?_ (.done (by decide)))
 ·show jw UZ (bn (jh [dH [120],bZ iQ]))=_
  rw[U0]
  kernel_rfl
 ·show jw qB (bn (jK 48 57))=_
  rw[ztg];rfl
def Mi:List Rule:=[⟨[97],false,bZ [98]⟩]
theorem zva:qR Mi [] 40:=by
 refine .inr ⟨by decide +kernel,.inr ⟨[⟨[97],bZ [98]⟩],1,none,by kernel_rfl,.fail (r:=⟨[97],bZ [98]⟩) rfl ?_,.inl ⟨rfl,rfl,rfl⟩⟩⟩;show jw _ (bn (bZ [98]))=_
 rw[ztf]
 kernel_rfl
theorem zth:bI qB [97]=some 0:=by kernel_rfl
theorem zqi:bI qB iQ=some 1:=by kernel_rfl
theorem zyp:Ec qB [97] [[97],iQ]:=by
 have e1:rW qB [97]=[iQ]:=by
  unfold rW;rw[zth];exact U0
 have e2:rW qB iQ=[]:=by
  unfold rW;rw[zqi];exact ztg _ _
 refine .inr ⟨by rw[zth];simp,2,.step (x:=[97]) rfl ?_⟩;rw[e1,show dh [[97]] [iQ]=[[97],iQ] by kernel_rfl];refine .step (x:=iQ) rfl ?_;rw[e2];exact .done (by decide)
def CJ:List Int:=[97,32,61,32,34,120,34,10,97,32,61,47,32,100,105,103,105,116,10]
theorem qbp:CG [0,2]=CJ:=by decide +kernel
theorem U1:xP [0,2]=xQ:=by kernel_rfl
end Go.Proofs.YtahibnnhjahmnaaGreatDoor
namespace Go.Proofs.YtahibnnhjahmnaaGreatDoor
open Go.RowKit
def Mj(b:Int)(R:Nat)(s:ByteArray)(p:Nat)(w:World)(e:Ending)(w':World):Prop :=
 (∃ v q,fC b 1114111 (rd s) p=.ok v q/\aW R s (.int .i64 v) q 0 w e w') \/
 (∃ c,c≠0/\fC b 1114111 (rd s) p=.err c/\∃ q,q<=s.size/\aW R s (.int .i64 (-1)) q c w e w')
theorem zyq{R p:Nat}{s:ByteArray}{w:World}(b:Int)(hb:b=2\/b=10\/b=16)(h:bL w R s p 0)(hs:s.size<=50000)(hp:p<=s.size) :
  Calls Tryz.prog 144 #[.pointer (some ⟨R,0,none⟩),.int .i64 b] w (Mj b R s p w):=by
 have H:=hh9 h;have jX:=hh9 hb;clear h hb;go_enter Tryz.func144,Tryz.ntmps144;go_wp2_with fail
 refine(zle b 1114111 jX.out (by omega) (by omega) H.out hs hp).mono ?_;rintro e w1 (⟨hd,rfl,ha,hg⟩|⟨v,q,hn,rfl,ha,hg⟩|⟨hd,hn,q,hq,rfl,ha,hg⟩)
 ·have HN:=hh9 (R7 (lim:=1114111) hd);have HA:=hh9 ha;have HG:=hh9 hg;clear hd ha hg;go_wp2_with fail
  refine(tZ HA.out 20).mono ?_;rintro e w2 ⟨rfl,ha,hg⟩;have HA2:=hh9 ha;have HG2:=hh9 (HG.out.trans hg);clear ha hg;go_wp2_with fail
  go_ret;exact .inr ⟨20,by omega,HN.out,p,hp,rfl,HA2.out,HG2.out⟩
 ·have hv:=Oi (by rcases jX.out with rfl|rfl|rfl<;>omega) hn
  have hv2:v<=1114111:=by
   unfold fC at hn;split at hn
   ·cases hn
   ·split at hn
    ·cases hn
    ·cases hn;omega
  have HN:=hh9 hn;have HA:=hh9 ha;have HG:=hh9 hg;clear hn ha hg;go_wp2_with fail
  go_ret;exact .inl ⟨v,q,HN.out,rfl,HA.out,HG.out⟩
 ·have HN:=hh9 hn;have HA:=hh9 ha;have HG:=hh9 hg;clear hd hn ha hg;go_wp2_with fail
  refine(FH HA.out (by omega) 20).mono ?_;rintro e w2 ⟨rfl,ha,hg⟩;have HA2:=hh9 ha;have HG2:=hh9 (HG.out.trans hg);clear ha hg;go_wp2_with fail
  go_ret;exact .inr ⟨2,by omega,HN.out,q,hq,rfl,HA2.out,HG2.out⟩
def qf6(R:Nat)(s:ByteArray)(p:Nat)(w:World)(e:Ending)(w':World):Prop :=
 (∃ x q,iY (rd s) p=.ok x q/\(∀ c∈x,0<=c/\c<128)/\x.length<=60000/\aW R s (.string (ak x)) q 0 w e w') \/
 (iY (rd s) p=.err 20/\∃ x q,q<=s.size+1/\(∀ c∈x,0<=c/\c<128)/\x.length<=60000/\aW R s (.string (ak x)) q 20 w e w')
def qbq(R:Nat)(s:ByteArray)(p:Nat)(w wr:World)(T:ByteArray)(q:Nat):Prop :=
 bL wr R s q 0/\w.grownBy wr (some R)/\p+1<=q/\q<=s.size/\T=s.extract (p+1) q/\∀ i,p+1<=i->i<q->gT (rd s i)=true
theorem qbr{s:ByteArray}{p q:Nat}(h:p<=q):s.extract p q++s.extract q (q+1)=s.extract p (q+1):=by
 apply ByteArray.ext;rw[ByteArray.data_append,ByteArray.data_extract,ByteArray.data_extract,ByteArray.data_extract,Array.extract_append_extract]
 congr 1<;>omega
theorem zrq{R p:Nat}{s:ByteArray}{w:World}(h:bL w R s p 0)(hs:s.size<=50000)(fI:rd s p=34) :
  Calls Tryz.prog 143 #[.pointer (some ⟨R,0,none⟩)] w (qf6 R s p w):=by
 obtain⟨c0,c1,c2,z0,z1,z2⟩:=h.cells;have hp:p<s.size:=fP (by omega) fI;have qj:=hh9 fI;have H:=hh9 h;clear h fI;go_enter Tryz.func143,Tryz.ntmps143;go_wp2_with fail
 clear c0 c1 c2 z0 z1 z2;go_loopw [3] (fun v wr=>∃ T:ByteArray,∃ q:Nat,v=.string T/\qbq R s p w wr T q) (fun _ wr=>s.size-qH R wr)
 case atStart=>exact⟨⟨#[]⟩,p+1,rfl,H.out.step,fu (iq _ _) _ _,zbA _,by omega,by simp[ByteArray.ext_iff],fun i h1 h2=>absurd h1 (by omega)⟩
 case round =>
  obtain⟨T,q,rfl,ha,hg,hpq,aR,hT,hall⟩:=hrel;have HA:=hh9 ha;have HG:=hh9 hg;have HM:=hh9 ha.pos;obtain⟨Z,hZ⟩:∃ y,rd s q=y:=⟨_,rfl⟩
  have HZ:=hh9 hZ;have rV:=H6 s q;rw[hZ]at rV;have hTs:T.size=q-(p+1):=by rw[hT,ByteArray.size_extract];omega
  have kF:Hid (T=ak (cut (rd s) (p+1) (q-(p+1)))):=by rw[hT];exact Sd aR
  cases hst:gT Z
  ·have hrun:eG gT (rd s) (p+1) q:=⟨hpq,hall,by rw[hZ];exact hst⟩
   have nX:=hh9 hrun;have Ga:=hh9 (Sg Yj hrun);have HLEN:Hid ((cut (rd s) (p+1) (q-(p+1))).length<=60000):=by rw[Kn];exact(by omega:q-(p+1)<=60000)
   have Gb:¬ (32<=Z/\Z<=126/\Z≠34):=by
    unfold gT at hst;simp at hst;intro ⟨g1,g2,g3⟩;exact g3 (hst g1 g2)
   clear ha hg hZ hT hall hst hrun hTs;by_cases g1:32<=Z
   ·by_cases g2:Z<127
    ·have g3:Z=34:=by omega
     subst g3;clear Gb;go_wp2_with fail
     refine(aQ HA.out hs (by omega) _ HZ.out).mono ?_;rintro e w1 ⟨rfl,hbw⟩;have jO:=hh9 (HA.out.below hbw);have Ba:=hh9 (dw HG.out hbw);clear hbw;go_wp2_with fail
     refine(aQ jO.out hs (by omega) _ HZ.out).mono ?_;rintro e w2 ⟨rfl,hbw⟩;have Gc:=hh9 (jO.out.below hbw);have Ml:=hh9 (dw Ba.out hbw);clear hbw;go_wp2_with fail
     refine(aQ Gc.out hs (by omega) _ HZ.out).mono ?_;rintro e w3 ⟨rfl,hbw⟩;have HA1:=hh9 (Gc.out.below hbw);have aT:=hh9 (dw Ml.out hbw);clear hbw HA HG jO Ba Gc Ml
     have HQ:Hid (iY (rd s) p=.ok (cut (rd s) (p+1) (q-(p+1))) (q+1)):=by
      unfold iY;rw[if_pos qj.out,nX.out.eq,if_pos HZ.out];exact rfl
     go_wp2_with fail
     refine(aQ HA1.out hs (by omega) _ HZ.out).mono ?_;rintro e w5 ⟨rfl,hbw⟩;have bQ:=hh9 (HA1.out.below hbw);have dR:=hh9 (dw aT.out hbw);obtain⟨d0,d1,d2,y0,y1,y2⟩:=bQ.out.cells;clear hbw;go_wp2_with fail
     go_ret;rw[kF.out];exact .inl ⟨_,q+1,HQ.out,Ga.out,HLEN.out,rfl,bQ.out.step,fu dR.out _ _⟩
    ·clear Gb;have fI:¬ Z=34:=by omega
     go_wp2_with fail
     refine(aQ HA.out hs (by omega) _ HZ.out).mono ?_;rintro e w1 ⟨rfl,hbw⟩;have jO:=hh9 (HA.out.below hbw);have Ba:=hh9 (dw HG.out hbw);clear hbw;go_wp2_with fail
     refine(aQ jO.out hs (by omega) _ HZ.out).mono ?_;rintro e w2 ⟨rfl,hbw⟩;have HA1:=hh9 (jO.out.below hbw);have aT:=hh9 (dw Ba.out hbw);clear hbw HA HG jO Ba;have U2:(Z==34)=false:=by simpa using fI
     have U3:(Z != 34)=true:=by simpa using fI
     have HQ:Hid (iY (rd s) p=.err 20):=by
      unfold iY;rw[if_pos qj.out,nX.out.eq,if_neg (by rw[HZ.out];exact fI)];exact rfl
     clear fI;go_wp2_with fail
     refine(aQ HA1.out hs (by omega) _ HZ.out).mono ?_;rintro e w5 ⟨rfl,hbw⟩;have bQ:=hh9 (HA1.out.below hbw);have dR:=hh9 (dw aT.out hbw);clear hbw;go_wp2_with fail
     refine(tZ bQ.out 20).mono ?_;rintro e w6 ⟨rfl,ha,hg⟩;have jL:=hh9 ha;have mP:=hh9 (dR.out.trans hg);obtain⟨d0,d1,d2,y0,y1,y2⟩:=ha.cells;clear ha hg;go_wp2_with fail
     go_ret;rw[kF.out];exact .inr ⟨HQ.out,_,q+1,by omega,Ga.out,HLEN.out,rfl,jL.out.step,fu mP.out _ _⟩
   ·clear Gb;have fI:¬ Z=34:=by omega
    go_wp2_with fail
    refine(aQ HA.out hs (by omega) _ HZ.out).mono ?_;rintro e w1 ⟨rfl,hbw⟩;have HA1:=hh9 (HA.out.below hbw);have aT:=hh9 (dw HG.out hbw);clear hbw HA HG;have U2:(Z==34)=false:=by simpa using fI
    have U3:(Z != 34)=true:=by simpa using fI
    have HQ:Hid (iY (rd s) p=.err 20):=by
     unfold iY;rw[if_pos qj.out,nX.out.eq,if_neg (by rw[HZ.out];exact fI)];exact rfl
    clear fI;go_wp2_with fail
    refine(aQ HA1.out hs (by omega) _ HZ.out).mono ?_;rintro e w5 ⟨rfl,hbw⟩;have bQ:=hh9 (HA1.out.below hbw);have dR:=hh9 (dw aT.out hbw);clear hbw;go_wp2_with fail
    refine(tZ bQ.out 20).mono ?_;rintro e w6 ⟨rfl,ha,hg⟩;have jL:=hh9 ha;have mP:=hh9 (dR.out.trans hg);obtain⟨d0,d1,d2,y0,y1,y2⟩:=ha.cells;clear ha hg;go_wp2_with fail
    go_ret;rw[kF.out];exact .inr ⟨HQ.out,_,q+1,by omega,Ga.out,HLEN.out,rfl,jL.out.step,fu mP.out _ _⟩
  ·obtain⟨g1,g2,g3⟩:32<=Z/\Z<127/\Z≠34:=by
    unfold gT at hst;simp at hst;exact⟨by omega,by omega,hst.2⟩
   have U2:(Z != 34)=true:=by simpa using g3
   have hlt:q<s.size:=fP (by omega) hZ;have bT:Hid (∀ i,p+1<=i->i<q+1->gT (rd s i)=true):=Cc (P:=gT) hall (by rw[hZ];exact hst);have IC:Hid (T++s.extract q (q+1)=s.extract (p+1) (q+1)):=by rw[hT];exact qbr hpq
   have Ak:T.size<=50000:=by omega
   obtain⟨m,hm0⟩:∃ m,q+1=m:=⟨_,rfl⟩
   have hm:(q:Int)+1=(m:Int):=by omega
   have Qy:(s.extract q m).size=1:=by rw[ByteArray.size_extract];omega
   have hle:decide ((q:Int)<=(m:Int))=true:=by simp;omega
   have hle2:decide ((m:Int)<=(s.size:Int))=true:=by simp;omega
   have hle3:q<=m:=by omega
   have Mq:m<=s.size:=by omega
   rw[hm0]at IC bT;clear ha hg hZ hT hall hst hTs g3;go_wp2_with fail
   refine(aQ HA.out hs (by omega) _ HZ.out).mono ?_;rintro e w1 ⟨rfl,hbw⟩;have jO:=hh9 (HA.out.below hbw);have Ba:=hh9 (dw HG.out hbw);clear hbw;go_wp2_with fail
   refine(aQ jO.out hs (by omega) _ HZ.out).mono ?_;rintro e w2 ⟨rfl,hbw⟩;have Gc:=hh9 (jO.out.below hbw);have Ml:=hh9 (dw Ba.out hbw);clear hbw;go_wp2_with fail
   refine(aQ Gc.out hs (by omega) _ HZ.out).mono ?_;rintro e w3 ⟨rfl,hbw⟩;have HA1:=hh9 (Gc.out.below hbw);have aT:=hh9 (dw Ml.out hbw);obtain⟨d0,d1,d2,y0,y1,y2⟩:=HA1.out.cells;clear hbw HA HG jO Ba Gc Ml;go_wp2_with fail
   go_quiet (fail)
   go_wp2_with fail
   go_roundw
   case rel=>exact⟨_,m,rfl,(HA1.out.drew _).put (by omega),fu (bY aT.out _) _ _,by omega,by omega,IC.out,bT.out⟩
   case measure =>
    rw[HM.out,((HA1.out.drew _).put (q:=m) (by omega)).pos];omega
def iF(sk:Bool)(s:ByteArray)(d:Nat)(a:Ask)(p:Nat)(t:Tree)(q:Nat)(c:Int):Prop :=
 (c=0/\p<=q/\q<=s.size/\aK (rd s) a d p (.ok t (if sk then bN (rd s) q else q)))\/(c≠0/\q<=s.size+2+(52-d)/\aK (rd s) a d p (.err c))
def qcl(sk:Bool)(R:Nat)(s:ByteArray)(d:Nat)(a:Ask)(p:Nat)(w:World)(e:Ending)(w':World):Prop :=
 ∃ (x:XV) (t:Tree) (q:Nat) (c:Int),av w' (fun b=>w.heap.size<=b) x t/\aW R s x.val q c w e w'/\iF sk s d a p t q c
def qf7(R:Nat)(s:ByteArray)(p:Nat)(c:Int)(w:World)(e:Ending)(w':World):Prop :=
 ∃ (x:XV) (t:Tree) (q:Nat),av w' (fun b=>w.heap.size<=b) x t/\q<=p+1/\aW R s x.val q c w e w'
def yj(f:Nat)(sk:Bool)(a:Ask)(k:Nat):Prop:=∀ {R p d:Nat} {s:ByteArray} {w:World},bL w R s p 0->s.size<=50000->p<=s.size->d<=50->s.size-p<=k ->
 Calls Tryz.prog f #[.pointer (some ⟨R,0,none⟩),.int .i64 d] w (qcl sk R s d a p w)
theorem bL.aj{w:World}{R:Nat}{s:ByteArray}{p:Nat}{c:Int}(h:bL w R s p c){g:Nat}(hg:R≠g)(cs:Array Value):bL (w.setRow g cs) R s p c:=(setRow_other _ _ _ _ hg).trans h
theorem zti{w w':World}{base R:Nat}{s:ByteArray}{p:Nat}{c:Int}{v:Value}{l:List Tree}(hk:fK w base v l)(h:bL w R s p c)(hg:w.grownBy w' v.ownBlock)(hR:R<base):bL w' R s p c:=by
 obtain⟨vs,_,h2,_⟩:=hk;refine h.kept hg (fun e=>?_);rcases fB h2 with ⟨rfl,_⟩|⟨g,cap,rfl⟩
 ·simp[Value.ownBlock]at e
 ·have hb:=(iX h2).1;have:=zbB e;simp at this;omega
theorem qbs{c:Int}(h:c=34\/c=37\/c=40\/c=42\/c=91):dB c=true:=by rcases h with rfl|rfl|rfl|rfl|rfl<;>decide
theorem zln{R p:Nat}{c:Int}{s:ByteArray}{w:World}(h:bL w R s p c)(hs:s.size<=50000)(hp:p<=60000) :
  Calls Tryz.prog 81 #[.pointer (some ⟨R,0,none⟩)] w (gG (dB (rd s p)) w):=by
 have H:=hh9 h;clear h;obtain⟨Z,hZ⟩:∃ z,rd s p=z:=⟨_,rfl⟩
 have HZ:=hh9 hZ;rw[hZ];clear hZ
 cases ha:aH Z
 ·cases hd:aS Z
  ·by_cases hc:Z=34\/Z=37\/Z=40\/Z=42\/Z=91
   ·rw[qbs hc];have HA:=hh9 ha;have HD:=hh9 hd;clear ha hd;rcases hc with rfl|rfl|rfl|rfl|rfl
    all_goals
     go_enter Tryz.func81,Tryz.ntmps81;go_wp2_with fail
     refine(aQ H.out hs hp _ HZ.out).mono ?_;rintro e w1 ⟨rfl,hb⟩;have HB:=hh9 hb;clear hb;go_wp2_with fail
     refine(wh _ _).mono ?_;rw[HA.out];rintro e w' ⟨rfl,rfl⟩;go_wp2_with fail
     refine(xE _ _).mono ?_;rw[HD.out];rintro e w' ⟨rfl,rfl⟩;go_wp2;go_ret;exact⟨rfl,HB.out⟩
   ·have e1:(Z==34)=false:=by simp;omega
    have e2:(Z==37)=false:=by simp;omega
    have e3:(Z==40)=false:=by simp;omega
    have e4:(Z==42)=false:=by simp;omega
    have e5:(Z==91)=false:=by simp;omega
    rw[Ya ha hd (by omega) (by omega) (by omega) (by omega) (by omega)];have HA:=hh9 ha;have HD:=hh9 hd;clear ha hd hc;go_enter Tryz.func81,Tryz.ntmps81;go_wp2_with fail
    refine(aQ H.out hs hp _ HZ.out).mono ?_;rintro e w1 ⟨rfl,hb⟩;have HB:=hh9 hb;clear hb;go_wp2_with fail
    refine(wh _ _).mono ?_;rw[HA.out];rintro e w' ⟨rfl,rfl⟩;go_wp2_with fail
    refine(xE _ _).mono ?_;rw[HD.out];rintro e w' ⟨rfl,rfl⟩;go_wp2;go_ret;exact⟨rfl,HB.out⟩
  ·rw[show dB Z=true by unfold dB;simp[hd]];have HA:=hh9 ha;have HD:=hh9 hd;clear ha hd;go_enter Tryz.func81,Tryz.ntmps81;go_wp2_with fail
   refine(aQ H.out hs hp _ HZ.out).mono ?_;rintro e w1 ⟨rfl,hb⟩;have HB:=hh9 hb;clear hb;go_wp2_with fail
   refine(wh _ _).mono ?_;rw[HA.out];rintro e w' ⟨rfl,rfl⟩;go_wp2_with fail
   refine(xE _ _).mono ?_;rw[HD.out];rintro e w' ⟨rfl,rfl⟩;go_wp2;go_ret;exact⟨rfl,HB.out⟩
 ·rw[show dB Z=true by unfold dB;simp[ha]];have HA:=hh9 ha;clear ha;go_enter Tryz.func81,Tryz.ntmps81;go_wp2_with fail
  refine(aQ H.out hs hp _ HZ.out).mono ?_;rintro e w1 ⟨rfl,hb⟩;have HB:=hh9 hb;clear hb;go_wp2_with fail
  refine(wh _ _).mono ?_;rw[HA.out];rintro e w' ⟨rfl,rfl⟩;go_wp2;go_ret;exact⟨rfl,HB.out⟩
def IG(R n:Nat)(w:World):Nat:=match w.cell? ⟨R,2,none⟩ with|some (.int _ c)=>(if c=0 then n+1-qH R w else 0)|_=>0
theorem bL.meas{w:World}{R:Nat}{s:ByteArray}{p:Nat}{c:Int}(h:bL w R s p c)(n:Nat):IG R n w=if c=0 then n+1-p else 0:=by
 unfold IG;rw[h.cells.2.2.1,h.pos]
def qcm(R:Nat)(s:ByteArray)(p d:Nat)(w wr:World)(v:Value)(q:Nat)(c:Int)(l:List Tree):Prop :=
 fK wr (w.heap.size+1) v l/\0<l.length/\bL wr R s q c/\w.grownBy wr (some R)/\bg wr w.heap.size /\
  ((c=0/\p<=q/\q<=s.size/\l.length<=q+1/\∀ r,aK (rd s) (.fD l) d q r->aK (rd s) .fV d p r)\/(c≠0/\q<=s.size+2+(52-d)/\l.length<=s.size+2/\aK (rd s) .fV d p (.err c)))
theorem Bc{R:Nat}{s:ByteArray}{sk:Bool}{a:Ask}{p d q:Nat}{c:Int}{w W:World}{t:Tree}{x:XV}(ht:av W (fun b=>w.heap.size+1<=b) x t)(ha:bL W R s q c)(hg:w.grownBy W (some R))(hR:R<w.heap.size)
  (ho:iF sk s d a p t q c):qcl sk R s d a p w (.returned x.val) (W.setRow w.heap.size x.arr) :=
 ⟨x,t,q,c,(ht.aj (fun b hb=>by omega) _).weak (fun b hb _=>by omega),⟨rfl,ha.aj (by omega) _,dY hg (zbA _) _⟩,ho⟩
theorem zqj{k:Nat}(hel:yj 80 false .rep k):yj 63 true .fV k:=by
 intro R p d s w h hs hp hd hk;have hR:=h.lt;have HR:=hh9 (fG w);have HA:=hh9 (h.alloc (.cells #[.int .i64 0,.string ⟨#[]⟩,.slice none 0 0,.int .i64 0,.int .i64 0,.slice none 0 0] 29));have HG:=hh9 (World.grownBy_alloc w (.cells #[.int .i64 0,.string ⟨#[]⟩,.slice none 0 0,.int .i64 0,.int .i64 0,.slice none 0 0] 29) (some R));have lX:Hid (yj 80 false .rep k):=@hel;clear h hel;go_enter Tryz.func63,Tryz.ntmps63;go_wp2_with fail
 refine(lX.out HA.out hs hp hd (by omega)).mono ?_;rintro e w1 ⟨x,t,q,c,ht,⟨rfl,ha,hg⟩,hout⟩;obtain⟨h2,h5⟩:x.ns.oneCell'=true/\x.ks.oneCell'=true:=⟨fq ht,eU ht⟩
 have H2:=hh9 h2;have H5:=hh9 h5;have hz1:w.heap.size+1<=w1.heap.size:=by have:=hg.size;simp at this;omega
 have ht1:av w1 (fun b=>w.heap.size+1<=b) x t:=ht.weak (fun b hb _=>by simp at hb;omega)
 have H0:Hid (qcm R s p d w (w1.alloc (.cells x.arr 29)) (.slice (some ⟨w1.heap.size,0,none⟩) 1 1) q c [t]):=by
  refine⟨fK.one ht1 (zbA _) hz1 (zbO w1 _) (fun b _ hl=>heap_alloc_old _ _ hl) (by simp),by simp,ha.alloc _,dn (HG.out.trans hg) _,lV (bG HR.out hg (by omega)) _,?_⟩;rcases hout with ⟨rfl,hpq,aR,aD⟩|⟨hc,qV,aD⟩
  ·exact .inl ⟨rfl,hpq,aR,by simp,fun r hr=>.jU aD hr⟩
  ·exact .inr ⟨hc,qV,by simp,.kC aD⟩
 clear ha hg h2 h5 ht ht1 HR HA HG hout;go_wp2_with (refine nR rfl _ rfl x rfl H2.out H5.out ?_)
 clear H2 H5;go_loopw [5] (fun v wr=>∃ (q:Nat) (c:Int) (l:List Tree),Hid (qcm R s p d w wr v q c l)) (fun _ wr=>IG R s.size wr)
 case atStart=>exact⟨q,c,[t],H0⟩
 case round =>
  clear H0 hz1;obtain⟨q,c,l,HI⟩:=hrel;obtain⟨hk0,hl0,ha,hg,hres,hst⟩:=HI.out;have HA:=hh9 ha;have HG:=hh9 hg;have aV:=hh9 hres;have HK:=hh9 hk0;have HM:=hh9 (ha.meas s.size);have hz:w.heap.size+1<=wr.heap.size:=by have:=hres.lt;omega
  obtain⟨c0,c1,c2,z0,z1,z2⟩:=ha.cells;clear ha hg hres hk0;rcases hst with ⟨rfl,hpq,aR,hlq,hall⟩|⟨hc,qV,hlb,aD⟩
  ·have aF:=hh9 hall;clear hall;obtain⟨q1,hq1⟩:∃ q1,q1=bN (rd s) q:=⟨_,rfl⟩
   obtain⟨jA,hle1,uS⟩:=wT aR;rw[<- hq1]at jA hle1 uS;have oN:=hh9 jA;have nY:=hh9 hq1;clear jA hq1;go_wp2_with fail
   refine(Iw HA.out hs aR).mono ?_;rintro e w2 ⟨q2,hsk,hle,hls,rfl,ha,hg⟩;obtain rfl:q2=q1:=hsk.one oN.out;have HA2:=hh9 ha;have HG2:=hh9 (HG.out.trans hg);have jG:=hh9 (HK.out.grown hg (by omega));have dL:=hh9 (bG aV.out hg (by omega));have hz2:w.heap.size+1<=w2.heap.size:=by have:=hg.size;omega
   clear hsk ha hg HA HG HK aV c0 c1 c2 z0 z1 z2;by_cases hlt:q<q2
   ·have hb1:decide (q<q2)=true:=zbN hlt
    cases rQ:dB (rd s q2)
    ·have Fh:=hh9 rQ;have HO:Hid (iF true s d .fV p (uj 2 l) q 0):=.inl ⟨rfl,hpq,aR,aF.out _ (aK.dS (f:=rd s) (d:=d) (p:=q) (l:=l) (by rw[<- nY.out,rQ];simp))⟩;clear rQ;rw[hb1];go_wp2_with fail
     refine(zln HA2.out hs (by omega)).mono ?_;rw[Fh.out];rintro e w3 ⟨rfl,hb⟩;have aC:=hh9 (HA2.out.below hb);obtain⟨d0,d1,d2,y0,y1,y2⟩:=aC.out.cells;have HA:=hh9 (aC.out.put (x:=(q:Int)) (q:=q) rfl);have HG:=hh9 (fu (dw HG2.out hb) 1 (.int .i64 (q:Int)));have HK:=hh9 ((jG.out.below hb).grown (fu (iq w3 (some R)) 1 (.int .i64 (q:Int))) (by omega));have aV:=hh9 (bG (dL.out.kept (hb.block _ dL.out.lt)) (fu (iq w3 (some R)) 1 (.int .i64 (q:Int))) (by omega));clear hb HA2 HG2 jG dL;by_cases hone:∃ t1,l=[t1]
     ·obtain⟨t1,rfl⟩:=hone;obtain⟨vs,hl,hr,ht⟩:=HK.out
      obtain⟨x,rfl⟩:∃ x,vs=[x]:=by
       match vs,hl with
       |[x],_=>exact⟨x,rfl⟩
      have hx:=(ht 0 x t1 rfl rfl).weak (P':=fun b=>w.heap.size+1<=b) (fun b hP _=>hP.1);obtain⟨g,cap,rfl⟩:=(fB hr).resolve_left (fun h=>by cases h.2);have e0:=eZ hr (j:=0) rfl;have e1:=eZ hr (j:=1) rfl;have e2:=eZ hr (j:=2) rfl;have e3:=eZ hr (j:=3) rfl;have e4:=eZ hr (j:=4) rfl;have e5:=eZ hr (j:=5) rfl;obtain⟨hbg,hcap,hmax,hg⟩:=iX hr;have HT:=hh9 hx;obtain⟨x0,x1,x2,x3,x4,x5⟩:=x;have HS2:Hid (Value.oneCell' x2=true):=fq HT.out;have yX:Hid (Value.oneCell' x5=true):=eU HT.out;have jv:=hh9 (HO.out);clear hr ht hx hl HK;go_wp2_with (refine bA rfl _ _ rfl w.heap.size ⟨x0,x1,x2,x3,x4,x5⟩ rfl rfl aV.out HS2.out yX.out ?_)
      exact bodyPost_ret_by (zag rfl _ _ w.heap.size ⟨x0,x1,x2,x3,x4,x5⟩ rfl aV.out) rfl (Bc HT.out HA.out HG.out hR jv.out)
     ·have hn:l.length≠1:=fun h=>hone (by
       match l,h with
       |[t1],_=>exact⟨t1,rfl⟩)
      have HT:=hh9 (HK.out.tree 2 0 0);have jv:=hh9 (HO.out);rw[Ia _ hn]at jv;obtain⟨vs,hl,hr,ht⟩:=HK.out;obtain⟨n,hln⟩:∃ n,n=l.length:=⟨_,rfl⟩
      have hq:decide ((n:Int)=1)=false:=H9 (by omega);have hq2:((n:Int)==1)=false:=by simp;omega
      have hn2:n<=60000:=by omega
      obtain⟨g,cap,rfl⟩:=(fB hr).resolve_left (fun h=>by omega);rw[<- hln]at HT ⊢;clear hr ht hl hone hn hln HK;go_wp2_with (refine bA rfl _ _ rfl w.heap.size ⟨2,⟨#[]⟩,.slice none 0 0,0,0,.slice (some ⟨g,0,none⟩) n cap⟩ rfl rfl aV.out rfl rfl ?_)
      exact bodyPost_ret_by (zag rfl _ _ w.heap.size ⟨2,⟨#[]⟩,.slice none 0 0,0,0,.slice (some ⟨g,0,none⟩) n cap⟩ rfl aV.out) rfl (Bc HT.out HA.out HG.out hR jv.out)
    ·have Fh:=hh9 rQ;have HC:Hid (q<bN (rd s) q/\dB (rd s (bN (rd s) q))=true):=by rw[<- nY.out];exact⟨hlt,rQ⟩
     clear rQ;rw[hb1];go_wp2_with fail
     refine(zln HA2.out hs (by omega)).mono ?_;rw[Fh.out];rintro e w3 ⟨rfl,hb⟩;have aC:=hh9 (HA2.out.below hb);have aG:=hh9 (dw HG2.out hb);have jN:=hh9 (jG.out.below hb);have fQ:=hh9 (dL.out.kept (hb.block _ dL.out.lt));have hz3:w.heap.size+1<=w3.heap.size:=by have:=hb.size;omega
     clear hb HA2 HG2 jG dL;go_wp2_with fail
     refine(lX.out aC.out hs hls hd (by omega)).mono ?_;rintro e w4 ⟨x,t,q3,c3,ht,⟨rfl,ha,hg⟩,hout⟩;have h2:=fq ht;have h5:=eU ht;have H2:=hh9 h2;have H5:=hh9 h5;have dF:w.heap.size+1<=w4.heap.size:=by have:=hg.size;exact zbH hz3 this
     have nP:=hh9 ((jN.out.grown hg (by omega)).below ((zbE w4.heap.size w4).alloc (zbA _) (.cells x.arr 29)));have uT:=hh9 ((zjp jN.out ht hz3).under ((zbE w4.heap.size w4).alloc (zbA _) (.cells x.arr 29)));have bf:=hh9 (ha.alloc (.cells x.arr 29));have bD:=hh9 (dn (aG.out.trans hg) (.cells x.arr 29));have HR4:=hh9 (lV (bG fQ.out hg (by omega)) (.cells x.arr 29))
     have HST:Hid ((c3=0->q<q3)/\((c3=0/\p<=q3/\q3<=s.size/\(l++[t]).length<=q3+1/\∀ r,aK (rd s) (.fD (l++[t])) d q3 r->aK (rd s) .fV d p r)\/(c3≠0/\q3<=s.size+2+(52-d)/\(l++[t]).length<=s.size+2/\aK (rd s) .fV d p (.err c3)))):=by
      rcases hout with ⟨rfl,hb3,rD,aD⟩|⟨hc,qV,aD⟩
      ·refine⟨fun _=>by omega,.inl ⟨rfl,by omega,rD,by simp;omega,fun r hr=>aF.out r (.iO HC.out (by rw[<- nY.out];exact aD) hr)⟩⟩
      ·exact⟨fun g=>absurd g hc,.inr ⟨hc,qV,by simp;omega,aF.out _ (.iy HC.out (by rw[<- nY.out];exact aD))⟩⟩
     clear ha hg ht jN aC aG fQ h2 h5 hout
     go_wp2_with (first
      |(refine nR rfl _ rfl x rfl H2.out H5.out ?_)
      |(at_builtin;go_loud (refine Ns rfl _ _ rfl (w.heap.size+1) _ l t x w4.heap.size rfl rfl nP.out uT.out (zbO w4 _) ?c1 ?c2 ?_)))
     case c1=>omega
     case c2=>simp;omega
     intro v' w5 hk5 hgrow;have tV:=hh9 hk5;have bQ:=hh9 (zti nP.out bf.out hgrow (by omega));have dR:=hh9 (Nt nP.out bD.out hgrow (by omega));have fT:=hh9 (Nu nP.out HR4.out hgrow (by omega));clear hk5 hgrow nP bf bD HR4 uT H2 H5;go_wp2_with fail
     go_roundw
     case rel=>exact⟨q3,c3,l++[t],tV.out,by simp,bQ.out,dR.out,fT.out,HST.out.2⟩
     case measure =>
      rw[HM.out,bQ.out.meas];simp only[if_true];have:=HST.out.1;split
      ·rename_i g;have:=this g;omega
      ·omega
   ·have hb1:decide (q<q2)=false:=zbM hlt;have HO:Hid (iF true s d .fV p (uj 2 l) q 0):=.inl ⟨rfl,hpq,aR,aF.out _ (aK.dS (f:=rd s) (d:=d) (p:=q) (l:=l) (by rw[<- nY.out];exact fun h=>hlt h.1))⟩;obtain⟨d0,d1,d2,y0,y1,y2⟩:=HA2.out.cells;have HA:=hh9 (HA2.out.put (x:=(q:Int)) (q:=q) rfl);have HG:=hh9 (fu HG2.out 1 (.int .i64 (q:Int)));have HK:=hh9 (jG.out.grown (fu (iq w2 (some R)) 1 (.int .i64 (q:Int))) (by omega));have aV:=hh9 (bG dL.out (fu (iq w2 (some R)) 1 (.int .i64 (q:Int))) (by omega));rw[hb1];clear HA2 HG2 jG dL;by_cases hone:∃ t1,l=[t1]
    ·obtain⟨t1,rfl⟩:=hone;obtain⟨vs,hl,hr,ht⟩:=HK.out
     obtain⟨x,rfl⟩:∃ x,vs=[x]:=by
      match vs,hl with
      |[x],_=>exact⟨x,rfl⟩
     have hx:=(ht 0 x t1 rfl rfl).weak (P':=fun b=>w.heap.size+1<=b) (fun b hP _=>hP.1);obtain⟨g,cap,rfl⟩:=(fB hr).resolve_left (fun h=>by cases h.2);have e0:=eZ hr (j:=0) rfl;have e1:=eZ hr (j:=1) rfl;have e2:=eZ hr (j:=2) rfl;have e3:=eZ hr (j:=3) rfl;have e4:=eZ hr (j:=4) rfl;have e5:=eZ hr (j:=5) rfl;obtain⟨hbg,hcap,hmax,hg⟩:=iX hr;have HT:=hh9 hx;obtain⟨x0,x1,x2,x3,x4,x5⟩:=x;have HS2:Hid (Value.oneCell' x2=true):=fq HT.out;have yX:Hid (Value.oneCell' x5=true):=eU HT.out;have jv:=hh9 (HO.out);clear hr ht hx hl HK;go_wp2_with (refine bA rfl _ _ rfl w.heap.size ⟨x0,x1,x2,x3,x4,x5⟩ rfl rfl aV.out HS2.out yX.out ?_)
     exact bodyPost_ret_by (zag rfl _ _ w.heap.size ⟨x0,x1,x2,x3,x4,x5⟩ rfl aV.out) rfl (Bc HT.out HA.out HG.out hR jv.out)
    ·have hn:l.length≠1:=fun h=>hone (by
      match l,h with
      |[t1],_=>exact⟨t1,rfl⟩)
     have HT:=hh9 (HK.out.tree 2 0 0);have jv:=hh9 (HO.out);rw[Ia _ hn]at jv;obtain⟨vs,hl,hr,ht⟩:=HK.out;obtain⟨n,hln⟩:∃ n,n=l.length:=⟨_,rfl⟩
     have hq:decide ((n:Int)=1)=false:=H9 (by omega);have hq2:((n:Int)==1)=false:=by simp;omega
     have hn2:n<=60000:=by omega
     obtain⟨g,cap,rfl⟩:=(fB hr).resolve_left (fun h=>by omega);rw[<- hln]at HT ⊢;clear hr ht hl hone hn hln HK;go_wp2_with (refine bA rfl _ _ rfl w.heap.size ⟨2,⟨#[]⟩,.slice none 0 0,0,0,.slice (some ⟨g,0,none⟩) n cap⟩ rfl rfl aV.out rfl rfl ?_)
     exact bodyPost_ret_by (zag rfl _ _ w.heap.size ⟨2,⟨#[]⟩,.slice none 0 0,0,0,.slice (some ⟨g,0,none⟩) n cap⟩ rfl aV.out) rfl (Bc HT.out HA.out HG.out hR jv.out)
  ·have HO:Hid (iF true s d .fV p (uj 2 l) q c):=.inr ⟨hc,qV,aD⟩;have qc:(c==0)=false:=by simpa using hc
   clear aD HI;by_cases hone:∃ t1,l=[t1]
   ·obtain⟨t1,rfl⟩:=hone;obtain⟨vs,hl,hr,ht⟩:=HK.out
    obtain⟨x,rfl⟩:∃ x,vs=[x]:=by
     match vs,hl with
     |[x],_=>exact⟨x,rfl⟩
    have hx:=(ht 0 x t1 rfl rfl).weak (P':=fun b=>w.heap.size+1<=b) (fun b hP _=>hP.1);obtain⟨g,cap,rfl⟩:=(fB hr).resolve_left (fun h=>by cases h.2);have e0:=eZ hr (j:=0) rfl;have e1:=eZ hr (j:=1) rfl;have e2:=eZ hr (j:=2) rfl;have e3:=eZ hr (j:=3) rfl;have e4:=eZ hr (j:=4) rfl;have e5:=eZ hr (j:=5) rfl;obtain⟨hbg,hcap,hmax,hg⟩:=iX hr;have HT:=hh9 hx;obtain⟨x0,x1,x2,x3,x4,x5⟩:=x;have HS2:Hid (Value.oneCell' x2=true):=fq HT.out;have yX:Hid (Value.oneCell' x5=true):=eU HT.out;have jv:=hh9 (HO.out);clear hr ht hx hl HK;go_wp2_with (refine bA rfl _ _ rfl w.heap.size ⟨x0,x1,x2,x3,x4,x5⟩ rfl rfl aV.out HS2.out yX.out ?_)
    exact bodyPost_ret_by (zag rfl _ _ w.heap.size ⟨x0,x1,x2,x3,x4,x5⟩ rfl aV.out) rfl (Bc HT.out HA.out HG.out hR jv.out)
   ·have hn:l.length≠1:=fun h=>hone (by
     match l,h with
     |[t1],_=>exact⟨t1,rfl⟩)
    have HT:=hh9 (HK.out.tree 2 0 0);have jv:=hh9 (HO.out);rw[Ia _ hn]at jv;obtain⟨vs,hl,hr,ht⟩:=HK.out;obtain⟨n,hln⟩:∃ n,n=l.length:=⟨_,rfl⟩
    have hq:decide ((n:Int)=1)=false:=H9 (by omega);have hq2:((n:Int)==1)=false:=by simp;omega
    have hn2:n<=60000:=by omega
    obtain⟨g,cap,rfl⟩:=(fB hr).resolve_left (fun h=>by omega);rw[<- hln]at HT ⊢;clear hr ht hl hone hn hln HK;go_wp2_with (refine bA rfl _ _ rfl w.heap.size ⟨2,⟨#[]⟩,.slice none 0 0,0,0,.slice (some ⟨g,0,none⟩) n cap⟩ rfl rfl aV.out rfl rfl ?_)
    exact bodyPost_ret_by (zag rfl _ _ w.heap.size ⟨2,⟨#[]⟩,.slice none 0 0,0,0,.slice (some ⟨g,0,none⟩) n cap⟩ rfl aV.out) rfl (Bc HT.out HA.out HG.out hR jv.out)
end Go.Proofs.YtahibnnhjahmnaaGreatDoor
