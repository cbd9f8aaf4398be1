/- Part 33 of what the laws of the grammar rest on. -/
import Derived.Test.YtahibnnhjahmnaaGreatDoorA32
set_option linter.all false
set_option maxRecDepth 100000
set_option maxHeartbeats 8000000
namespace Go.Proofs.YtahibnnhjahmnaaGreatDoor
open Go.RowKit
structure wz (w W:World) (lo hi:Int) (s:ByteArray) (ns ks:Value) (g off:Nat) (k' lo' hi':Int) (s':ByteArray) (ns' ks':Value):Prop where
 arg:X6 W w.heap.size 3 lo hi s ns ks
 kid:EM W g off k' lo' hi' s' ns' ks'
 below:Below w.heap.size w W
theorem wz.under{w W W1:World}{lo hi:Int}{s:ByteArray}{ns ks:Value}{g off:Nat}{k' lo' hi':Int}{s':ByteArray}{ns' ks':Value}(h:wz w W lo hi s ns ks g off k' lo' hi' s' ns' ks')(hb:Below W.heap.size W W1):wz w W1 lo hi s ns ks g off k' lo' hi' s' ns' ks':=⟨h.arg.under hb,h.kid.below hb,aJ h.below hb⟩
theorem zqa(d:Nat)(x ns:List Int)(lo hi:Int)(u:Tree):aI (d+1) (.mk 3 x ns lo hi [u])=if lo=0/\hi=1 then [91]++aI d u++[93] else cB lo hi++dD (u.kind==1||u.kind==2||u.kind==3) (aI d u):=by
 rw[aI,tL,if_neg (by decide),if_neg (by decide),if_pos rfl];simp
theorem UQ{d:Nat}(ih:Ei d){w:World}{X:XV}{x ns:List Int}{lo hi:Int}{u:Tree}(h:aM w X (.mk 3 x ns lo hi [u]))(hc:dN lo hi=true)(hr:dK d u=true)(hl:(aI d u).length<=1000000000000) :
  Calls Tryz.prog 54 #[X.val] w (nJ (aI (d+1) (.mk 3 x ns lo hi [u])) w):=by
 rw[zqa];obtain⟨h0c,h1c,h2c⟩:=WZ hc
 cases h with
 |@mk _ _ _ nv kv _ _ _ vs h0 hl0 h1 h2 h3 h4 =>
  rcases h2 with ⟨g0,_⟩|⟨g,off,cap,rfl,g1,g2,g3,g4⟩
  ·simp at g0
  ·have g1:1<=cap:=g1;obtain⟨a,ca,rfl,hm⟩:=h1.slice
   match vs,h3 with
   |[Y],_ =>
   have hY:=h4 0 Y u rfl rfl;have sF:EM w g off Y.kind Y.lo Y.hi Y.text Y.ns Y.ks:=⟨g4 0 _ rfl,g4 1 _ rfl,g4 2 _ rfl,g4 3 _ rfl,g4 4 _ rfl,g4 5 _ rfl⟩
   unfold maxLen at g2;have hb:=(zbE w.heap.size w).alloc (zbA _) (aB 3 lo hi (ak x) (.slice a ns.length ca) (.slice (some ⟨g,off,none⟩) 1 cap))
   have hR:wz w (w.alloc (aB 3 lo hi (ak x) (.slice a ns.length ca) (.slice (some ⟨g,off,none⟩) 1 cap))) lo hi (ak x) (.slice a ns.length ca) (.slice (some ⟨g,off,none⟩) 1 cap) g off Y.kind Y.lo Y.hi Y.text Y.ns Y.ks :=
    ⟨X6.new w 3 lo hi (ak x) (.slice a ns.length ca) (.slice (some ⟨g,off,none⟩) 1 cap),sF.below hb,hb⟩
   have kF:=hh9 (fun W' (hb':Below w.heap.size w W')=>ih W' Y u (hY.under hb') hr hl);have HI:=hh9 (fun W' (hb':Below w.heap.size w W')=>UN ih (hY.under hb') hr hl true true true);have CF:((u.kind==1&&true)||(u.kind==2&&true)||(u.kind==3&&true))=(u.kind==1||u.kind==2||u.kind==3):=by cases (u.kind==1)<;>cases (u.kind==2)<;>cases (u.kind==3)<;>rfl
   rw[CF]at HI;have hsz:(ak (aI d u)).size<=1000000000000:=by rw[eP];exact hl
   have hb3:=JK (u.kind==1||u.kind==2||u.kind==3) (aI d u);unfold aB at hR;obtain⟨a0,a1,a2,a3,a4,a5⟩:=hR.arg.cells;obtain⟨b0,b1,b2,b3,b4,b5⟩:=hR.kid;have HR:=hh9 hR;obtain⟨k,s,pI,lo',hi',kv'⟩:=Y;simp only[]at b0 b1 b2 b3 b4 b5 HR;show Calls _ _ #[.agg #[.int .i64 3,.string (ak x),.slice a ns.length ca,.int .i64 lo,.int .i64 hi,.slice (some ⟨g,off,none⟩) 1 cap]] w _
   by_cases hq:lo=0/\hi=1
   ·rw[if_pos hq];obtain⟨rfl,rfl⟩:=hq;obtain⟨S,hS⟩:∃ S,S=ak (aI d u):=⟨_,rfl⟩
    have BR:=hh9 (show ((⟨#[91]⟩:ByteArray)++S)++⟨#[93]⟩=ak ([91]++aI d u++[93]) by
     rw[hS,show (⟨#[91]⟩:ByteArray)=ak [91]from rfl,show (⟨#[93]⟩:ByteArray)=ak [93]from rfl,eT,eT])
    have lu:Hid (∀ W',Below w.heap.size w W'->Calls Tryz.prog 54 #[.agg #[.int .i64 k,.string s,pI,.int .i64 lo',.int .i64 hi',kv']] W' (fun e w'=>e=.returned (.string S)/\Below W'.heap.size W' w')):=by rw[hS];exact kF
    rw[<- hS]at hsz;clear hS h0 hl0 h1 h4 g4 hY sF hr hl ih hb kF hc h3 HI CF hb3 hR h0c h1c h2c;go_enter Tryz.func54,Tryz.ntmps54;go_wp2_with fail
    refine(lu.out _ HR.out.below).mono ?_;rintro e w1 ⟨rfl,hb⟩;have HB1:=hh9 (aJ HR.out.below hb);clear hb a0 a1 a2 a3 a4 a5 b0 b1 b2 b3 b4 b5;go_wp2_with fail
    go_ret;exact⟨congrArg (fun u=>Ending.returned (Value.string u)) BR.out,HB1.out⟩
   ·rw[if_neg hq];obtain⟨E,hE⟩:∃ E,E=ak (dD (u.kind==1||u.kind==2||u.kind==3) (aI d u)):=⟨_,rfl⟩
    have Rb:E.size<=1000000000002:=by rw[hE,eP];omega
    have HI2:Hid (∀ W',Below w.heap.size w W'->Calls Tryz.prog 77 #[.agg #[.int .i64 k,.string s,pI,.int .i64 lo',.int .i64 hi',kv'],.bool true,.bool true,.bool true] W' (fun e w'=>e=.returned (.string E)/\Below W'.heap.size W' w')):=by rw[hE];exact HI
    have e42:(⟨#[42]⟩:ByteArray)=ak [42]:=rfl;have e0:(⟨#[]⟩:ByteArray)=ak []:=rfl;have HDL:=hh9 (fun W=>qck (n:=lo) h0c h1c W);have Aw:=fun (g:0<lo)=>EI (n:=lo) (by omega) h1c
    obtain⟨A,hA⟩:∃ A,A=ak (fA lo.toNat):=⟨_,rfl⟩
    have F9:Hid (∀ W,Calls Tryz.prog 78 #[.int .i64 lo] W (fun e w'=>e=.returned (.string A)/\Below W.heap.size W w')):=by rw[hA];exact HDL
    have hAs:0<lo->A.size<=3:=fun g=>by rw[hA,eP];exact Aw g
    obtain⟨B,hB⟩:∃ B,B=ak (fA hi.toNat):=⟨_,rfl⟩
    have UR:Hid (0<=hi->hi<=200->∀ W,Calls Tryz.prog 78 #[.int .i64 hi] W (fun e w'=>e=.returned (.string B)/\Below W.heap.size W w')):=by rw[hB];exact fun g1 g2 W=>qck (n:=hi) g1 g2 W
    have BQ:0<=hi->hi<=200->B.size<=3:=fun g1 g2=>by rw[hB,eP];exact EI (n:=hi) g1 g2
    have HE:=hh9 (fun (g0:¬ hi=0) (g1:¬ hi=lo)=>show cB lo hi=(if 0<lo then fA lo.toNat else [])++([42]++(if 0<=hi then fA hi.toNat else [])) by unfold cB;rw[if_neg g0,if_neg g1]);clear h0 hl0 h1 h4 g4 hY sF hr hl ih hb kF hc h3 HI CF hb3 hR HDL Aw hsz;by_cases g0:hi=0
    ·have z:lo=0:=by omega
     subst z;subst g0;have hC:(⟨#[48]⟩:ByteArray)=ak (cB 0 0):=rfl;have ay:=hh9 (show (⟨#[48]⟩:ByteArray)++E=ak (cB 0 0++dD (u.kind==1||u.kind==2||u.kind==3) (aI d u)) from(show (⟨#[48]⟩:ByteArray)++E=_ by rw[hC,hE,eT]));clear hC hE hA hB;go_enter Tryz.func54,Tryz.ntmps54;go_wp2_with fail
     refine(HI2.out _ HR.out.below).mono ?_;rintro e w1 ⟨rfl,hb⟩;have HB:=hh9 (aJ HR.out.below hb);clear hb a0 a1 a2 a3 a4 a5 b0 b1 b2 b3 b4 b5;go_wp2_with fail
     go_ret;exact⟨congrArg (fun u=>Ending.returned (Value.string u)) ay.out,HB.out⟩
    ·have qz:(hi==0)=false:=by simp;omega
     by_cases g1:hi=lo
     ·subst g1;have gp:0<hi:=by omega
      have q1:decide (0<hi)=true:=zbN gp;have hAs:=hAs gp;have hC:A=ak (cB hi hi):=by unfold cB;rw[if_neg g0,if_pos gp,if_pos rfl,List.append_nil];exact hA
      clear UR HE;have ay:=hh9 (show A++E=ak (cB hi hi++dD (u.kind==1||u.kind==2||u.kind==3) (aI d u)) from(show A++E=_ by rw[hC,hE,eT]));clear hC hE hA hB;go_enter Tryz.func54,Tryz.ntmps54;go_wp2_with fail
      refine(F9.out _).mono ?_;rintro e w1 ⟨rfl,hb⟩;have HR1:=hh9 (HR.out.under hb);clear hb a0 a1 a2 a3 a4 a5 b0 b1 b2 b3 b4 b5;obtain⟨a0,a1,a2,a3,a4,a5⟩:=HR1.out.arg.cells;obtain⟨b0,b1,b2,b3,b4,b5⟩:=HR1.out.kid;go_wp2_with fail
      refine(HI2.out _ HR1.out.below).mono ?_;rintro e w2 ⟨rfl,hb⟩;have HB:=hh9 (aJ HR1.out.below hb);clear hb a0 a1 a2 a3 a4 a5 b0 b1 b2 b3 b4 b5;go_wp2_with fail
      go_ret;exact⟨congrArg (fun u=>Ending.returned (Value.string u)) ay.out,HB.out⟩
     ·have q1:(hi==lo)=false:=by simp;omega
      have HE:=HE.out g0 g1;by_cases gl:0<lo
      ·have ql:decide (0<lo)=true:=zbN gl;have q2:(lo==0)=false:=by simp;omega
       have hAs:=hAs gl;have hs1:(A++(⟨#[42]⟩:ByteArray)).size<=4:=by rw[ByteArray.size_append];show A.size+1<=_;omega
       by_cases gh:0<=hi
       ·have qh:decide (0<=hi)=true:=zbN gh;have yJ:hi<=200:=by omega
        have BQ:=BQ gh yJ;have hs2:((A++(⟨#[42]⟩:ByteArray))++B).size<=7:=by rw[ByteArray.size_append];omega
        have hC:(A++(⟨#[42]⟩:ByteArray))++B=ak (cB lo hi):=by
         rw[HE,if_pos gl,if_pos gh,hA,hB,e42,eT,eT,List.append_assoc]
        clear HE e42 e0;have ay:=hh9 (show ((A++(⟨#[42]⟩:ByteArray))++B)++E=ak (cB lo hi++dD (u.kind==1||u.kind==2||u.kind==3) (aI d u)) from(show ((A++(⟨#[42]⟩:ByteArray))++B)++E=_ by rw[hC,hE,eT]));clear hC hE hA hB;go_enter Tryz.func54,Tryz.ntmps54;go_wp2_with fail
        refine(F9.out _).mono ?_;rintro e w1 ⟨rfl,hb⟩;have HR1:=hh9 (HR.out.under hb);clear hb a0 a1 a2 a3 a4 a5 b0 b1 b2 b3 b4 b5;obtain⟨a0,a1,a2,a3,a4,a5⟩:=HR1.out.arg.cells;obtain⟨b0,b1,b2,b3,b4,b5⟩:=HR1.out.kid;go_wp2_with fail
        refine(UR.out gh yJ _).mono ?_;rintro e w2 ⟨rfl,hb⟩;have HR2:=hh9 (HR1.out.under hb);clear hb a0 a1 a2 a3 a4 a5 b0 b1 b2 b3 b4 b5;obtain⟨a0,a1,a2,a3,a4,a5⟩:=HR2.out.arg.cells;obtain⟨b0,b1,b2,b3,b4,b5⟩:=HR2.out.kid;go_wp2_with fail
        refine(HI2.out _ HR2.out.below).mono ?_;rintro e w3 ⟨rfl,hb⟩;have HB:=hh9 (aJ HR2.out.below hb);clear hb a0 a1 a2 a3 a4 a5 b0 b1 b2 b3 b4 b5;go_wp2_with fail
        go_ret;exact⟨congrArg (fun u=>Ending.returned (Value.string u)) ay.out,HB.out⟩
       ·have qh:decide (0<=hi)=false:=zbM gh
        have hC:A++(⟨#[42]⟩:ByteArray)=ak (cB lo hi):=by
         rw[HE,if_pos gl,if_neg gh,List.append_nil,hA,e42,eT]
        clear HE e42 e0;have ay:=hh9 (show (A++(⟨#[42]⟩:ByteArray))++E=ak (cB lo hi++dD (u.kind==1||u.kind==2||u.kind==3) (aI d u)) from(show (A++(⟨#[42]⟩:ByteArray))++E=_ by rw[hC,hE,eT]));clear hC hE hA hB;go_enter Tryz.func54,Tryz.ntmps54;go_wp2_with fail
        refine(F9.out _).mono ?_;rintro e w1 ⟨rfl,hb⟩;have HR1:=hh9 (HR.out.under hb);clear hb a0 a1 a2 a3 a4 a5 b0 b1 b2 b3 b4 b5;obtain⟨a0,a1,a2,a3,a4,a5⟩:=HR1.out.arg.cells;obtain⟨b0,b1,b2,b3,b4,b5⟩:=HR1.out.kid;go_wp2_with fail
        refine(HI2.out _ HR1.out.below).mono ?_;rintro e w2 ⟨rfl,hb⟩;have HB:=hh9 (aJ HR1.out.below hb);clear hb a0 a1 a2 a3 a4 a5 b0 b1 b2 b3 b4 b5;go_wp2_with fail
        go_ret;exact⟨congrArg (fun u=>Ending.returned (Value.string u)) ay.out,HB.out⟩
      ·have ql:decide (0<lo)=false:=zbM gl;have zl:lo=0:=by omega
       subst zl;have q3:(hi==1)=false:=by simp;omega
       have hs1:((⟨#[]⟩:ByteArray)++(⟨#[42]⟩:ByteArray)).size<=1:=by decide
       by_cases gh:0<=hi
       ·have qh:decide (0<=hi)=true:=zbN gh;have yJ:hi<=200:=by omega
        have BQ:=BQ gh yJ;have hs2:(((⟨#[]⟩:ByteArray)++(⟨#[42]⟩:ByteArray))++B).size<=4:=by rw[ByteArray.size_append];omega
        have hC:((⟨#[]⟩:ByteArray)++(⟨#[42]⟩:ByteArray))++B=ak (cB 0 hi):=by
         rw[HE,if_neg gl,if_pos gh,hB,e42,e0,eT,eT];rfl
        clear HE e42 e0;have ay:=hh9 (show (((⟨#[]⟩:ByteArray)++(⟨#[42]⟩:ByteArray))++B)++E=ak (cB 0 hi++dD (u.kind==1||u.kind==2||u.kind==3) (aI d u)) from(show (((⟨#[]⟩:ByteArray)++(⟨#[42]⟩:ByteArray))++B)++E=_ by rw[hC,hE,eT]));clear hC hE hA hB;go_enter Tryz.func54,Tryz.ntmps54;go_wp2_with fail
        refine(UR.out gh yJ _).mono ?_;rintro e w1 ⟨rfl,hb⟩;have HR1:=hh9 (HR.out.under hb);clear hb a0 a1 a2 a3 a4 a5 b0 b1 b2 b3 b4 b5;obtain⟨a0,a1,a2,a3,a4,a5⟩:=HR1.out.arg.cells;obtain⟨b0,b1,b2,b3,b4,b5⟩:=HR1.out.kid;go_wp2_with fail
        refine(HI2.out _ HR1.out.below).mono ?_;rintro e w2 ⟨rfl,hb⟩;have HB:=hh9 (aJ HR1.out.below hb);clear hb a0 a1 a2 a3 a4 a5 b0 b1 b2 b3 b4 b5;go_wp2_with fail
        go_ret;exact⟨congrArg (fun u=>Ending.returned (Value.string u)) ay.out,HB.out⟩
       ·have qh:decide (0<=hi)=false:=zbM gh
        have hC:(⟨#[]⟩:ByteArray)++(⟨#[42]⟩:ByteArray)=ak (cB 0 hi):=by
         rw[HE,if_neg gl,if_neg gh];rfl
        clear HE e42 e0;have ay:=hh9 (show ((⟨#[]⟩:ByteArray)++(⟨#[42]⟩:ByteArray))++E=ak (cB 0 hi++dD (u.kind==1||u.kind==2||u.kind==3) (aI d u)) from(show ((⟨#[]⟩:ByteArray)++(⟨#[42]⟩:ByteArray))++E=_ by rw[hC,hE,eT]));clear hC hE hA hB;go_enter Tryz.func54,Tryz.ntmps54;go_wp2_with fail
        refine(HI2.out _ HR.out.below).mono ?_;rintro e w1 ⟨rfl,hb⟩;have HB:=hh9 (aJ HR.out.below hb);clear hb a0 a1 a2 a3 a4 a5 b0 b1 b2 b3 b4 b5;go_wp2_with fail
        go_ret;exact⟨congrArg (fun u=>Ending.returned (Value.string u)) ay.out,HB.out⟩
theorem zn4{d:Nat}{w:World}{X:XV}{k lo hi:Int}{x ns:List Int}(h:aM w X (.mk k x ns lo hi []))(hf:oo k x ns lo hi 0=true)(hl:(aI d (.mk k x ns lo hi [])).length<=1000000000000) :
  Calls Tryz.prog 54 #[X.val] w (nJ (aI d (.mk k x ns lo hi [])) w):=by
 unfold oo at hf;by_cases k12:k=1\/k=2
 ·rw[if_pos k12]at hf;simp at hf
 rw[if_neg k12]at hf;by_cases k3:k=3
 ·rw[if_pos k3]at hf;simp at hf
 rw[if_neg k3]at hf;have qZ:=Q7 d k lo hi x ns ⟨fun e=>k12 (.inl e),fun e=>k12 (.inr e),k3⟩;rw[qZ]at hl ⊢;clear qZ
 cases h with
 |@mk _ _ _ nv kv _ _ _ vs h0 hl0 h1 h2 h3 h4 =>
 obtain⟨a,ca,rfl,hm⟩:=h1.slice;obtain⟨c,cc,rfl,_⟩:=h2.slice;have hX:=fU.new w k lo hi (ak x) (.slice a ns.length ca) (.slice c ([]:List Tree).length cc);unfold aB at hX;have HX:=hh9 hX;show Calls _ _ #[.agg #[.int .i64 k,.string (ak x),.slice a ns.length ca,.int .i64 lo,.int .i64 hi,.slice c ([]:List Tree).length cc]] w _
 by_cases k4:k=4
 ·rw[if_pos k4];subst k4;obtain⟨a0,a1,a2,a3,a4,a5⟩:=hX.arg.cells;clear hX h0 h1 h4 h3 hf h2;go_enter Tryz.func54,Tryz.ntmps54;go_wp2_with fail
  go_ret;exact⟨rfl,HX.out.below⟩
 rw[if_neg k4]at hf hl ⊢;by_cases k5:k=5
 ·rw[if_pos k5]at hl ⊢;subst k5
  have hsz:(ak x).size<=1000000000000:=by
   rw[eP];simp only[zbG]at hl;omega
  obtain⟨S,hS⟩:∃ S,S=ak x:=⟨_,rfl⟩
  have ay:=hh9 (show ((⟨#[34]⟩:ByteArray)++S)++⟨#[34]⟩=ak ([34]++x++[34]) by
   rw[hS,show (⟨#[34]⟩:ByteArray)=ak [34]from rfl,eT,eT])
  rw[<- hS]at hsz HX hX ⊢;obtain⟨a0,a1,a2,a3,a4,a5⟩:=hX.arg.cells;clear hX h0 h1 h4 h3 hf h2 hl hS;go_enter Tryz.func54,Tryz.ntmps54;go_wp2_with fail
  go_ret;exact⟨congrArg (fun u=>Ending.returned (Value.string u)) ay.out,HX.out.below⟩
 rw[if_neg k5]at hf hl ⊢;by_cases k6:k=6
 ·rw[if_pos k6]at hf hl ⊢;simp only[zbJ,decide_eq_true_eq]at hf;subst k6;exact qdp (n0:=0) h1 hf.2 hf.1.1.2 hl
 rw[if_neg k6]at hf hl ⊢;by_cases k7:k=7
 ·rw[if_pos k7]at hf;simp only[zbJ,decide_eq_true_eq]at hf;subst k7;exact qdq (n0:=0) h1 hf.1.2 (by omega) hl
 rw[if_neg k7]at hf
 cases hf
theorem zv7:Ei 0:=by
 intro W X t h hr hl;obtain⟨k,x,ns,lo,hi,kids⟩:=t;unfold dK at hr;simp only[zbJ,List.isEmpty_iff]at hr;obtain⟨h1,rfl⟩:=hr;exact zn4 h h1 hl
theorem zv8{d:Nat}(ih:Ei d):Ei (d+1):=by
 intro w X t h hr hl;obtain⟨k,x,ns,lo,hi,kids⟩:=t;unfold dK at hr;simp only[zbJ,List.all_eq_true]at hr;obtain⟨hf,hk⟩:=hr;by_cases k12:k=1\/k=2
 ·have hn:2<=kids.length:=by
   unfold oo at hf;rw[if_pos k12]at hf;simp only[zbJ,decide_eq_true_eq]at hf;exact hf.2
  cases h with
  |@mk _ _ _ nv kv _ _ _ vs h0 hl0 h1 h2 h3 h4 =>
  obtain⟨a,ca,rfl,hm⟩:=h1.slice;obtain⟨c,cc,rfl,hm2⟩:=h2.slice;have hK:pX w (.slice c kids.length cc) vs kids:=⟨h2,h3,h4⟩
  have hn2:kids.length<=9223372036854775807:=by
   rcases h2 with ⟨g0,_⟩|⟨g,off,cap,hv,g1,g2,g3,g4⟩
   ·omega
   ·unfold maxLen at g2;omega
  rcases k12 with rfl|rfl
  ·have qZ:aI (d+1) (.mk 1 x ns lo hi kids)=[]++aO [32,47,32] (kids.map fun t=>dD (t.kind==1) (aI d t)):=by
    rw[aI,tL,if_pos rfl];rfl
   rw[qZ]at hl ⊢;exact qf2 (n0:=0) ih hK hk hn hn2 hl
  ·have qZ:aI (d+1) (.mk 2 x ns lo hi kids)=[]++aO [32] (kids.map fun t=>dD (t.kind==1||t.kind==2) (aI d t)):=by
    rw[aI,tL,if_neg (by decide),if_pos rfl];rfl
   rw[qZ]at hl ⊢;exact qf3 (n0:=0) ih hK hk hn hn2 hl
 by_cases k3:k=3
 ·subst k3;unfold oo at hf;rw[if_neg k12,if_pos rfl]at hf;simp only[zbJ,decide_eq_true_eq]at hf
  match kids,hf.1.2 with
  |[u],_ =>
   have NP:(aI d u).length<=1000000000000:=by
    rw[zqa]at hl;split at hl
    ·simp only[zbG]at hl;omega
    ·have:=JW (u.kind==1||u.kind==2||u.kind==3) (aI d u);simp only[zbG]at hl;omega
   exact UQ ih h hf.2 (hk u (by simp)) NP
 ·have hk0:kids=[]:=by
   unfold oo at hf;rw[if_neg k12,if_neg k3]at hf;by_cases k4:k=4
   ·rw[if_pos k4]at hf;simp only[zbJ,decide_eq_true_eq]at hf;exact List.length_eq_zero_iff.1 hf.1.2
   rw[if_neg k4]at hf;by_cases k5:k=5
   ·rw[if_pos k5]at hf;simp only[zbJ,decide_eq_true_eq]at hf;exact List.length_eq_zero_iff.1 hf.1.2
   rw[if_neg k5]at hf;by_cases k6:k=6
   ·rw[if_pos k6]at hf;simp only[zbJ,decide_eq_true_eq]at hf;exact List.length_eq_zero_iff.1 hf.1.1.1.2
   rw[if_neg k6]at hf;by_cases k7:k=7
   ·rw[if_pos k7]at hf;simp only[zbJ,decide_eq_true_eq]at hf;exact List.length_eq_zero_iff.1 hf.1.1.1.2
   rw[if_neg k7]at hf
   cases hf
  subst hk0;exact zn4 h hf hl
theorem zqb:∀ d,Ei d
 |0=>zv7
 |d+1=>zv8 (zqb d)
end Go.Proofs.YtahibnnhjahmnaaGreatDoor
