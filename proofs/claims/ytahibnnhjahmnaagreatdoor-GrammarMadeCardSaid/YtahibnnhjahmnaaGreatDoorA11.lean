/- Part 11 of what the laws of the grammar rest on. -/
import Derived.Test.YtahibnnhjahmnaaGreatDoorA10
set_option linter.all false
set_option maxRecDepth 100000
set_option maxHeartbeats 8000000
namespace Go.Proofs.YtahibnnhjahmnaaGreatDoor
open Go.RowKit
theorem JV(k:Int):eF [1] k=(k==1):=by
 unfold eF;by_cases h:k=1
 ·subst h;rfl
 ·have h1:((1:Int)==k)=false:=by simp;omega
  have h2:(k==1)=false:=by simp;omega
  simp[h1,h2]
theorem qeg(k:Int):eF [1,2] k=(k==1||k==2):=by
 unfold eF;by_cases h:k=1
 ·subst h;rfl
 ·by_cases g:k=2
  ·subst g;rfl
  ·have h1:((1:Int)==k)=false:=by simp;omega
   have h2:(k==1)=false:=by simp;omega
   have g1:((2:Int)==k)=false:=by simp;omega
   have g2:(k==2)=false:=by simp;omega
   simp[h1,h2,g1,g2]
theorem qd1(k:Int):eF [1,2,3] k=(k==1||k==2||k==3):=by
 unfold eF;by_cases h:k=1
 ·subst h;rfl
 ·by_cases g:k=2
  ·subst g;rfl
  ·by_cases f:k=3
   ·subst f;rfl
   ·have h1:((1:Int)==k)=false:=by simp;omega
    have h2:(k==1)=false:=by simp;omega
    have g1:((2:Int)==k)=false:=by simp;omega
    have g2:(k==2)=false:=by simp;omega
    have f1:((3:Int)==k)=false:=by simp;omega
    have f2:(k==3)=false:=by simp;omega
    simp[h1,h2,g1,g2,f1,f2]
def EM(W:World)(g off:Nat)(k lo hi:Int)(s:ByteArray)(ns ks:Value):Prop :=
 W.cell? ⟨g,off,none⟩=some (.int .i64 k)/\W.cell? ⟨g,off+1,none⟩=some (.string s)/\W.cell? ⟨g,off+2,none⟩=some ns/\W.cell? ⟨g,off+3,none⟩=some (.int .i64 lo)/\W.cell? ⟨g,off+4,none⟩=some (.int .i64 hi)/\W.cell? ⟨g,off+5,none⟩=some ks
theorem EM.below{W W':World}{g off:Nat}{k lo hi:Int}{s:ByteArray}{ns ks:Value}(h:EM W g off k lo hi s ns ks)(hb:Below W.heap.size W W'):EM W' g off k lo hi s ns ks :=
 ⟨gu h.1 hb,gu h.2.1 hb,gu h.2.2.1 hb,gu h.2.2.2.1 hb,gu h.2.2.2.2.1 hb,gu h.2.2.2.2.2 hb⟩
def lC(w w1:World)(lo hi:Int)(kv:Value)(g off:Nat)(k lo' hi':Int)(s:ByteArray)(ns' ks':Value)(W:World):Prop :=
 (W.cell? ⟨w.heap.size,3,none⟩=some (.int .i64 lo)/\W.cell? ⟨w.heap.size,4,none⟩=some (.int .i64 hi)/\W.cell? ⟨w.heap.size,5,none⟩=some kv) /\
 (W.cell? ⟨g,off,none⟩=some (.int .i64 k)/\W.cell? ⟨g,off+1,none⟩=some (.string s)/\W.cell? ⟨g,off+2,none⟩=some ns'/\W.cell? ⟨g,off+3,none⟩=some (.int .i64 lo')/\W.cell? ⟨g,off+4,none⟩=some (.int .i64 hi')/\W.cell? ⟨g,off+5,none⟩=some ks')/\Below w.heap.size w W/\Below w1.heap.size w1 W
theorem lC.step{w w1:World}{lo hi:Int}{kv:Value}{g off:Nat}{k lo' hi':Int}{s:ByteArray}{ns' ks':Value}{W W':World}(hb:Below W.heap.size W W')(h:lC w w1 lo hi kv g off k lo' hi' s ns' ks' W):lC w w1 lo hi kv g off k lo' hi' s ns' ks' W' :=
 ⟨⟨gu h.1.1 hb,gu h.1.2.1 hb,gu h.1.2.2 hb⟩,EM.below h.2.1 hb,aJ h.2.2.1 hb,aJ h.2.2.2 hb⟩
theorem lC.drew{w w1:World}{lo hi:Int}{kv:Value}{g off:Nat}{k lo' hi':Int}{s:ByteArray}{ns' ks':Value}{W:World}(h:lC w w1 lo hi kv g off k lo' hi' s ns' ks' W):lC w w1 lo hi kv g off k lo' hi' s ns' ks' W.drew:=⟨h.1,h.2.1,dJ h.2.2.1 1,dJ h.2.2.2 1⟩
theorem lC.dP{w w1:World}{lo hi:Int}{kv:Value}{g off:Nat}{k lo' hi':Int}{s:ByteArray}{ns' ks':Value}{W:World}(h:lC w w1 lo hi kv g off k lo' hi' s ns' ks' W):Below w.heap.size w W:=h.2.2.1
theorem lC.Ra{w w1:World}{lo hi:Int}{kv:Value}{g off:Nat}{k lo' hi':Int}{s:ByteArray}{ns' ks':Value}{W:World}(h:lC w w1 lo hi kv g off k lo' hi' s ns' ks' W):Below w1.heap.size w1 W:=h.2.2.2
theorem qd2{d:Nat}(ih:Dx d){w:World}{X:XV}{x ns:List Int}{lo hi:Int}{u:Tree}(h:aM w X (.mk 3 x ns lo hi [u]))(hc:dN lo hi=true)(hr:dK d u=true)(hT:gJ w)(hl:(aI d u).length<=1000000000000) :
  Calls Tryz.prog 92 #[X.val] w (nJ (aI (d+1) (.mk 3 x ns lo hi [u])) w):=by
 have qZ:aI (d+1) (.mk 3 x ns lo hi [u])=if lo=0/\hi=1 then [91]++aI d u++[93] else cB lo hi++dD (eF [1,2,3] u.kind) (aI d u):=by
  rw[aI,tL,if_neg (by decide),if_neg (by decide),if_pos rfl,qd1];simp
 rw[qZ]
 cases h with
 |@mk _ _ _ nv kv _ _ _ vs h0 hl0 h1 h2 h3 h4 =>
  rcases h2 with ⟨g0,_⟩|⟨g,off,cap,rfl,g1,g2,g3,g4⟩
  ·simp at g0
  ·have g1:1<=cap:=g1;obtain⟨a,ca,rfl,hm⟩:=h1.slice
   match vs,h3 with
   |[Y],_ =>
   have hY:=h4 0 Y u rfl rfl;have sF:EM w g off Y.kind Y.lo Y.hi Y.text Y.ns Y.ks:=⟨g4 0 _ rfl,g4 1 _ rfl,g4 2 _ rfl,g4 3 _ rfl,g4 4 _ rfl,g4 5 _ rfl⟩
   unfold maxLen at g2;have hb:=(zbE w.heap.size w).alloc (zbA _) (aB 3 lo hi (ak x) (.slice a ns.length ca) (.slice (some ⟨g,off,none⟩) 1 cap));have hX:=X6.new w 3 lo hi (ak x) (.slice a ns.length ca) (.slice (some ⟨g,off,none⟩) 1 cap);have hS2:=sF.below hb;have kF:=hh9 (fun W' (hb':Below w.heap.size w W')=>ih W' Y u (hY.under hb') hr (hT.below hb') hl);have hsz:(ak (aI d u)).size<=1000000000000:=by rw[eP];exact hl
   unfold aB at hb hX hS2;have HB:=hh9 hb;have HX:=hh9 hX;obtain⟨b0,b1,b2,b3,b4,b5⟩:=hS2;obtain⟨a0,a1,a2,a3,a4,a5⟩:=hX.cells;show Calls _ _ #[.agg #[.int .i64 3,.string (ak x),.slice a ns.length ca,.int .i64 lo,.int .i64 hi,.slice (some ⟨g,off,none⟩) 1 cap]] w _
   by_cases hq:lo=0/\hi=1
   ·rw[if_pos hq];obtain⟨rfl,rfl⟩:=hq;obtain⟨S,hS⟩:∃ S,S=ak (aI d u):=⟨_,rfl⟩
    have BR:=hh9 (show ((⟨#[91]⟩:ByteArray)++S)++⟨#[93]⟩=ak ([91]++aI d u++[93]) by
     rw[hS,show (⟨#[91]⟩:ByteArray)=ak [91]from rfl,show (⟨#[93]⟩:ByteArray)=ak [93]from rfl,eT,eT])
    have lu:Hid (∀ W',Below w.heap.size w W'->Calls Tryz.prog 69 #[Y.val] W' (fun e w'=>e=.returned (.string S)/\Below W'.heap.size W' w')):=by rw[hS];exact kF
    rw[<- hS]at hsz;clear hS qZ h0 hl0 h1 h4 g4 hY sF hr hT hl ih hb hX kF hc h3;obtain⟨k,s,pI,lo',hi',kv'⟩:=Y;go_enter Tryz.func92,Tryz.ntmps92;go_wp2_with fail
    refine(lu.out _ HB.out).mono ?_;rintro e w1 ⟨rfl,hb⟩;have HB1:=hh9 (aJ HB.out hb);clear hb;go_wp2_with fail
    go_ret;exact⟨congrArg (fun u=>Ending.returned (Value.string u)) BR.out,HB1.out⟩
   ·rw[if_neg hq];have HE:=hh9 (fun W' K (hb':Below w.heap.size w W') (hK:Ay W' K [1,2,3])=>Xa (d:=d) (K:=K) (xs:=[1,2,3]) ih (hY.under hb') hr (hT.below hb') hl hK);have HC:=hh9 (fun W' (hb':Below w.heap.size w W')=>zwa (lo:=lo) (hi:=hi) hc (hT.below hb'));have hl3:=WU hc;have hb3:=JK (eF [1,2,3] u.kind) (aI d u);obtain⟨C,hC⟩:∃ C,C=ak (cB lo hi):=⟨_,rfl⟩
    obtain⟨E,hE⟩:∃ E,E=ak (dD (eF [1,2,3] u.kind) (aI d u)):=⟨_,rfl⟩
    have hCs:C.size<=7:=by rw[hC,eP];exact hl3
    have Rb:E.size<=1000000000002:=by rw[hE,eP];omega
    have ay:=hh9 (show C++E=ak (cB lo hi++dD (eF [1,2,3] u.kind) (aI d u)) by rw[hC,hE,eT]);have HE2:Hid (∀ W' K,Below w.heap.size w W'->Ay W' K [1,2,3]->Calls Tryz.prog 107 #[Y.val,.pointer (some ⟨K,0,none⟩)] W' (fun e w'=>e=.returned (.string E)/\Below W'.heap.size W' w')):=by rw[hE];exact HE
    have sG:Hid (∀ W',Below w.heap.size w W'->Calls Tryz.prog 109 #[.int .i64 lo,.int .i64 hi] W' (fun e w'=>e=.returned (.string C)/\Below W'.heap.size W' w')):=by rw[hC];exact HC
    have Hq:=hh9 (fun (W:World) (v:Value) (hv:au W v 3 (dA [1,2,3]))=>W9 (xs:=[1,2,3]) hv);have Xv:=hh9 sF;clear hC hE qZ h0 hl0 h1 h4 g4 hY sF hr hT hl ih hb hX kF hc h3 hl3 hb3 HE HC;obtain⟨k,s,pI,lo',hi',kv'⟩:=Y
    have hq2:(lo==0)=false\/((lo==0)=true/\(hi==1)=false):=by
     by_cases e:lo=0
     ·exact .inr ⟨by simpa using e,by simp;omega⟩
     ·exact .inl (by simpa using e)
    rcases hq2 with q0|⟨q0,q1⟩
    all_goals
     go_enter Tryz.func92,Tryz.ntmps92;go_wp2_with fail
     refine(Hq.out _ _ (ints_at (xs:=[1,2,3]) (by decide) (oq _ _ _ (by simp)))).mono ?_;rintro e w1 ⟨K,rfl,hK,hb⟩;have hB1:Below w.heap.size w w1:=(HB.out.alloc HB.out.size (.cells #[.int .i64 1,.int .i64 2,.int .i64 3] 3)).trans (hb.mono (by simp;omega));have hX1:=(HX.out.alloc (.cells #[.int .i64 1,.int .i64 2,.int .i64 3] 3)).under hb;obtain⟨_,_,_,c3,c4,c5⟩:=hX1.cells;obtain⟨d0,d1,d2,d3,d4,d5⟩:=Xv.out.below hB1;have aA:=hh9 hB1;have HK:=hh9 hK;clear hb hX1 hB1 hK a0 a1 a2 a3 a4 a5 b0 b1 b2 b3 b4 b5;have hadd:∀ W:World,(Op.stringOp .add C E).run Tryz.prog W=.ok (.string (C++E)) W:=fun W=>run_string_add_sum W C E (by omega)
     go_wp2_with fail
     go_region_held3 (fun W=>(W.cell? ⟨w.heap.size,3,none⟩=some (.int .i64 lo)/\W.cell? ⟨w.heap.size,4,none⟩=some (.int .i64 hi)/\W.cell? ⟨w.heap.size,5,none⟩=some (.slice (some ⟨g,off,none⟩) 1 cap)) /\
       (W.cell? ⟨g,off,none⟩=some (.int .i64 k)/\W.cell? ⟨g,off+1,none⟩=some (.string s)/\W.cell? ⟨g,off+2,none⟩=some pI/\W.cell? ⟨g,off+3,none⟩=some (.int .i64 lo')/\W.cell? ⟨g,off+4,none⟩=some (.int .i64 hi')/\W.cell? ⟨g,off+5,none⟩=some kv')/\Below w.heap.size w W/\Below w1.heap.size w1 W)
      (first|exact lC.step (by assumption) (by assumption)|exact lC.drew (by assumption)|exact⟨⟨by assumption,by assumption,by assumption⟩,⟨by assumption,by assumption,by assumption,by assumption,by assumption,by assumption⟩,dJ aA.out 1,dJ (zbE _ _) 1⟩)
      (first
       |(go_at_call 109;refine(sG.out _ (lC.dP (by assumption))).mono ?_;rintro e w' ⟨rfl,hb'⟩)
       |(go_at_call 107;refine(HE2.out _ K (lC.dP (by assumption)) (HK.out.below (lC.Ra (by assumption)))).mono ?_;rintro e w' ⟨rfl,hb'⟩))
     rename_i hS;have HB2:=hh9 hS.2.2.1;clear hS c3 c4 c5 d0 d1 d2 d3 d4 d5;go_wp2_with fail
     go_ret;exact⟨congrArg (fun u=>Ending.returned (Value.string u)) ay.out,HB2.out⟩
theorem Xw(s:List Int):∀ (l:List (List Int)) (x:List Int),x∈l->x.length<=(aO s l).length
 |[],x,h=>by simp at h
 |[y],x,h=>by simp at h;subst h;simp[aO]
 |y::z::l,x,h=>by
  rw[List.mem_cons]at h;simp only[aO,zbG];rcases h with rfl|h
  ·omega
  ·have:=Xw s (z::l) x h;omega
theorem Xx(s:List Int)(hs:1<=s.length):∀ (l:List (List Int)),l.length<=(aO s l).length+1
 |[]=>by simp
 |[y]=>by simp[aO]
 |y::z::l=>by
  have:=Xx s hs (z::l);simp only[aO,zbG,List.length_cons]at this ⊢;omega
theorem JW(b:Bool)(x:List Int):x.length<=(dD b x).length:=by
 unfold dD;split
 ·simp;omega
 ·simp
theorem Xy{d:Nat}{w:World}{X:XV}{k lo hi:Int}{x ns:List Int}(h:aM w X (.mk k x ns lo hi []))(hf:oo k x ns lo hi 0=true)(hT:gJ w)(hl:(aI d (.mk k x ns lo hi [])).length<=1000000000000) :
  Calls Tryz.prog 69 #[X.val] w (nJ (aI d (.mk k x ns lo hi [])) w):=by
 unfold oo at hf;by_cases k12:k=1\/k=2
 ·rw[if_pos k12]at hf;simp at hf
 rw[if_neg k12]at hf;by_cases k3:k=3
 ·rw[if_pos k3]at hf;simp at hf
 rw[if_neg k3]at hf;have qZ:=Q7 d k lo hi x ns ⟨fun e=>k12 (.inl e),fun e=>k12 (.inr e),k3⟩;rw[qZ]at hl ⊢;clear qZ
 cases h with
 |@mk _ _ _ nv kv _ _ _ vs h0 hl0 h1 h2 h3 h4 =>
 obtain⟨a,ca,rfl,hm⟩:=h1.slice;obtain⟨c,cc,rfl,_⟩:=h2.slice;have hb:=(zbE w.heap.size w).alloc (zbA _) (aB k lo hi (ak x) (.slice a ns.length ca) (.slice c ([]:List Tree).length cc));have Ak:=hT.below hb;have hv2:=h1.below hb;unfold aB at hb Ak hv2;have HB:=hh9 hb;show Calls _ _ #[.agg #[.int .i64 k,.string (ak x),.slice a ns.length ca,.int .i64 lo,.int .i64 hi,.slice c ([]:List Tree).length cc]] w _
 by_cases k4:k=4
 ·rw[if_pos k4];subst k4;clear Ak hv2 hb hT h0 h1 h4 h3 hf h2;go_enter Tryz.func69,Tryz.ntmps69;go_wp2_with fail
  go_ret;exact⟨rfl,HB.out⟩
 rw[if_neg k4]at hf hl ⊢;by_cases k5:k=5
 ·rw[if_pos k5]at hl ⊢;subst k5
  have hsz:(ak x).size<=1000000000000:=by
   rw[eP];simp only[zbG]at hl;omega
  obtain⟨S,hS⟩:∃ S,S=ak x:=⟨_,rfl⟩
  have ay:=hh9 (show ((⟨#[34]⟩:ByteArray)++S)++⟨#[34]⟩=ak ([34]++x++[34]) by
   rw[hS,show (⟨#[34]⟩:ByteArray)=ak [34]from rfl,eT,eT])
  rw[<- hS]at hsz HB ⊢;clear Ak hv2 hb hT h0 h1 h4 h3 hf h2 hl hS;go_enter Tryz.func69,Tryz.ntmps69;go_wp2_with fail
  go_ret;exact⟨congrArg (fun u=>Ending.returned (Value.string u)) ay.out,HB.out⟩
 rw[if_neg k5]at hf hl ⊢
 have fin:∀ (s:List Int),s.length=1->ns.all bK=true->1<=ns.length->ns.length<=10000->(aO s (ns.map fun n:Int=>aL n.toNat)).length<=1000000000000 ->
   ∃ S:ByteArray,S.size<=1000000000000/\(⟨#[37,120]⟩:ByteArray)++S=ak ([37,120]++aO s (ns.map fun n:Int=>aL n.toNat)) /\
    Hid (Calls Tryz.prog 93 #[.slice a ns.length ca,.string (ak s),.func (Fn.func 94) #[] #[]] (w.alloc (.cells #[.int .i64 k,.string (ak x),.slice a ns.length ca,.int .i64 lo,.int .i64 hi,.slice c ([]:List Tree).length cc] 29)) (fun e w'=>e=.returned (.string S)/\Below (w.alloc (.cells #[.int .i64 k,.string (ak x),.slice a ns.length ca,.int .i64 lo,.int .i64 hi,.slice c ([]:List Tree).length cc] 29)).heap.size (w.alloc (.cells #[.int .i64 k,.string (ak x),.slice a ns.length ca,.int .i64 lo,.int .i64 hi,.slice c ([]:List Tree).length cc] 29)) w')):=fun s hs f1 f2 f3 f4 =>
  ⟨ak (aO s (ns.map fun n:Int=>aL n.toNat)),by rw[eP];exact f4,by rw[show (⟨#[37,120]⟩:ByteArray)=ak [37,120]from rfl,eT],zwb hv2 f1 f2 f3 Ak s hs⟩
 by_cases k6:k=6
 ·rw[if_pos k6]at hf hl ⊢;simp only[zbJ,decide_eq_true_eq]at hf;obtain⟨S,hsz,hfin,HJ⟩:=fin [46] rfl hf.2 hf.1.1.2 hf.1.2 (by simp only[zbG]at hl;omega);have ay:=hh9 hfin;have e46:(⟨#[46]⟩:ByteArray)=ak [46]:=rfl;rw[<- e46]at HJ;subst k6;clear Ak hv2 hb hT h0 h1 h4 h3 hf h2 hl hfin fin e46;go_enter Tryz.func69,Tryz.ntmps69;go_wp2_with fail
  refine HJ.out.mono ?_;rintro e w1 ⟨rfl,hb⟩;have HB1:=hh9 (aJ HB.out hb);clear hb;go_wp2_with fail
  go_ret;exact⟨congrArg (fun u=>Ending.returned (Value.string u)) ay.out,HB1.out⟩
 rw[if_neg k6]at hf hl ⊢;by_cases k7:k=7
 ·rw[if_pos k7]at hf;simp only[zbJ,decide_eq_true_eq]at hf;obtain⟨S,hsz,hfin,HJ⟩:=fin [45] rfl hf.1.2 (by omega) (by omega) (by simp only[zbG]at hl;omega);have ay:=hh9 hfin;have e45:(⟨#[45]⟩:ByteArray)=ak [45]:=rfl;rw[<- e45]at HJ;subst k7;clear Ak hv2 hb hT h0 h1 h4 h3 hf h2 hl hfin fin e45;go_enter Tryz.func69,Tryz.ntmps69;go_wp2_with fail
  refine HJ.out.mono ?_;rintro e w1 ⟨rfl,hb⟩;have HB1:=hh9 (aJ HB.out hb);clear hb;go_wp2_with fail
  go_ret;exact⟨congrArg (fun u=>Ending.returned (Value.string u)) ay.out,HB1.out⟩
 rw[if_neg k7]at hf
 cases hf
theorem zwn{d:Nat}(ih:Dx d){w:World}{X:XV}{k lo hi:Int}{x ns:List Int}{kids:List Tree}(k12:k=1\/k=2)(h:aM w X (.mk k x ns lo hi kids))(hn:2<=kids.length)(hr:∀ t∈kids,dK d t=true)(hT:gJ w)(hl:(aI (d+1) (.mk k x ns lo hi kids)).length<=1000000000000) :
  Calls Tryz.prog 69 #[X.val] w (nJ (aI (d+1) (.mk k x ns lo hi kids)) w):=by
 cases h with
 |@mk _ _ _ nv kv _ _ _ vs h0 hl0 h1 h2 h3 h4 =>
 obtain⟨a,ca,rfl,hm⟩:=h1.slice;obtain⟨c,cc,rfl,_⟩:=h2.slice;have hb:=(zbE w.heap.size w).alloc (zbA _) (aB k lo hi (ak x) (.slice a ns.length ca) (.slice c kids.length cc));have hK:pX w (.slice c kids.length cc) vs kids:=⟨h2,h3,h4⟩
 unfold aB at hb;have HB:=hh9 hb
 have gen:∀ (xs:List Int) (s:List Int),1<=s.length->(aO s (kids.map fun t=>dD (eF xs t.kind) (aI d t))).length<=1000000000000 ->
   Hid (∀ W K,Below w.heap.size w W->Ay W K xs->Calls Tryz.prog 90 #[.slice c kids.length cc,.string (ak s),.func (Fn.func 107) #[] #[.pointer (some ⟨K,0,none⟩)]] W (nJ (aO s (kids.map fun t=>dD (eF xs t.kind) (aI d t))) W)):=fun xs s hs hle W K hb' hE =>
  zwd ih (hK.below hb') hr (hT.below hb') (fun t ht=>zbH (JW (eF xs t.kind) (aI d t)) (zbH (Xw s _ _ (List.mem_map.2 ⟨t,ht,rfl⟩)) hle)) s hle (by omega) (by
   have:=Xx s hs (kids.map fun t=>dD (eF xs t.kind) (aI d t));rw[List.length_map]at this;omega) hE
 have Hq:=hh9 (fun (xs:List Int) (W:World) (v:Value) (hv:au W v xs.length (dA xs))=>W9 (xs:=xs) hv);show Calls _ _ #[.agg #[.int .i64 k,.string (ak x),.slice a ns.length ca,.int .i64 lo,.int .i64 hi,.slice c kids.length cc]] w _
 obtain⟨n,hnn⟩:∃ n,n=kids.length:=⟨_,rfl⟩
 rw[<- hnn]at gen HB ⊢;rcases k12 with rfl|rfl
 ·have qZ:aI (d+1) (.mk 1 x ns lo hi kids)=aO [32,47,32] (kids.map fun t=>dD (eF [1] t.kind) (aI d t)):=by
   rw[aI,tL,if_pos rfl];simp only[JV]
  rw[qZ]at hl ⊢;have HJ:=gen [1] [32,47,32] (by decide) hl;have e3:(⟨#[32,47,32]⟩:ByteArray)=ak [32,47,32]:=rfl;rw[<- e3]at HJ;have HB1:=hh9 (HB.out.alloc HB.out.size (.cells #[.int .i64 1] 3))
  have hrow:au (((w.alloc (.cells #[.int .i64 1,.string (ak x),.slice a ns.length ca,.int .i64 lo,.int .i64 hi,.slice c n cc] 29)).alloc (.cells #[.int .i64 1] 3)).drew) (.slice (some ⟨w.heap.size+1,0,none⟩) 1 1) 1 (dA [1]) :=
   ints_at (W:=(w.alloc (.cells #[.int .i64 1,.string (ak x),.slice a ns.length ca,.int .i64 lo,.int .i64 hi,.slice c n cc] 29)).alloc (.cells #[.int .i64 1] 3)) (xs:=[1]) (by decide) (oq _ _ _ (by simp))
  have Az:=hh9 (Hq.out [1] _ _ hrow);have Dz:Hid ((((w.alloc (.cells #[.int .i64 1,.string (ak x),.slice a ns.length ca,.int .i64 lo,.int .i64 hi,.slice c n cc] 29)).alloc (.cells #[.int .i64 1] 3)).drew).cell? ⟨w.heap.size,5,none⟩=some (.slice c n cc)):=((X6.new w 1 lo hi (ak x) (.slice a ns.length ca) (.slice c n cc)).alloc (.cells #[.int .i64 1] 3)).cells.2.2.2.2.2;clear hrow qZ hl hT h0 h1 h4 h3 h2 gen e3 hK hr hb hnn ih Hq;go_enter Tryz.func69,Tryz.ntmps69;go_wp2_with fail
  go_region_with (first
   |(go_at_call 91;refine Az.out.mono ?_;rintro e w1 ⟨K,rfl,hE,hb1⟩;have c5:=gu Dz.out hb1)
   |(go_at_call 90;refine(HJ.out _ K (aJ (dJ HB1.out 1) hb1) hE).mono ?_;rintro e w2 ⟨rfl,hb2⟩))
  all_goals
   have HB2:=hh9 (aJ (aJ (dJ HB1.out 1) hb1) hb2);clear hb1 hb2 hE c5;go_wp2_with fail
   go_ret;exact⟨rfl,HB2.out⟩
 ·have qZ:aI (d+1) (.mk 2 x ns lo hi kids)=aO [32] (kids.map fun t=>dD (eF [1,2] t.kind) (aI d t)):=by
   rw[aI,tL,if_neg (by decide),if_pos rfl];simp only[qeg]
  rw[qZ]at hl ⊢;have HJ:=gen [1,2] [32] (by decide) hl;have e3:(⟨#[32]⟩:ByteArray)=ak [32]:=rfl;rw[<- e3]at HJ;have HB1:=hh9 (HB.out.alloc HB.out.size (.cells #[.int .i64 1,.int .i64 2] 3))
  have hrow:au (((w.alloc (.cells #[.int .i64 2,.string (ak x),.slice a ns.length ca,.int .i64 lo,.int .i64 hi,.slice c n cc] 29)).alloc (.cells #[.int .i64 1,.int .i64 2] 3)).drew) (.slice (some ⟨w.heap.size+1,0,none⟩) 2 2) 2 (dA [1,2]) :=
   ints_at (W:=(w.alloc (.cells #[.int .i64 2,.string (ak x),.slice a ns.length ca,.int .i64 lo,.int .i64 hi,.slice c n cc] 29)).alloc (.cells #[.int .i64 1,.int .i64 2] 3)) (xs:=[1,2]) (by decide) (oq _ _ _ (by simp))
  have Az:=hh9 (Hq.out [1,2] _ _ hrow);have Dz:Hid ((((w.alloc (.cells #[.int .i64 2,.string (ak x),.slice a ns.length ca,.int .i64 lo,.int .i64 hi,.slice c n cc] 29)).alloc (.cells #[.int .i64 1,.int .i64 2] 3)).drew).cell? ⟨w.heap.size,5,none⟩=some (.slice c n cc)):=((X6.new w 2 lo hi (ak x) (.slice a ns.length ca) (.slice c n cc)).alloc (.cells #[.int .i64 1,.int .i64 2] 3)).cells.2.2.2.2.2;clear hrow qZ hl hT h0 h1 h4 h3 h2 gen e3 hK hr hb hnn ih Hq;go_enter Tryz.func69,Tryz.ntmps69;go_wp2_with fail
  go_region_with (first
   |(go_at_call 91;refine Az.out.mono ?_;rintro e w1 ⟨K,rfl,hE,hb1⟩;have c5:=gu Dz.out hb1)
   |(go_at_call 90;refine(HJ.out _ K (aJ (dJ HB1.out 1) hb1) hE).mono ?_;rintro e w2 ⟨rfl,hb2⟩))
  all_goals
   have HB2:=hh9 (aJ (aJ (dJ HB1.out 1) hb1) hb2);clear hb1 hb2 hE c5;go_wp2_with fail
   go_ret;exact⟨rfl,HB2.out⟩
theorem zwo:Dx 0:=by
 intro W X t h hr hT hl;obtain⟨k,x,ns,lo,hi,kids⟩:=t;unfold dK at hr;simp only[zbJ,List.isEmpty_iff]at hr;obtain⟨h1,rfl⟩:=hr;exact Xy h h1 hT hl
theorem zwp{d:Nat}(ih:Dx d):Dx (d+1):=by
 intro w X t h hr hT hl;obtain⟨k,x,ns,lo,hi,kids⟩:=t;unfold dK at hr;simp only[zbJ,List.all_eq_true]at hr;obtain⟨hf,hk⟩:=hr;by_cases k12:k=1\/k=2
 ·have hn:2<=kids.length:=by
   unfold oo at hf;rw[if_pos k12]at hf;simp only[zbJ,decide_eq_true_eq]at hf;exact hf.2
  exact zwn ih k12 h hn hk hT hl
 by_cases k3:k=3
 ·subst k3;unfold oo at hf;rw[if_neg k12,if_pos rfl]at hf;simp only[zbJ,decide_eq_true_eq]at hf
  match kids,hf.1.2 with
  |[u],_ =>
   have NP:(aI d u).length<=1000000000000:=by
    have e:aI (d+1) (.mk 3 x ns lo hi [u])=if lo=0/\hi=1 then [91]++aI d u++[93] else cB lo hi++dD (u.kind==1||u.kind==2||u.kind==3) (aI d u):=by
     rw[aI,tL,if_neg (by decide),if_neg (by decide),if_pos rfl];simp
    rw[e]at hl;split at hl
    ·simp only[zbG]at hl;omega
    ·have:=JW (u.kind==1||u.kind==2||u.kind==3) (aI d u);simp only[zbG]at hl;omega
   have HR:=hh9 (fun W' (hb:Below w.heap.size w W')=>qd2 ih (h.under hb) hf.2 (hk u (by simp)) (hT.below hb) NP);obtain⟨a,m,ca,c,n,cc,e1,e2⟩:=h.slices;have ek:X.kind=3:=by obtain⟨_,_,_,_,_,e⟩:=h.size;exact(congrArg Tree.kind e).symm
   have hb:=(zbE w.heap.size w).alloc (zbA _) (aB X.kind X.lo X.hi X.text X.ns X.ks);obtain⟨k,s,nv,lo',hi',kv⟩:=X;simp only[]at e1 e2 ek;subst e1 e2 ek;unfold aB at hb;have HB:=hh9 hb;show Calls _ _ #[.agg #[.int .i64 3,.string s,.slice a m ca,.int .i64 lo',.int .i64 hi',.slice c n cc]] w _
   clear hb h hT hl hk hf NP ih k12;go_enter Tryz.func69,Tryz.ntmps69;go_wp2_with fail
   refine(HR.out _ HB.out).mono ?_;rintro e w1 ⟨rfl,hb⟩;have HB1:=hh9 (aJ HB.out hb);clear hb;go_wp2_with fail
   go_ret;exact⟨rfl,HB1.out⟩
 ·have hk0:kids=[]:=by
   unfold oo at hf;rw[if_neg k12,if_neg k3]at hf;by_cases k4:k=4
   ·rw[if_pos k4]at hf;simp only[zbJ,decide_eq_true_eq]at hf;exact List.length_eq_zero_iff.1 hf.1.2
   rw[if_neg k4]at hf;by_cases k5:k=5
   ·rw[if_pos k5]at hf;simp only[zbJ,decide_eq_true_eq]at hf;exact List.length_eq_zero_iff.1 hf.1.2
   rw[if_neg k5]at hf;by_cases k6:k=6
   ·rw[if_pos k6]at hf;simp only[zbJ,decide_eq_true_eq]at hf;exact List.length_eq_zero_iff.1 hf.1.1.1.2
   rw[if_neg k6]at hf;by_cases k7:k=7
   ·rw[if_pos k7]at hf;simp only[zbJ,decide_eq_true_eq]at hf;exact List.length_eq_zero_iff.1 hf.1.1.1.2
   rw[if_neg k7]at hf
   cases hf
  subst hk0;exact Xy h hf hT hl
theorem Xz:∀ d,Dx d
 |0=>zwo
 |d+1=>zwp (Xz d)
end Go.Proofs.YtahibnnhjahmnaaGreatDoor
