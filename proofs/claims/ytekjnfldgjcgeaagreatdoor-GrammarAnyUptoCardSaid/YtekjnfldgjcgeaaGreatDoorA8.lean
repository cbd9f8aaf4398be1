/- Part 8 of what the laws of the grammar rest on. -/
import Derived.Test.YtekjnfldgjcgeaaGreatDoorA6
import Derived.Test.YtekjnfldgjcgeaaGreatDoorA7
import Derived.Deep.RegionHeld3
set_option linter.all false
set_option maxRecDepth 100000
set_option maxHeartbeats 8000000
namespace Go.Proofs.YtekjnfldgjcgeaaGreatDoor
open Go.RowKit
theorem inB_1 (k:Int):inB [1] k=(k==1):=by
 unfold inB
 by_cases h:k=1
 ·subst h;rfl
 ·have h1:((1:Int)==k)=false:=by simp;omega
  have h2:(k==1)=false:=by simp;omega
  simp [h1,h2]
theorem qd5 (k:Int):inB [1,2] k=(k==1||k==2):=by
 unfold inB
 by_cases h:k=1
 ·subst h;rfl
 ·by_cases g:k=2
  ·subst g;rfl
  ·have h1:((1:Int)==k)=false:=by simp;omega
   have h2:(k==1)=false:=by simp;omega
   have g1:((2:Int)==k)=false:=by simp;omega
   have g2:(k==2)=false:=by simp;omega
   simp [h1,h2,g1,g2]
theorem qbp (k:Int):inB [1,2,3] k=(k==1||k==2||k==3):=by
 unfold inB
 by_cases h:k=1
 ·subst h;rfl
 ·by_cases g:k=2
  ·subst g;rfl
  ·by_cases f:k=3
   ·subst f;rfl
   ·have h1:((1:Int)==k)=false:=by simp;omega
    have h2:(k==1)=false:=by simp;omega
    have g1:((2:Int)==k)=false:=by simp;omega
    have g2:(k==2)=false:=by simp;omega
    have f1:((3:Int)==k)=false:=by simp;omega
    have f2:(k==3)=false:=by simp;omega
    simp [h1,h2,g1,g2,f1,f2]
def Six (W:World) (g off:Nat) (k lo hi:Int) (s:ByteArray) (ns ks:Value):Prop :=
 W.cell? ⟨g,off,none⟩=some (.int .i64 k)/\W.cell? ⟨g,off+1,none⟩=some (.string s)/\W.cell? ⟨g,off+2,none⟩=some ns/\W.cell? ⟨g,off+3,none⟩=some (.int .i64 lo)/\W.cell? ⟨g,off+4,none⟩=some (.int .i64 hi)/\W.cell? ⟨g,off+5,none⟩=some ks
theorem Six.below {W W':World} {g off:Nat} {k lo hi:Int} {s:ByteArray} {ns ks:Value} (h:Six W g off k lo hi s ns ks) (hb:Below W.heap.size W W'):Six W' g off k lo hi s ns ks :=
 ⟨zac h.1 hb,zac h.2.1 hb,zac h.2.2.1 hb,zac h.2.2.2.1 hb,zac h.2.2.2.2.1 hb,zac h.2.2.2.2.2 hb⟩
def RepS (w w1:World) (lo hi:Int) (kv:Value) (g off:Nat) (k lo' hi':Int) (s:ByteArray) (ns' ks':Value) (W:World):Prop :=
 (W.cell? ⟨w.heap.size,3,none⟩=some (.int .i64 lo)/\W.cell? ⟨w.heap.size,4,none⟩=some (.int .i64 hi)/\W.cell? ⟨w.heap.size,5,none⟩=some kv) /\
 (W.cell? ⟨g,off,none⟩=some (.int .i64 k)/\W.cell? ⟨g,off+1,none⟩=some (.string s)/\W.cell? ⟨g,off+2,none⟩=some ns'/\W.cell? ⟨g,off+3,none⟩=some (.int .i64 lo')/\W.cell? ⟨g,off+4,none⟩=some (.int .i64 hi')/\W.cell? ⟨g,off+5,none⟩=some ks')/\Below w.heap.size w W/\Below w1.heap.size w1 W
theorem RepS.step {w w1:World} {lo hi:Int} {kv:Value} {g off:Nat} {k lo' hi':Int} {s:ByteArray} {ns' ks':Value} {W W':World} (hb:Below W.heap.size W W') (h:RepS w w1 lo hi kv g off k lo' hi' s ns' ks' W):RepS w w1 lo hi kv g off k lo' hi' s ns' ks' W' :=
 ⟨⟨zac h.1.1 hb,zac h.1.2.1 hb,zac h.1.2.2 hb⟩,Six.below h.2.1 hb,za0 h.2.2.1 hb,za0 h.2.2.2 hb⟩
theorem RepS.drew {w w1:World} {lo hi:Int} {kv:Value} {g off:Nat} {k lo' hi':Int} {s:ByteArray} {ns' ks':Value} {W:World} (h:RepS w w1 lo hi kv g off k lo' hi' s ns' ks' W):RepS w w1 lo hi kv g off k lo' hi' s ns' ks' W.drew:=⟨h.1,h.2.1,za7 h.2.2.1 1,za7 h.2.2.2 1⟩
theorem RepS.bel {w w1:World} {lo hi:Int} {kv:Value} {g off:Nat} {k lo' hi':Int} {s:ByteArray} {ns' ks':Value} {W:World} (h:RepS w w1 lo hi kv g off k lo' hi' s ns' ks' W):Below w.heap.size w W:=h.2.2.1
theorem RepS.bel1 {w w1:World} {lo hi:Int} {kv:Value} {g off:Nat} {k lo' hi':Int} {s:ByteArray} {ns' ks':Value} {W:World} (h:RepS w w1 lo hi kv g off k lo' hi' s ns' ks' W):Below w1.heap.size w1 W:=h.2.2.2
theorem qbq {d:Nat} (ih:zih d) {w:World} {X:XV} {x ns:List Int} {lo hi:Int} {u:Tree} (h:ETree w X (.mk 3 x ns lo hi [u])) (hc:cntB lo hi=true) (hr:zax d u=true) (hT:Tabs w) (hl:(zaf d u).length<=1000000000000) :
  Calls Tryz.prog 90 #[X.val] w (zcl (zaf (d+1) (.mk 3 x ns lo hi [u])) w):=by
 have hTE:zaf (d+1) (.mk 3 x ns lo hi [u])=if lo=0/\hi=1 then [91]++zaf d u++[93] else cntT lo hi++brT (inB [1,2,3] u.kind) (zaf d u):=by
  rw [zaf,zgl,if_neg (by decide),if_neg (by decide),if_pos rfl,qbp]
  simp
 rw [hTE]
 cases h with
 | @mk _ _ _ nv kv _ _ _ vs h0 hl0 h1 h2 h3 h4 =>
  rcases h2 with ⟨g0,_⟩ | ⟨g,off,cap,rfl,g1,g2,g3,g4⟩
  ·simp at g0
  ·have g1:1<=cap:=g1
   obtain ⟨a,ca,rfl,hm⟩:=h1.slice
   match vs,h3 with
   | [Y],_ =>
   have hY:=h4 0 Y u rfl rfl
   have hSix:Six w g off Y.kind Y.lo Y.hi Y.text Y.ns Y.ks:=⟨g4 0 _ rfl,g4 1 _ rfl,g4 2 _ rfl,g4 3 _ rfl,g4 4 _ rfl,g4 5 _ rfl⟩
   unfold maxLen at g2
   have hb:=(Below.refl w.heap.size w).alloc (Nat.le_refl _) (xobj 3 lo hi (za3 x) (.slice a ns.length ca) (.slice (some ⟨g,off,none⟩) 1 cap))
   have hX:=X6.new w 3 lo hi (za3 x) (.slice a ns.length ca) (.slice (some ⟨g,off,none⟩) 1 cap)
   have hS2:=hSix.below hb
   have HTX:=hh9 (fun W' (hb':Below w.heap.size w W')=>ih W' Y u (hY.under hb') hr (hT.below hb') hl)
   have hsz:(za3 (zaf d u)).size<=1000000000000:=by rw [za9];exact hl
   unfold xobj at hb hX hS2
   have HB:=hh9 hb
   have HX:=hh9 hX
   obtain ⟨b0,b1,b2,b3,b4,b5⟩:=hS2
   obtain ⟨a0,a1,a2,a3,a4,a5⟩:=hX.cells
   show Calls _ _ #[.agg #[.int .i64 3,.string (za3 x),.slice a ns.length ca,.int .i64 lo,.int .i64 hi,.slice (some ⟨g,off,none⟩) 1 cap]] w _
   by_cases hq:lo=0/\hi=1
   ·rw [if_pos hq]
    obtain ⟨rfl,rfl⟩:=hq
    obtain ⟨S,hS⟩:∃ S,S=za3 (zaf d u):=⟨_,rfl⟩
    have HBR:=hh9 (show ((⟨#[91]⟩:ByteArray)++S)++⟨#[93]⟩=za3 ([91]++zaf d u++[93]) by
     rw [hS,show (⟨#[91]⟩:ByteArray)=za3 [91] from rfl,show (⟨#[93]⟩:ByteArray)=za3 [93] from rfl,zal,zal])
    have HTX2:Hid (∀ W',Below w.heap.size w W'->Calls Tryz.prog 65 #[Y.val] W' (fun e w'=>e=.returned (.string S)/\Below W'.heap.size W' w')):=by rw [hS];exact HTX
    rw [<- hS] at hsz
    clear hS hTE h0 hl0 h1 h4 g4 hY hSix hr hT hl ih hb hX HTX hc h3
    obtain ⟨k,s,nv',lo',hi',kv'⟩:=Y
    go_enter Tryz.func90,Tryz.ntmps90
    go_wp2_with fail
    refine (HTX2.out _ HB.out).mono ?_
    rintro e w1 ⟨rfl,hb⟩
    have HB1:=hh9 (za0 HB.out hb)
    clear hb
    go_wp2_with fail
    go_ret
    exact ⟨congrArg (fun u=>Ending.returned (Value.string u)) HBR.out,HB1.out⟩
   ·rw [if_neg hq]
    have HE:=hh9 (fun W' K (hb':Below w.heap.size w W') (hK:zgp W' K [1,2,3])=>znw (d:=d) (K:=K) (xs:=[1,2,3]) ih (hY.under hb') hr (hT.below hb') hl hK)
    have HC:=hh9 (fun W' (hb':Below w.heap.size w W')=>zur (lo:=lo) (hi:=hi) hc (hT.below hb'))
    have hl3:=zqz hc
    have hb3:=zjl (inB [1,2,3] u.kind) (zaf d u)
    obtain ⟨C,hC⟩:∃ C,C=za3 (cntT lo hi):=⟨_,rfl⟩
    obtain ⟨E,hE⟩:∃ E,E=za3 (brT (inB [1,2,3] u.kind) (zaf d u)):=⟨_,rfl⟩
    have hCs:C.size<=7:=by rw [hC,za9];exact hl3
    have hEs:E.size<=1000000000002:=by rw [hE,za9];omega
    have HFIN:=hh9 (show C++E=za3 (cntT lo hi++brT (inB [1,2,3] u.kind) (zaf d u)) by rw [hC,hE,zal])
    have HE2:Hid (∀ W' K,Below w.heap.size w W'->zgp W' K [1,2,3]->Calls Tryz.prog 105 #[Y.val,.pointer (some ⟨K,0,none⟩)] W' (fun e w'=>e=.returned (.string E)/\Below W'.heap.size W' w')):=by rw [hE];exact HE
    have HC2:Hid (∀ W',Below w.heap.size w W'->Calls Tryz.prog 107 #[.int .i64 lo,.int .i64 hi] W' (fun e w'=>e=.returned (.string C)/\Below W'.heap.size W' w')):=by rw [hC];exact HC
    have HEN:=hh9 (fun (W:World) (v:Value) (hv:RowAny W v 3 (zat [1,2,3]))=>zr0 (xs:=[1,2,3]) hv)
    have HSX:=hh9 hSix
    clear hC hE hTE h0 hl0 h1 h4 g4 hY hSix hr hT hl ih hb hX HTX hc h3 hl3 hb3 HE HC
    obtain ⟨k,s,nv',lo',hi',kv'⟩:=Y
    have hq2:(lo==0)=false\/((lo==0)=true/\(hi==1)=false):=by
     by_cases e:lo=0
     ·exact .inr ⟨by simpa using e,by simp;omega⟩
     ·exact .inl (by simpa using e)
    rcases hq2 with q0 | ⟨q0,q1⟩
    all_goals
     go_enter Tryz.func90,Tryz.ntmps90
     go_wp2_with fail
     refine (HEN.out _ _ (ints_at (xs:=[1,2,3]) (by decide) (zb5 _ _ _ (by simp)))).mono ?_
     rintro e w1 ⟨K,rfl,hK,hb⟩
     have hB1:Below w.heap.size w w1:=(HB.out.alloc HB.out.size (.cells #[.int .i64 1,.int .i64 2,.int .i64 3] 3)).trans (hb.mono (by simp;omega))
     have hX1:=(HX.out.alloc (.cells #[.int .i64 1,.int .i64 2,.int .i64 3] 3)).under hb
     obtain ⟨_,_,_,c3,c4,c5⟩:=hX1.cells
     obtain ⟨d0,d1,d2,d3,d4,d5⟩:=HSX.out.below hB1
     have HBEL:=hh9 hB1
     have HK:=hh9 hK
     clear hb hX1 hB1 hK a0 a1 a2 a3 a4 a5 b0 b1 b2 b3 b4 b5
     have hadd:∀ W:World,(Op.stringOp .add C E).run Tryz.prog W=.ok (.string (C++E)) W:=fun W=>run_string_add_sum W C E (by omega)
     go_wp2_with fail
     go_region_held3 (fun W=>(W.cell? ⟨w.heap.size,3,none⟩=some (.int .i64 lo)/\W.cell? ⟨w.heap.size,4,none⟩=some (.int .i64 hi)/\W.cell? ⟨w.heap.size,5,none⟩=some (.slice (some ⟨g,off,none⟩) 1 cap)) /\
       (W.cell? ⟨g,off,none⟩=some (.int .i64 k)/\W.cell? ⟨g,off+1,none⟩=some (.string s)/\W.cell? ⟨g,off+2,none⟩=some nv'/\W.cell? ⟨g,off+3,none⟩=some (.int .i64 lo')/\W.cell? ⟨g,off+4,none⟩=some (.int .i64 hi')/\W.cell? ⟨g,off+5,none⟩=some kv')/\Below w.heap.size w W/\Below w1.heap.size w1 W)
      (first | exact RepS.step (by assumption) (by assumption) | exact RepS.drew (by assumption) | exact ⟨⟨by assumption,by assumption,by assumption⟩,⟨by assumption,by assumption,by assumption,by assumption,by assumption,by assumption⟩,za7 HBEL.out 1,za7 (Below.refl _ _) 1⟩)
      (first
       | (go_at_call 107;refine (HC2.out _ (RepS.bel (by assumption))).mono ?_;rintro e w' ⟨rfl,hb'⟩)
       | (go_at_call 105;refine (HE2.out _ K (RepS.bel (by assumption)) (HK.out.below (RepS.bel1 (by assumption)))).mono ?_;rintro e w' ⟨rfl,hb'⟩))
     rename_i hS
     have HB2:=hh9 hS.2.2.1
     clear hS c3 c4 c5 d0 d1 d2 d3 d4 d5
     go_wp2_with fail
     go_ret
     exact ⟨congrArg (fun u=>Ending.returned (Value.string u)) HFIN.out,HB2.out⟩
theorem zv2 (s:List Int):∀ (l:List (List Int)) (x:List Int),x∈l->x.length<=(sepT s l).length
 | [],x,h=>by simp at h
 | [y],x,h=>by simp at h;subst h;simp [sepT]
 | y::z::l,x,h=>by
  rw [List.mem_cons] at h
  simp only [sepT,List.length_append]
  rcases h with rfl | h
  ·omega
  ·have:=zv2 s (z::l) x h
   omega
theorem zo0 (s:List Int) (hs:1<=s.length):∀ (l:List (List Int)),l.length<=(sepT s l).length+1
 | []=>by simp
 | [y]=>by simp [sepT]
 | y::z::l=>by
  have:=zo0 s hs (z::l)
  simp only [sepT,List.length_append,List.length_cons] at this ⊢
  omega
theorem zv3 (b:Bool) (x:List Int):x.length<=(brT b x).length:=by
 unfold brT
 split
 ·simp;omega
 ·simp
theorem zo1 {d:Nat} {w:World} {X:XV} {k lo hi:Int} {x ns:List Int} (h:ETree w X (.mk k x ns lo hi [])) (hf:ze4 k x ns lo hi 0=true) (hT:Tabs w) (hl:(zaf d (.mk k x ns lo hi [])).length<=1000000000000) :
  Calls Tryz.prog 65 #[X.val] w (zcl (zaf d (.mk k x ns lo hi [])) w):=by
 unfold ze4 at hf
 by_cases k12:k=1\/k=2
 ·rw [if_pos k12] at hf;simp at hf
 rw [if_neg k12] at hf
 by_cases k3:k=3
 ·rw [if_pos k3] at hf;simp at hf
 rw [if_neg k3] at hf
 have hTE:=zht d k lo hi x ns ⟨fun e=>k12 (.inl e),fun e=>k12 (.inr e),k3⟩
 rw [hTE] at hl ⊢
 clear hTE
 cases h with
 | @mk _ _ _ nv kv _ _ _ vs h0 hl0 h1 h2 h3 h4 =>
 obtain ⟨a,ca,rfl,hm⟩:=h1.slice
 obtain ⟨c,cc,rfl,_⟩:=h2.slice
 have hb:=(Below.refl w.heap.size w).alloc (Nat.le_refl _) (xobj k lo hi (za3 x) (.slice a ns.length ca) (.slice c ([]:List Tree).length cc))
 have hT2:=hT.below hb
 have hv2:=h1.below hb
 unfold xobj at hb hT2 hv2
 have HB:=hh9 hb
 show Calls _ _ #[.agg #[.int .i64 k,.string (za3 x),.slice a ns.length ca,.int .i64 lo,.int .i64 hi,.slice c ([]:List Tree).length cc]] w _
 by_cases k4:k=4
 ·rw [if_pos k4]
  subst k4
  clear hT2 hv2 hb hT h0 h1 h4 h3 hf h2
  go_enter Tryz.func65,Tryz.ntmps65
  go_wp2_with fail
  go_ret
  exact ⟨rfl,HB.out⟩
 rw [if_neg k4] at hf hl ⊢
 by_cases k5:k=5
 ·rw [if_pos k5] at hl ⊢
  subst k5
  have hsz:(za3 x).size<=1000000000000:=by
   rw [za9]
   simp only [List.length_append] at hl
   omega
  obtain ⟨S,hS⟩:∃ S,S=za3 x:=⟨_,rfl⟩
  have HFIN:=hh9 (show ((⟨#[34]⟩:ByteArray)++S)++⟨#[34]⟩=za3 ([34]++x++[34]) by
   rw [hS,show (⟨#[34]⟩:ByteArray)=za3 [34] from rfl,zal,zal])
  rw [<- hS] at hsz HB ⊢
  clear hT2 hv2 hb hT h0 h1 h4 h3 hf h2 hl hS
  go_enter Tryz.func65,Tryz.ntmps65
  go_wp2_with fail
  go_ret
  exact ⟨congrArg (fun u=>Ending.returned (Value.string u)) HFIN.out,HB.out⟩
 rw [if_neg k5] at hf hl ⊢
 have fin:∀ (s:List Int),s.length=1->ns.all numB=true->1<=ns.length->ns.length<=10000->(sepT s (ns.map fun n:Int=>hexT n.toNat)).length<=1000000000000 ->
   ∃ S:ByteArray,S.size<=1000000000000/\(⟨#[37,120]⟩:ByteArray)++S=za3 ([37,120]++sepT s (ns.map fun n:Int=>hexT n.toNat)) /\
    Hid (Calls Tryz.prog 91 #[.slice a ns.length ca,.string (za3 s),.func (Fn.func 92) #[] #[]] (w.alloc (.cells #[.int .i64 k,.string (za3 x),.slice a ns.length ca,.int .i64 lo,.int .i64 hi,.slice c ([]:List Tree).length cc] 35)) (fun e w'=>e=.returned (.string S)/\Below (w.alloc (.cells #[.int .i64 k,.string (za3 x),.slice a ns.length ca,.int .i64 lo,.int .i64 hi,.slice c ([]:List Tree).length cc] 35)).heap.size (w.alloc (.cells #[.int .i64 k,.string (za3 x),.slice a ns.length ca,.int .i64 lo,.int .i64 hi,.slice c ([]:List Tree).length cc] 35)) w')):=fun s hs f1 f2 f3 f4 =>
  ⟨za3 (sepT s (ns.map fun n:Int=>hexT n.toNat)),by rw [za9];exact f4,by rw [show (⟨#[37,120]⟩:ByteArray)=za3 [37,120] from rfl,zal],zus hv2 f1 f2 f3 hT2 s hs⟩
 by_cases k6:k=6
 ·rw [if_pos k6] at hf hl ⊢
  simp only [Bool.and_eq_true,decide_eq_true_eq] at hf
  obtain ⟨S,hsz,hfin,HJ⟩:=fin [46] rfl hf.2 hf.1.1.2 hf.1.2 (by simp only [List.length_append] at hl;omega)
  have HFIN:=hh9 hfin
  have e46:(⟨#[46]⟩:ByteArray)=za3 [46]:=rfl
  rw [<- e46] at HJ
  subst k6
  clear hT2 hv2 hb hT h0 h1 h4 h3 hf h2 hl hfin fin e46
  go_enter Tryz.func65,Tryz.ntmps65
  go_wp2_with fail
  refine HJ.out.mono ?_
  rintro e w1 ⟨rfl,hb⟩
  have HB1:=hh9 (za0 HB.out hb)
  clear hb
  go_wp2_with fail
  go_ret
  exact ⟨congrArg (fun u=>Ending.returned (Value.string u)) HFIN.out,HB1.out⟩
 rw [if_neg k6] at hf hl ⊢
 by_cases k7:k=7
 ·rw [if_pos k7] at hf
  simp only [Bool.and_eq_true,decide_eq_true_eq] at hf
  obtain ⟨S,hsz,hfin,HJ⟩:=fin [45] rfl hf.1.2 (by omega) (by omega) (by simp only [List.length_append] at hl;omega)
  have HFIN:=hh9 hfin
  have e45:(⟨#[45]⟩:ByteArray)=za3 [45]:=rfl
  rw [<- e45] at HJ
  subst k7
  clear hT2 hv2 hb hT h0 h1 h4 h3 hf h2 hl hfin fin e45
  go_enter Tryz.func65,Tryz.ntmps65
  go_wp2_with fail
  refine HJ.out.mono ?_
  rintro e w1 ⟨rfl,hb⟩
  have HB1:=hh9 (za0 HB.out hb)
  clear hb
  go_wp2_with fail
  go_ret
  exact ⟨congrArg (fun u=>Ending.returned (Value.string u)) HFIN.out,HB1.out⟩
 rw [if_neg k7] at hf
 cases hf
theorem zv4 {d:Nat} (ih:zih d) {w:World} {X:XV} {k lo hi:Int} {x ns:List Int} {kids:List Tree} (k12:k=1\/k=2) (h:ETree w X (.mk k x ns lo hi kids)) (hn:2<=kids.length) (hr:∀ t∈kids,zax d t=true) (hT:Tabs w) (hl:(zaf (d+1) (.mk k x ns lo hi kids)).length<=1000000000000) :
  Calls Tryz.prog 65 #[X.val] w (zcl (zaf (d+1) (.mk k x ns lo hi kids)) w):=by
 cases h with
 | @mk _ _ _ nv kv _ _ _ vs h0 hl0 h1 h2 h3 h4 =>
 obtain ⟨a,ca,rfl,hm⟩:=h1.slice
 obtain ⟨c,cc,rfl,_⟩:=h2.slice
 have hb:=(Below.refl w.heap.size w).alloc (Nat.le_refl _) (xobj k lo hi (za3 x) (.slice a ns.length ca) (.slice c kids.length cc))
 have hK:ze6 w (.slice c kids.length cc) vs kids:=⟨h2,h3,h4⟩
 unfold xobj at hb
 have HB:=hh9 hb
 have gen:∀ (xs:List Int) (s:List Int),1<=s.length->(sepT s (kids.map fun t=>brT (inB xs t.kind) (zaf d t))).length<=1000000000000 ->
   Hid (∀ W K,Below w.heap.size w W->zgp W K xs->Calls Tryz.prog 88 #[.slice c kids.length cc,.string (za3 s),.func (Fn.func 105) #[] #[.pointer (some ⟨K,0,none⟩)]] W (zcl (sepT s (kids.map fun t=>brT (inB xs t.kind) (zaf d t))) W)):=fun xs s hs hle W K hb' hE =>
  zuu ih (hK.below hb') hr (hT.below hb') (fun t ht=>Nat.le_trans (zv3 (inB xs t.kind) (zaf d t)) (Nat.le_trans (zv2 s _ _ (List.mem_map.2 ⟨t,ht,rfl⟩)) hle)) s hle (by omega) (by
   have:=zo0 s hs (kids.map fun t=>brT (inB xs t.kind) (zaf d t))
   rw [List.length_map] at this
   omega) hE
 have HEN:=hh9 (fun (xs:List Int) (W:World) (v:Value) (hv:RowAny W v xs.length (zat xs))=>zr0 (xs:=xs) hv)
 show Calls _ _ #[.agg #[.int .i64 k,.string (za3 x),.slice a ns.length ca,.int .i64 lo,.int .i64 hi,.slice c kids.length cc]] w _
 obtain ⟨n,hnn⟩:∃ n,n=kids.length:=⟨_,rfl⟩
 rw [<- hnn] at gen HB ⊢
 rcases k12 with rfl | rfl
 ·have hTE:zaf (d+1) (.mk 1 x ns lo hi kids)=sepT [32,47,32] (kids.map fun t=>brT (inB [1] t.kind) (zaf d t)):=by
   rw [zaf,zgl,if_pos rfl]
   simp only [inB_1]
  rw [hTE] at hl ⊢
  have HJ:=gen [1] [32,47,32] (by decide) hl
  have e3:(⟨#[32,47,32]⟩:ByteArray)=za3 [32,47,32]:=rfl
  rw [<- e3] at HJ
  have HB1:=hh9 (HB.out.alloc HB.out.size (.cells #[.int .i64 1] 3))
  have hrow:RowAny (((w.alloc (.cells #[.int .i64 1,.string (za3 x),.slice a ns.length ca,.int .i64 lo,.int .i64 hi,.slice c n cc] 35)).alloc (.cells #[.int .i64 1] 3)).drew) (.slice (some ⟨w.heap.size+1,0,none⟩) 1 1) 1 (zat [1]) :=
   ints_at (W:=(w.alloc (.cells #[.int .i64 1,.string (za3 x),.slice a ns.length ca,.int .i64 lo,.int .i64 hi,.slice c n cc] 35)).alloc (.cells #[.int .i64 1] 3)) (xs:=[1]) (by decide) (zb5 _ _ _ (by simp))
  have HE1:=hh9 (HEN.out [1] _ _ hrow)
  have HC5:Hid ((((w.alloc (.cells #[.int .i64 1,.string (za3 x),.slice a ns.length ca,.int .i64 lo,.int .i64 hi,.slice c n cc] 35)).alloc (.cells #[.int .i64 1] 3)).drew).cell? ⟨w.heap.size,5,none⟩=some (.slice c n cc)):=((X6.new w 1 lo hi (za3 x) (.slice a ns.length ca) (.slice c n cc)).alloc (.cells #[.int .i64 1] 3)).cells.2.2.2.2.2
  clear hrow hTE hl hT h0 h1 h4 h3 h2 gen e3 hK hr hb hnn ih HEN
  go_enter Tryz.func65,Tryz.ntmps65
  go_wp2_with fail
  go_region_with (first
   | (go_at_call 89;refine HE1.out.mono ?_;rintro e w1 ⟨K,rfl,hE,hb1⟩;have c5:=zac HC5.out hb1)
   | (go_at_call 88;refine (HJ.out _ K (za0 (za7 HB1.out 1) hb1) hE).mono ?_;rintro e w2 ⟨rfl,hb2⟩))
  all_goals
   have HB2:=hh9 (za0 (za0 (za7 HB1.out 1) hb1) hb2)
   clear hb1 hb2 hE c5
   go_wp2_with fail
   go_ret
   exact ⟨rfl,HB2.out⟩
 ·have hTE:zaf (d+1) (.mk 2 x ns lo hi kids)=sepT [32] (kids.map fun t=>brT (inB [1,2] t.kind) (zaf d t)):=by
   rw [zaf,zgl,if_neg (by decide),if_pos rfl]
   simp only [qd5]
  rw [hTE] at hl ⊢
  have HJ:=gen [1,2] [32] (by decide) hl
  have e3:(⟨#[32]⟩:ByteArray)=za3 [32]:=rfl
  rw [<- e3] at HJ
  have HB1:=hh9 (HB.out.alloc HB.out.size (.cells #[.int .i64 1,.int .i64 2] 3))
  have hrow:RowAny (((w.alloc (.cells #[.int .i64 2,.string (za3 x),.slice a ns.length ca,.int .i64 lo,.int .i64 hi,.slice c n cc] 35)).alloc (.cells #[.int .i64 1,.int .i64 2] 3)).drew) (.slice (some ⟨w.heap.size+1,0,none⟩) 2 2) 2 (zat [1,2]) :=
   ints_at (W:=(w.alloc (.cells #[.int .i64 2,.string (za3 x),.slice a ns.length ca,.int .i64 lo,.int .i64 hi,.slice c n cc] 35)).alloc (.cells #[.int .i64 1,.int .i64 2] 3)) (xs:=[1,2]) (by decide) (zb5 _ _ _ (by simp))
  have HE1:=hh9 (HEN.out [1,2] _ _ hrow)
  have HC5:Hid ((((w.alloc (.cells #[.int .i64 2,.string (za3 x),.slice a ns.length ca,.int .i64 lo,.int .i64 hi,.slice c n cc] 35)).alloc (.cells #[.int .i64 1,.int .i64 2] 3)).drew).cell? ⟨w.heap.size,5,none⟩=some (.slice c n cc)):=((X6.new w 2 lo hi (za3 x) (.slice a ns.length ca) (.slice c n cc)).alloc (.cells #[.int .i64 1,.int .i64 2] 3)).cells.2.2.2.2.2
  clear hrow hTE hl hT h0 h1 h4 h3 h2 gen e3 hK hr hb hnn ih HEN
  go_enter Tryz.func65,Tryz.ntmps65
  go_wp2_with fail
  go_region_with (first
   | (go_at_call 89;refine HE1.out.mono ?_;rintro e w1 ⟨K,rfl,hE,hb1⟩;have c5:=zac HC5.out hb1)
   | (go_at_call 88;refine (HJ.out _ K (za0 (za7 HB1.out 1) hb1) hE).mono ?_;rintro e w2 ⟨rfl,hb2⟩))
  all_goals
   have HB2:=hh9 (za0 (za0 (za7 HB1.out 1) hb1) hb2)
   clear hb1 hb2 hE c5
   go_wp2_with fail
   go_ret
   exact ⟨rfl,HB2.out⟩
theorem zv5:zih 0:=by
 intro W X t h hr hT hl
 obtain ⟨k,x,ns,lo,hi,kids⟩:=t
 unfold zax at hr
 simp only [Bool.and_eq_true,List.isEmpty_iff] at hr
 obtain ⟨h1,rfl⟩:=hr
 exact zo1 h h1 hT hl
theorem zv6 {d:Nat} (ih:zih d):zih (d+1):=by
 intro w X t h hr hT hl
 obtain ⟨k,x,ns,lo,hi,kids⟩:=t
 unfold zax at hr
 simp only [Bool.and_eq_true,List.all_eq_true] at hr
 obtain ⟨hf,hk⟩:=hr
 by_cases k12:k=1\/k=2
 ·have hn:2<=kids.length:=by
   unfold ze4 at hf
   rw [if_pos k12] at hf
   simp only [Bool.and_eq_true,decide_eq_true_eq] at hf
   exact hf.2
  exact zv4 ih k12 h hn hk hT hl
 by_cases k3:k=3
 ·subst k3
  unfold ze4 at hf
  rw [if_neg k12,if_pos rfl] at hf
  simp only [Bool.and_eq_true,decide_eq_true_eq] at hf
  match kids,hf.1.2 with
  | [u],_ =>
   have hlu:(zaf d u).length<=1000000000000:=by
    have e:zaf (d+1) (.mk 3 x ns lo hi [u])=if lo=0/\hi=1 then [91]++zaf d u++[93] else cntT lo hi++brT (u.kind==1||u.kind==2||u.kind==3) (zaf d u):=by
     rw [zaf,zgl,if_neg (by decide),if_neg (by decide),if_pos rfl]
     simp
    rw [e] at hl
    split at hl
    ·simp only [List.length_append] at hl;omega
    ·have:=zv3 (u.kind==1||u.kind==2||u.kind==3) (zaf d u)
     simp only [List.length_append] at hl
     omega
   have HR:=hh9 (fun W' (hb:Below w.heap.size w W')=>qbq ih (h.under hb) hf.2 (hk u (by simp)) (hT.below hb) hlu)
   obtain ⟨a,m,ca,c,n,cc,e1,e2⟩:=h.slices
   have ek:X.kind=3:=by obtain ⟨_,_,_,_,_,e⟩:=h.size;exact (congrArg Tree.kind e).symm
   have hb:=(Below.refl w.heap.size w).alloc (Nat.le_refl _) (xobj X.kind X.lo X.hi X.text X.ns X.ks)
   obtain ⟨k,s,nv,lo',hi',kv⟩:=X
   simp only [] at e1 e2 ek
   subst e1 e2 ek
   unfold xobj at hb
   have HB:=hh9 hb
   show Calls _ _ #[.agg #[.int .i64 3,.string s,.slice a m ca,.int .i64 lo',.int .i64 hi',.slice c n cc]] w _
   clear hb h hT hl hk hf hlu ih k12
   go_enter Tryz.func65,Tryz.ntmps65
   go_wp2_with fail
   refine (HR.out _ HB.out).mono ?_
   rintro e w1 ⟨rfl,hb⟩
   have HB1:=hh9 (za0 HB.out hb)
   clear hb
   go_wp2_with fail
   go_ret
   exact ⟨rfl,HB1.out⟩
 ·have hk0:kids=[]:=by
   unfold ze4 at hf
   rw [if_neg k12,if_neg k3] at hf
   by_cases k4:k=4
   ·rw [if_pos k4] at hf;simp only [Bool.and_eq_true,decide_eq_true_eq] at hf;exact List.length_eq_zero_iff.1 hf.1.2
   rw [if_neg k4] at hf
   by_cases k5:k=5
   ·rw [if_pos k5] at hf;simp only [Bool.and_eq_true,decide_eq_true_eq] at hf;exact List.length_eq_zero_iff.1 hf.1.2
   rw [if_neg k5] at hf
   by_cases k6:k=6
   ·rw [if_pos k6] at hf;simp only [Bool.and_eq_true,decide_eq_true_eq] at hf;exact List.length_eq_zero_iff.1 hf.1.1.1.2
   rw [if_neg k6] at hf
   by_cases k7:k=7
   ·rw [if_pos k7] at hf;simp only [Bool.and_eq_true,decide_eq_true_eq] at hf;exact List.length_eq_zero_iff.1 hf.1.1.1.2
   rw [if_neg k7] at hf
   cases hf
  subst hk0
  exact zo1 h hf hT hl
theorem zr6:∀ d,zih d
 | 0=>zv5
 | d+1=>zv6 (zr6 d)
end Go.Proofs.YtekjnfldgjcgeaaGreatDoor
