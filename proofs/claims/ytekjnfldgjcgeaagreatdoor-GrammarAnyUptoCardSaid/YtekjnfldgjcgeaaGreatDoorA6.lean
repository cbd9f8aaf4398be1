/- Part 6 of what the laws of the grammar rest on. -/
import Derived.Test.YtekjnfldgjcgeaaGreatDoorA0
import Derived.Test.YtekjnfldgjcgeaaGreatDoorA5
import Derived.Lib.SmallJoins
import Derived.Lib.AppendIntMem
import Derived.Laws.MakeOwn
import Derived.Deep.RegionWith
set_option linter.all false
set_option maxRecDepth 100000
set_option maxHeartbeats 8000000
namespace Go.Proofs.YtekjnfldgjcgeaaGreatDoor
def Tree.tw:Tree->Nat
 | .mk _ x ns _ _ kids=>1+x.length+ns.length+(kids.map Tree.tw).sum
theorem zfh {n:Int} (h0:0<=n) (h:n<=200):(decT n.toNat).length<=3:=by
 have:decT n.toNat=decF 3 n.toNat:=(zhq 3 20 n.toNat (by rw [show (10:Nat) ^ 3=1000 by decide];omega) (by omega) (by omega)).symm
 rw [this]
 exact zmi 3 _
theorem zmj:∀ f n,(hexF f n).length<=f
 | 0,_=>by simp [hexF]
 | f+1,n=>by
  unfold hexF
  split
  ·simp
  ·have:=zmj f (n / 16)
   simp
   omega
theorem ziv (n:Nat):(hexT n).length<=6:=by
 unfold hexT
 split
 ·simp
 ·exact zmj 6 n
theorem zqz {lo hi:Int} (h:cntB lo hi=true):(cntT lo hi).length<=7:=by
 unfold cntB at h
 simp at h
 have d1:(if 0<lo then decT lo.toNat else []).length<=3:=by
  split
  ·exact zfh (by omega) (by omega)
  ·simp
 have d2:(if 0<=hi then decT hi.toNat else []).length<=3:=by
  split
  ·exact zfh (by omega) (by omega)
  ·simp
 unfold cntT
 by_cases g0:hi=0
 ·rw [if_pos g0];simp
 rw [if_neg g0]
 by_cases g1:hi=lo
 ·rw [if_pos g1,List.append_nil];omega
 rw [if_neg g1,List.length_append,List.length_append]
 show _+(1+_)<=_
 omega
theorem zjl (b:Bool) (x:List Int):(brT b x).length<=x.length+2:=by
 unfold brT
 split<;>simp
theorem zjm (s:List Int):∀ (l:List (List Int)),(sepT s l).length<=(l.map fun x=>x.length+s.length).sum
 | []=>by simp [sepT]
 | [x]=>by simp [sepT]
 | x::y::l=>by
  have:=zjm s (y::l)
  simp only [sepT,List.length_append,List.map_cons,List.sum_cons] at this ⊢
  omega
theorem zig {α:Type} {f g:α->Nat}:∀ (l:List α),(∀ x∈l,f x<=g x)->(l.map f).sum<=(l.map g).sum
 | [],_=>by simp
 | x::l,h=>by
  have h1:=h x (by simp)
  have h2:=zig l (fun y hy=>h y (by simp [hy]))
  simp
  omega
theorem zup {α:Type} (k:Nat) (f:α->Nat):∀ (l:List α),(l.map fun x=>k*f x).sum=k*(l.map f).sum
 | []=>by simp
 | x::l=>by simp [zup k f l,Nat.mul_add]
theorem zjn {α:Type} (k:Nat):∀ (l:List α),(l.map fun _=>k).sum=k*l.length
 | []=>by simp
 | x::l=>by simp [zjn k l,Nat.mul_add];omega
theorem zpq {α:Type} (f:α->List Int):∀ (l:List α),((l.map f).flatten).length=(l.map fun x=>(f x).length).sum
 | []=>rfl
 | x::l=>by simp [zpq f l]
theorem znu {f:Tree->List Int} {t:Tree} (h:∀ k x ns lo hi kids,t=.mk k x ns lo hi kids->ze4 k x ns lo hi kids.length=true/\∀ u∈kids,(f u).length+5<=20*u.tw):(zgl f t).length+5<=20*t.tw:=by
 obtain ⟨k,x,ns,lo,hi,kids⟩:=t
 obtain ⟨h1,h2⟩:=h k x ns lo hi kids rfl
 have e:(Tree.mk k x ns lo hi kids).tw=1+x.length+ns.length+(kids.map Tree.tw).sum:=by rw [Tree.tw]
 have hs:(kids.map fun u=>(f u).length+5).sum<=20*(kids.map Tree.tw).sum:=by
  rw [<- zup]
  exact zig kids h2
 rw [e,zgl]
 by_cases k1:k=1
 ·rw [if_pos k1]
  have a:=zjm [32,47,32] (kids.map fun t=>brT (t.kind==1) (f t))
  rw [List.map_map] at a
  have b:(kids.map ((fun x:List Int=>x.length+([32,47,32]:List Int).length) ∘ fun t=>brT (t.kind==1) (f t))).sum<=(kids.map fun u=>(f u).length+5).sum:=zig kids fun u hu=>by
   have:=zjl (u.kind==1) (f u)
   simp
   omega
  omega
 rw [if_neg k1]
 by_cases k2:k=2
 ·rw [if_pos k2]
  have a:=zjm [32] (kids.map fun t=>brT (t.kind==1||t.kind==2) (f t))
  rw [List.map_map] at a
  have b:(kids.map ((fun x:List Int=>x.length+([32]:List Int).length) ∘ fun t=>brT (t.kind==1||t.kind==2) (f t))).sum<=(kids.map fun u=>(f u).length+5).sum:=zig kids fun u hu=>by
   have:=zjl (u.kind==1||u.kind==2) (f u)
   simp
   omega
  omega
 rw [if_neg k2]
 by_cases k3:k=3
 ·rw [if_pos k3]
  unfold ze4 at h1
  rw [if_neg (by omega),if_pos k3] at h1
  simp only [Bool.and_eq_true,decide_eq_true_eq] at h1
  have hc:=zqz h1.2
  split
  ·have a:=zpq f kids
   have b:(kids.map fun x=>(f x).length).sum<=(kids.map fun u=>(f u).length+5).sum:=zig kids fun u hu=>by omega
   simp only [List.length_append,List.length_cons,List.length_nil]
   omega
  ·have a:=zpq (fun t=>brT (t.kind==1||t.kind==2||t.kind==3) (f t)) kids
   have b:(kids.map fun x=>(brT (x.kind==1||x.kind==2||x.kind==3) (f x)).length).sum<=(kids.map fun u=>(f u).length+5).sum:=zig kids fun u hu=>by
    have:=zjl (u.kind==1||u.kind==2||u.kind==3) (f u)
    omega
   simp only [List.length_append]
   omega
 rw [if_neg k3]
 by_cases k4:k=4
 ·rw [if_pos k4];omega
 rw [if_neg k4]
 by_cases k5:k=5
 ·rw [if_pos k5]
  simp only [List.length_append,List.length_cons,List.length_nil]
  omega
 rw [if_neg k5]
 have key:∀ s:List Int,s.length=1->(sepT s (ns.map fun n=>hexT n.toNat)).length<=7*ns.length:=fun s hs=>by
  have a:=zjm s (ns.map fun n=>hexT n.toNat)
  rw [List.map_map] at a
  have b:(ns.map ((fun x:List Int=>x.length+s.length) ∘ fun n:Int=>hexT n.toNat)).sum<=(ns.map fun _=>7).sum:=zig ns fun u hu=>by
   have:=ziv u.toNat
   simp
   omega
  rw [zjn] at b
  omega
 have:=key (if k=6 then [46] else [45]) (by split<;>rfl)
 simp only [List.length_append,List.length_cons,List.length_nil]
 omega
theorem zmk:∀ (d:Nat) (t:Tree),zax d t=true->(zaf d t).length+5<=20*t.tw
 | 0,.mk k x ns lo hi kids,h=>by
  unfold zax at h
  simp only [Bool.and_eq_true,List.isEmpty_iff] at h
  rw [zaf]
  refine znu fun k' x' ns' lo' hi' kids' e=>?_
  cases e
  exact ⟨h.1,fun u hu=>by rw [h.2] at hu;simp at hu⟩
 | d+1,.mk k x ns lo hi kids,h=>by
  unfold zax at h
  simp only [Bool.and_eq_true,List.all_eq_true] at h
  rw [zaf]
  refine znu fun k' x' ns' lo' hi' kids' e=>?_
  cases e
  exact ⟨h.1,fun u hu=>zmk d u (h.2 u hu)⟩
end Go.Proofs.YtekjnfldgjcgeaaGreatDoor
namespace Go.Proofs.YtekjnfldgjcgeaaGreatDoor
open Go.RowKit
def zcl (x:List Int) (w:World) (e:Ending) (w':World):Prop:=e=.returned (.string (za3 x))/\Below w.heap.size w w'
theorem qd0 {a:Nat} (h:a<16):Lib.upperB (byt (lexC a))=byt (hexC a):=by
 have key:∀ i:Fin 16,Lib.upperB (byt (lexC i.val))=byt (hexC i.val):=by decide +kernel
 exact key ⟨a,h⟩
theorem zpr:∀ (f n:Nat),(lexF f n).map (fun c=>Lib.upperB (byt c))=(hexF f n).map byt
 | 0,_=>rfl
 | f+1,n=>by
  unfold lexF hexF
  rw [List.map_append,List.map_append]
  congr 1
  ·split
   ·rfl
   ·exact zpr f _
  ·simp [qd0 (a:=n%16) (by omega)]
theorem zyp (f n:Nat):(lexF f n).length=(hexF f n).length:=by
 have:=congrArg List.length (zpr f n)
 simpa using this
theorem zla:∀ (f n:Nat) (c:Int),c∈lexF f n->48<=c/\c<=102
 | 0,_,_,h=>by simp [lexF] at h
 | f+1,n,c,h=>by
  unfold lexF at h
  rw [List.mem_append] at h
  rcases h with h | h
  ·split at h
   ·simp at h
   ·exact zla f _ c h
  ·have:=zl8 (n:=n%16) (by omega)
   simp at h
   omega
theorem zuq (f n:Nat):(⟨(Lib.toUpperA (za3 (lexF f n)).data.toList).toArray⟩:ByteArray)=za3 (hexF f n):=by
 rw [zcf]
 unfold Lib.toUpperA za3
 rw [List.map_map]
 congr 2
 exact zpr f n
theorem zyq (n:Int) (h0:0<=n) (hn:n<=1114111) {w:World} (hB:zfs w):Calls Tryz.prog 92 #[.int .i64 n] w (zcl (hexT n.toNat) w):=by
 obtain ⟨m,rfl⟩:∃ m:Nat,n=m:=⟨n.toNat,by omega⟩
 have hm:m<=1114111:=by omega
 rw [Int.toNat_natCast]
 have HF:=hh9 (zuo m hm hB)
 have hlen:=zyp 6 m
 have hl6:=zmj 6 m
 have HU:Hid (∀ W,Calls Tryz.prog 108 #[.string (za3 (lexF 6 m))] W (zcl (hexF 6 m) W)):=fun W=>by
  have:=Tryz.strings_ToUpper_ascii (za3 (lexF 6 m)) W (by rw [za9];omega) (fun j b hj=>by
   rw [zcf,List.getElem?_map] at hj
   cases hc:(lexF 6 m)[j]? with
   | none=>rw [hc] at hj;cases hj
   | some c =>
    rw [hc] at hj
    have:=zla 6 m c (List.mem_of_getElem? hc)
    cases hj
    unfold byt
    simp
    omega)
  rw [zuq] at this
  exact this
 obtain ⟨S,hS⟩:∃ S,S=za3 (lexF 6 m):=⟨_,rfl⟩
 obtain ⟨T,hT⟩:∃ T,T=za3 (hexF 6 m):=⟨_,rfl⟩
 have hTs:T.size=(hexF 6 m).length:=by rw [hT,za9]
 have HU2:Hid (∀ W,Calls Tryz.prog 108 #[.string S] W (fun e w'=>e=.returned (.string T)/\Below W.heap.size W w')):=by rw [hS,hT];exact HU
 have HF2:Hid (Calls Tryz.prog 109 #[.int .i64 (m:Int),.int .i64 16] w (fun e w'=>e=.returned (.string S)/\Below w.heap.size w w')):=by rw [hS];exact HF
 by_cases g:m<16
 ·have e:hexF 6 m=[hexC m]:=by rw [hexF,if_pos g,Nat.mod_eq_of_lt g];rfl
  have ht1:T.size=1:=by rw [hTs,e];rfl
  have HFIN:=hh9 (show (⟨#[48]⟩:ByteArray)++T=za3 (hexT m) by
   unfold hexT
   rw [if_pos g,hT,e,show (⟨#[48]⟩:ByteArray)=za3 [48] from rfl,zal]
   rfl)
  clear HU HF hlen hl6 hS hT hTs e hB
  go_enter Tryz.func92,Tryz.ntmps92
  go_wp2_with fail
  refine HF2.out.mono ?_
  rintro e w1 ⟨rfl,hb⟩
  have HB1:=hh9 hb
  clear hb
  go_wp2_with fail
  refine (HU2.out _).mono ?_
  rintro e w2 ⟨rfl,hb⟩
  have HB2:=hh9 (za0 HB1.out hb)
  clear hb
  go_wp2_with fail
  go_ret
  exact ⟨congrArg (fun u=>Ending.returned (Value.string u)) HFIN.out,HB2.out⟩
 ·have ht2:2<=T.size:=by
   rw [hTs,hexF,if_neg g]
   have:0<(hexF 5 (m / 16)).length:=by
    rw [show hexF 5 (m / 16)=(if m / 16<16 then [] else hexF 4 (m / 16 / 16))++[hexC (m / 16%16)] from rfl]
    simp
   rw [List.length_append]
   show 2<=_+1
   omega
  have ht3:T.size<=6:=by omega
  have HFIN:=hh9 (show T=za3 (hexT m) by unfold hexT;rw [if_neg g,hT])
  have q:decide ((T.size:Int)<2)=false:=decide_eq_false (by omega)
  clear HU HF hlen hl6 hS hT hTs hB
  go_enter Tryz.func92,Tryz.ntmps92
  go_wp2_with fail
  refine HF2.out.mono ?_
  rintro e w1 ⟨rfl,hb⟩
  have HB1:=hh9 hb
  clear hb
  go_wp2_with fail
  refine (HU2.out _).mono ?_
  rintro e w2 ⟨rfl,hb⟩
  have HB2:=hh9 (za0 HB1.out hb)
  clear hb
  go_wp2_with fail
  go_ret
  exact ⟨congrArg (fun u=>Ending.returned (Value.string u)) HFIN.out,HB2.out⟩
def Tabs (W : World) : Prop := zfs W /\ Lib.TabIs Tryz.prog W "internal/strconv.uint64pow10" .u64 Lib.pow10Tab
theorem Tabs.below {W W':World} (h:Tabs W) (hb:Below W.heap.size W W'):Tabs W':=⟨h.1.below hb,Go.Joins.tab_stays (g:=2) (by kernel_rfl) h.2 hb (Nat.le_refl _)⟩
theorem zyr {n:Int} (h0:0<=n) (hn:n<=200):(⟨(Lib.itoa n).toArray⟩:ByteArray)=za3 (decT n.toNat):=by
 have key:∀ i:Fin 201,Lib.itoa ((i.val:Nat):Int)=(decT i.val).map byt:=by decide +kernel
 have:=key ⟨n.toNat,by omega⟩
 unfold za3
 rw [<- this]
 congr 3
 simp
 omega
theorem ziw (n:Int) (h0:0<=n) (hn:n<=200) {w:World} (hT:Tabs w):Calls Tryz.prog 128 #[.int .i64 n] w (zcl (decT n.toNat) w):=by
 refine (Tryz.strconv_Itoa n (by omega) (by omega) w hT.2).mono ?_
 rintro e w' ⟨rfl,k,os,rfl⟩
 exact ⟨by rw [zyr h0 hn],Lib.below_grow _ _ (Nat.le_refl _) _ _⟩
theorem znv {lo hi:Int} (h:cntB lo hi=true):0<=lo/\lo<=200/\(hi=-1\/(lo<=hi/\hi<=200)):=by
 unfold cntB at h
 simp at h
 omega
theorem zur {lo hi:Int} (h:cntB lo hi=true) {w:World} (hT:Tabs w):Calls Tryz.prog 107 #[.int .i64 lo,.int .i64 hi] w (zcl (cntT lo hi) w):=by
 obtain ⟨h0,h1,h2⟩:=znv h
 have HT:=hh9 hT
 have dlo:=fun (g:0<lo)=>zfh (n:=lo) (by omega) h1
 clear h hT
 by_cases g0:hi=0
 ·subst g0
  have e:cntT lo 0=[48]:=rfl
  rw [e]
  clear e dlo
  go_enter Tryz.func107,Tryz.ntmps107
  go_wp2_with fail
  go_ret
  exact ⟨rfl,Below.refl _ _⟩
 ·have q0:(hi==0)=false:=by simp;omega
  by_cases g1:hi=lo
  ·subst g1
   have gp:0<hi:=by omega
   have q1:decide (0<hi)=true:=decide_eq_true gp
   have e:cntT hi hi=decT hi.toNat:=by unfold cntT;rw [if_neg g0,if_pos gp,if_pos rfl,List.append_nil]
   rw [e]
   have HI:=hh9 (ziw hi (by omega) h1 HT.out)
   clear e dlo g0
   go_enter Tryz.func107,Tryz.ntmps107
   go_wp2_with fail
   refine HI.out.mono ?_
   rintro e w1 ⟨rfl,hb⟩
   have HB:=hh9 hb
   clear hb
   go_wp2_with fail
   go_ret
   exact ⟨rfl,HB.out⟩
  ·have q1:(hi==lo)=false:=by simp;omega
   have HE:=hh9 (show cntT lo hi=(if 0<lo then decT lo.toNat else [])++([42]++(if 0<=hi then decT hi.toNat else [])) by unfold cntT;rw [if_neg g0,if_neg g1])
   have e42:(⟨#[42]⟩:ByteArray)=za3 [42]:=rfl
   have s42:(za3 [42]).size=1:=rfl
   by_cases gl:0<lo
   ·have ql:decide (0<lo)=true:=decide_eq_true gl
    have HI:=hh9 (ziw lo (by omega) h1 HT.out)
    obtain ⟨A,hA⟩:∃ A,A=za3 (decT lo.toNat):=⟨_,rfl⟩
    have hAs:A.size<=3:=by rw [hA,za9];exact dlo gl
    have HI2:Hid (Calls Tryz.prog 128 #[.int .i64 lo] w (fun e w'=>e=.returned (.string A)/\Below w.heap.size w w')):=by rw [hA];exact HI
    by_cases gh:0<=hi
    ·have qh:decide (0<=hi)=true:=decide_eq_true gh
     have gh2:hi<=200:=by omega
     have dhi:=zfh (n:=hi) gh gh2
     obtain ⟨B,hB⟩:∃ B,B=za3 (decT hi.toNat):=⟨_,rfl⟩
     have hBs:B.size<=3:=by rw [hB,za9];exact dhi
     have HJ:Hid (∀ W,Tabs W->Calls Tryz.prog 128 #[.int .i64 hi] W (fun e w'=>e=.returned (.string B)/\Below W.heap.size W w')):=fun W hW=>by rw [hB];exact ziw hi gh gh2 hW
     have HFIN:=hh9 (show (A++(⟨#[42]⟩:ByteArray))++B=za3 (cntT lo hi) by
      rw [HE.out,if_pos gl,if_pos gh,hA,hB,e42,zal,zal,List.append_assoc])
     clear HI hA hB dhi dlo g0 g1 e42
     go_enter Tryz.func107,Tryz.ntmps107
     go_wp2_with fail
     refine HI2.out.mono ?_
     rintro e w1 ⟨rfl,hb⟩
     have HB:=hh9 hb
     clear hb
     go_wp2_with fail
     refine (HJ.out _ (HT.out.below HB.out)).mono ?_
     rintro e w2 ⟨rfl,hb⟩
     have HB2:=hh9 (za0 HB.out hb)
     clear hb
     go_wp2_with fail
     go_ret
     exact ⟨congrArg (fun u=>Ending.returned (Value.string u)) HFIN.out,HB2.out⟩
    ·have qh:decide (0<=hi)=false:=decide_eq_false gh
     have HFIN:=hh9 (show A++(⟨#[42]⟩:ByteArray)=za3 (cntT lo hi) by
      rw [HE.out,if_pos gl,if_neg gh,hA,e42,zal,List.append_nil])
     clear HI hA dlo g0 g1 e42
     go_enter Tryz.func107,Tryz.ntmps107
     go_wp2_with fail
     refine HI2.out.mono ?_
     rintro e w1 ⟨rfl,hb⟩
     have HB:=hh9 hb
     clear hb
     go_wp2_with fail
     go_ret
     exact ⟨congrArg (fun u=>Ending.returned (Value.string u)) HFIN.out,HB.out⟩
   ·have ql:decide (0<lo)=false:=decide_eq_false gl
    by_cases gh:0<=hi
    ·have qh:decide (0<=hi)=true:=decide_eq_true gh
     have gh2:hi<=200:=by omega
     have dhi:=zfh (n:=hi) gh gh2
     obtain ⟨B,hB⟩:∃ B,B=za3 (decT hi.toNat):=⟨_,rfl⟩
     have hBs:B.size<=3:=by rw [hB,za9];exact dhi
     have HJ:Hid (∀ W,Tabs W->Calls Tryz.prog 128 #[.int .i64 hi] W (fun e w'=>e=.returned (.string B)/\Below W.heap.size W w')):=fun W hW=>by rw [hB];exact ziw hi gh gh2 hW
     have HFIN:=hh9 (show (⟨#[42]⟩:ByteArray)++B=za3 (cntT lo hi) by
      rw [HE.out,if_neg gl,if_pos gh,hB,e42,zal,List.nil_append])
     clear hB dhi dlo g0 g1 e42
     go_enter Tryz.func107,Tryz.ntmps107
     go_wp2_with fail
     refine (HJ.out _ HT.out).mono ?_
     rintro e w2 ⟨rfl,hb⟩
     have HB2:=hh9 hb
     clear hb
     go_wp2_with fail
     go_ret
     exact ⟨congrArg (fun u=>Ending.returned (Value.string u)) HFIN.out,HB2.out⟩
    ·have qh:decide (0<=hi)=false:=decide_eq_false gh
     have HFIN:=hh9 (show (⟨#[42]⟩:ByteArray)=za3 (cntT lo hi) by
      rw [HE.out,if_neg gl,if_neg gh,e42];rfl)
     clear dlo g0 g1 e42
     go_enter Tryz.func107,Tryz.ntmps107
     go_wp2_with fail
     go_ret
     exact ⟨congrArg (fun u=>Ending.returned (Value.string u)) HFIN.out,Below.refl _ _⟩
def zdf (n:Nat) (xs:List (List Int)):Array Value:=(xs.map (fun x=>Value.string (za3 x))++List.replicate (n-xs.length) (Value.string ⟨#[]⟩)).toArray
theorem zsx {n:Nat} {xs:List (List Int)} (h:xs.length<n) (x:List Int):(zdf n xs).setIfInBounds xs.length (.string (za3 x))=zdf n (xs++[x]):=by
 unfold zdf
 obtain ⟨m,hm⟩:∃ m,n-xs.length=m+1:=⟨n-xs.length-1,by omega⟩
 have e2:n-(xs++[x]).length=m:=by simp;omega
 rw [hm,e2,List.setIfInBounds_toArray]
 congr 1
 rw [List.set_append_right _ _ (by simp)]
 simp [List.replicate_succ]
theorem zps {n:Nat} {xs:List (List Int)} (h:xs.length<n):(zdf n xs)[xs.length]?=some (.string ⟨#[]⟩):=by
 unfold zdf
 rw [List.getElem?_toArray,List.getElem?_append_right (by simp),List.length_map,Nat.sub_self,List.getElem?_replicate,if_pos (by omega)]
def TX (B n:Nat) (xs:List (List Int)) (W:World):Prop:=W.heap[B]?=some (.cells (zdf n xs) 9 (0,0))
theorem TX.lt {B n:Nat} {xs:List (List Int)} {W:World} (h:TX B n xs W):B<W.heap.size:=(Array.getElem?_eq_some_iff.1 h).1
theorem TX.under {B n:Nat} {xs:List (List Int)} {W W':World} (h:TX B n xs W) (hb:Below W.heap.size W W'):TX B n xs W':=(hb.block B h.lt).trans h
theorem TX.cell {B n:Nat} {xs:List (List Int)} {W:World} (h:TX B n xs W) (hl:xs.length<n):W.cell? ⟨B,xs.length,none⟩=some (.string ⟨#[]⟩):=by
 unfold TX at h
 simp only [World.cell?,h]
 exact zps hl
theorem TX.frozen {B n:Nat} {xs:List (List Int)} {W:World} (h:TX B n xs W) (j:Nat):W.frozen? ⟨B,j,none⟩=false:=by
 unfold TX at h
 simp [World.frozen?,h]
theorem TX.set {B n:Nat} {xs:List (List Int)} {W:World} (h:TX B n xs W) (hl:xs.length<n) (x:List Int):TX B n (xs++[x]) (W.setCell ⟨B,xs.length,none⟩ (.string (za3 x))):=by
 unfold TX at h ⊢
 rw [setCell_eq_setRow _ _ _ _ _ _ _ h,zsx hl]
 exact setRow_heap _ _ _ _ _ _ h
theorem TX.read {B:Nat} {xs:List (List Int)} {W:World} (h:TX B xs.length xs W) (j:Nat) (x:List Int) (hx:xs[j]?=some x):W.cell? ⟨B,j,none⟩=some (.string (za3 x)):=by
 unfold TX at h
 simp only [World.cell?,h]
 unfold zdf
 rw [List.getElem?_toArray,List.getElem?_append_left (by simpa using (List.getElem?_eq_some_iff.1 hx).1)]
 simp [hx]
theorem zys (s:List Int):∀ l:List (List Int),Lib.join (l.map (·.map byt)) (s.map byt)=(sepT s l).map byt:=by
 intro l
 induction l with
 | nil=>rfl
 | cons x l ih =>
  cases l with
  | nil=>simp [sepT,Lib.join]
  | cons y l =>
   rw [sepT,List.map_append,List.map_append,<- ih]
   simp [Lib.join]
theorem zml {B:Nat} {xs:List (List Int)} {W:World} (h:TX B xs.length xs W) (s:List Int) (hl:(sepT s xs).length<=1000000000000) (hn:xs.length<=2000000000000) :
  Calls Tryz.prog 64 #[.slice (some ⟨B,0,none⟩) xs.length xs.length,.string (za3 s)] W (zcl (sepT s xs) W):=by
 have e:xs.length=(xs.map za3).length:=by simp
 have hm:(xs.map za3).map (·.data.toList)=xs.map (·.map byt):=by
  rw [List.map_map]
  exact List.map_congr_left fun x _=>zcf x
 have hj:Lib.join ((xs.map za3).map (·.data.toList)) (za3 s).data.toList=(sepT s xs).map byt:=by rw [hm,zcf,zys]
 have:=Tryz.strings_Join B 0 xs.length (xs.map za3) (za3 s) W (fun j y hy=>by
  rw [List.getElem?_map] at hy
  cases hx:xs[j]? with
  | none=>rw [hx] at hy;cases hy
  | some x =>
   rw [hx] at hy
   cases hy
   rw [Nat.zero_add]
   exact h.read j x hx) h.lt (by rw [<- e];omega) (by rw [<- e];exact Nat.le_refl _) (by rw [hj,List.length_map];omega)
 rw [hj,<- e] at this
 exact this
theorem qbn:(Tryz.prog.info? 9).map (fun i=>(i.zero,i.size,i.bytes))=some (some (.string ⟨#[]⟩),1,16):=by kernel_rfl
theorem zsy (n:Nat):madeCells (Value.string ⟨#[]⟩).cells (n*1)=zdf n []:=by
 unfold madeCells zdf
 apply Array.ext
 ·simp
 ·intro i h1 h2
  simp [Value.cells,Nat.mod_one]
theorem zhr (n:Nat) (hn:n<=2000000000000) (w:World):(Instr.makeSlice 42 (.int .i64 (n:Int)) (.int .i64 (n:Int))).run Tryz.prog w=.ok (.slice (some ⟨w.heap.size,0,none⟩) n n) (w.alloc (.cells (zdf n []) 9)):=by
 have hi:=qbn
 cases h:Tryz.prog.info? 9 with
 | none=>rw [h] at hi;cases hi
 | some i =>
  rw [h] at hi
  simp only [Option.map_some,Option.some.injEq,Prod.mk.injEq] at hi
  obtain ⟨h1,h2,h3⟩:=hi
  have:=run_make (P:=Tryz.prog) w 42 9 i (.string ⟨#[]⟩) Tryz.underlying42 h h1 .i64 .i64 (n:Int) (n:Int) (by omega) (by omega) (by rw [h3];omega) (by omega)
  rw [h2,Int.toNat_natCast,zsy] at this
  exact this
theorem zus {nums:List Int} {v:Value} {w:World} (hv:RowAny w v nums.length (zat nums)) (hn:nums.all numB=true) (h1:1<=nums.length) (h2:nums.length<=10000) (hT:Tabs w) (s:List Int) (hs:s.length=1) :
  Calls Tryz.prog 91 #[v,.string (za3 s),.func (Fn.func 92) #[] #[]] w (zcl (sepT s (nums.map fun n=>hexT n.toNat)) w):=by
 rcases hv with ⟨h0,_⟩ | ⟨g,off,cap,rfl,g1,g2,g3,g4⟩
 ·omega
 ·have HT:=hh9 hT
  have G4:=hh9 g4
  have HN:=hh9 hn
  obtain ⟨n,hnn⟩:∃ n,n=nums.length:=⟨_,rfl⟩
  rw [<- hnn] at g1 h1 h2 ⊢
  have HNN:=hh9 hnn
  unfold maxLen at g2
  clear hT g4 hn hnn
  go_enter Tryz.func91,Tryz.ntmps91
  have hmk:=zhr n (by omega) w
  have HB0:=hh9 ((Below.refl w.heap.size w).alloc (Nat.le_refl _) (.cells (zdf n []) 9))
  have HX0:Hid (TX w.heap.size n [] (w.alloc (.cells (zdf n []) 9))):=heap_alloc_new w _
  obtain ⟨W0,hW0⟩:∃ W0,W0=w.alloc (.cells (zdf n []) 9):=⟨_,rfl⟩
  rw [<- hW0] at hmk HB0 HX0
  clear hW0
  go_wp2_with fail
  go_loopw [15] (fun v wr=>∃ i:Nat,v=.int .i64 i/\i<=n/\Hid (Below w.heap.size w wr)/\Hid (TX w.heap.size n ((nums.take i).map fun n=>hexT n.toNat) wr)) (fun v _=>n-(intOf v).toNat)
  case atStart=>exact ⟨0,rfl,by omega,HB0,HX0⟩
  case round =>
   obtain ⟨i,rfl,hi,HBEL,HX⟩:=hrel
   clear hmk
   by_cases hlt:i<n
   ·obtain ⟨Z,hZ⟩:∃ z,nums[i]?=some z:=⟨_,List.getElem?_eq_getElem (by rw [<- HNN.out];exact hlt)⟩
    have c0:=(HBEL.out.cell (p:=⟨g,off+i,none⟩) g3).trans (G4.out i _ (zec hZ))
    have hz:=List.all_eq_true.1 HN.out Z (List.mem_of_getElem? hZ)
    unfold numB at hz
    simp at hz
    have HH:=hh9 (zyq Z hz.1 hz.2 (HT.out.1.below HBEL.out))
    have hlen:((nums.take i).map fun n:Int=>hexT n.toNat).length=i:=by rw [List.length_map,List.length_take,<- HNN.out];omega
    have HTK:=hh9 (show (nums.take (i+1)).map (fun n:Int=>hexT n.toNat)=((nums.take i).map fun n:Int=>hexT n.toNat)++[hexT Z.toNat] by
     rw [List.take_add_one,hZ];simp)
    have HLEN:=hh9 hlen
    clear hZ hz hlen
    go_wp2_with fail
    refine HH.out.mono ?_
    rintro e w1 ⟨rfl,hb⟩
    have HB1:=hh9 (za0 HBEL.out hb)
    have hX1:=HX.out.under hb
    have k0:=hX1.cell (by rw [HLEN.out];exact hlt)
    have k1:=hX1.frozen i
    rw [HLEN.out] at k0
    have HX2:=hh9 (hX1.set (by rw [HLEN.out];exact hlt) (hexT Z.toNat))
    clear hb hX1
    go_wp2_with fail
    go_roundw
    case rel=>exact ⟨i+1,by go_num,by omega,HB1.out.setCell (Nat.le_refl _) _,by unfold Hid;have:=HX2.out;rw [HLEN.out,<- HTK.out] at this;exact this⟩
    case measure=>simp [intOf];omega
   ·have hin:i=n:=by omega
    subst hin
    have HTX:Hid (TX w.heap.size (nums.map fun n:Int=>hexT n.toNat).length (nums.map fun n:Int=>hexT n.toNat) wr):=by
     have:=HX.out
     rw [List.take_of_length_le (by rw [<- HNN.out];omega)] at this
     rw [Hid,List.length_map,<- HNN.out]
     exact this
    have hle:(nums.map fun n:Int=>hexT n.toNat).length=i:=by rw [List.length_map,<- HNN.out]
    have hsl:(sepT s (nums.map fun n:Int=>hexT n.toNat)).length<=1000000000000:=by
     have a:=zjm s (nums.map fun n:Int=>hexT n.toNat)
     rw [List.map_map] at a
     have b:(nums.map ((fun x:List Int=>x.length+s.length) ∘ fun n:Int=>hexT n.toNat)).sum<=(nums.map fun _=>7).sum:=zig nums fun u hu=>by
      have:=ziv u.toNat
      simp
      omega
     rw [zjn,<- HNN.out] at b
     omega
    have HJ:=hh9 (zml HTX.out s hsl (by rw [hle];omega))
    rw [hle] at HJ
    clear hsl hle
    go_wp2_with fail
    refine HJ.out.mono ?_
    rintro e w1 ⟨rfl,hb⟩
    have HB1:=hh9 (za0 HBEL.out hb)
    clear hb
    go_wp2_with fail
    go_ret
    exact ⟨rfl,HB1.out⟩
def zih (d:Nat):Prop:=∀ (W:World) (X:XV) (t:Tree),ETree W X t->zax d t=true->Tabs W->(zaf d t).length<=1000000000000->Calls Tryz.prog 65 #[X.val] W (zcl (zaf d t) W)
def zgp (W:World) (K:Nat) (xs:List Int):Prop:=∃ v,W.cell? ⟨K,0,none⟩=some v/\RowAny W v xs.length (zat xs)
theorem zgp.below {W W':World} {K:Nat} {xs:List Int} (h:zgp W K xs) (hb:Below W.heap.size W W'):zgp W' K xs:=by
 obtain ⟨v,h1,h2⟩:=h
 exact ⟨v,zac h1 hb,h2.below hb⟩
def zut (xs:List Int) (w:World) (e:Ending) (w':World):Prop:=∃ K,e=.returned (.func (Fn.func 105) #[] #[.pointer (some ⟨K,0,none⟩)])/\zgp w' K xs/\Below w.heap.size w w'
theorem zr0 {xs:List Int} {v:Value} {w:World} (hv:RowAny w v xs.length (zat xs)):Calls Tryz.prog 89 #[v] w (zut xs w):=by
 obtain ⟨a,cap,rfl,_⟩:=hv.slice
 have hb:=(Below.refl w.heap.size w).alloc (Nat.le_refl _) (.cells #[.slice a xs.length cap] 32)
 have HE:Hid (zgp (w.alloc (.cells #[.slice a xs.length cap] 32)) w.heap.size xs):=⟨.slice a xs.length cap,by simp only [World.cell?,heap_alloc_new];rfl,hv.below hb⟩
 have HB:=hh9 hb
 clear hb hv
 go_enter Tryz.func89,Tryz.ntmps89
 go_wp2_with fail
 go_ret
 exact ⟨w.heap.size,rfl,HE.out,HB.out⟩
theorem ETree.slices {W:World} {X:XV} {t:Tree} (h:ETree W X t):∃ a m ca c n cc,X.ns=.slice a m ca/\X.ks=.slice c n cc:=by
 cases h with
 | mk vs h0 hl h1 h2 h3 h4 =>
  obtain ⟨a,ca,e1,_⟩:=h1.slice
  obtain ⟨c,cc,e2,_⟩:=h2.slice
  exact ⟨a,_,ca,c,_,cc,e1,e2⟩
theorem ETree.size {W:World} {X:XV} {t:Tree} (h:ETree W X t):∃ x ns lo hi kids,t=.mk X.kind x ns lo hi kids:=by
 cases h with | mk vs h0 hl h1 h2 h3 h4=>exact ⟨_,_,_,_,_,rfl⟩
theorem znw {d:Nat} (ih:zih d) {K:Nat} {xs:List Int} {W:World} {X:XV} {t:Tree} (h:ETree W X t) (hr:zax d t=true) (hT:Tabs W) (hl:(zaf d t).length<=1000000000000) (hK:zgp W K xs) :
  Calls Tryz.prog 105 #[X.val,.pointer (some ⟨K,0,none⟩)] W (zcl (brT (inB xs t.kind) (zaf d t)) W):=by
 obtain ⟨o1,o2⟩:=h.ones
 have ek:t.kind=X.kind:=by obtain ⟨_,_,_,_,_,rfl⟩:=h.size;rfl
 rw [ek]
 have hb:=(Below.refl W.heap.size W).alloc (Nat.le_refl _) (xobj X.kind X.lo X.hi X.text X.ns X.ks)
 obtain ⟨v,hk1,hk2⟩:=hK.below hb
 have hX:=X6.new W X.kind X.lo X.hi X.text X.ns X.ks
 have HI:=hh9 (fun (bb:Bool) (hbb:inB xs X.kind=bb)=>zcg (X:=X) hbb o1 o2 _ v hk2)
 have HTX:=hh9 (fun W' (hb':Below W.heap.size W W')=>ih W' X t (h.under hb') hr (hT.below hb') hl)
 have hsz:(za3 (zaf d t)).size<=1000000000000:=by rw [za9];exact hl
 obtain ⟨S,hS⟩:∃ S,S=za3 (zaf d t):=⟨_,rfl⟩
 have HBR:=hh9 (show ((⟨#[40]⟩:ByteArray)++S)++⟨#[41]⟩=za3 (brT true (zaf d t)) by
  rw [hS,show (⟨#[40]⟩:ByteArray)=za3 [40] from rfl,show (⟨#[41]⟩:ByteArray)=za3 [41] from rfl,zal,zal];rfl)
 have HNB:=hh9 (show S=za3 (brT false (zaf d t)) by rw [hS];rfl)
 have HTX2:Hid (∀ W',Below W.heap.size W W'->Calls Tryz.prog 65 #[X.val] W' (fun e w'=>e=.returned (.string S)/\Below W'.heap.size W' w')):=by rw [hS];exact HTX
 rw [<- hS] at hsz
 obtain ⟨k,s,nv,lo,hi,kv⟩:=X
 unfold xobj at hb hX HI hk1
 have HB:=hh9 hb
 have HX:=hh9 hX
 show Calls _ _ #[.agg #[.int .i64 k,.string s,nv,.int .i64 lo,.int .i64 hi,kv],.pointer (some ⟨K,0,none⟩)] W _
 clear hb h hK hk2 hS hT hr hl ek HTX hX
 cases hp:inB xs k
 all_goals
  have HP:=hh9 (HI.out _ hp)
  clear hp
  go_enter Tryz.func105,Tryz.ntmps105
  go_wp2_with fail
  refine HP.out.mono ?_
  rintro e w1 ⟨rfl,hb⟩
  have HB1:=hh9 (za0 HB.out hb)
  obtain ⟨a0,a1,a2,a3,a4,a5⟩:=(HX.out.under hb).cells
  clear hb
  go_wp2_with fail
  refine (HTX2.out _ HB1.out).mono ?_
  rintro e w2 ⟨rfl,hb⟩
  have HB2:=hh9 (za0 HB1.out hb)
  clear hb a0 a1 a2 a3 a4 a5
  go_wp2_with fail
  go_ret
  first
   | exact ⟨congrArg (fun u=>Ending.returned (Value.string u)) HBR.out,HB2.out⟩
   | exact ⟨congrArg (fun u=>Ending.returned (Value.string u)) HNB.out,HB2.out⟩
theorem zuu {d:Nat} (ih:zih d) {K:Nat} {xs:List Int} {w:World} {v:Value} {vs:List XV} {kids:List Tree} (h:ze6 w v vs kids) (hr:∀ t∈kids,zax d t=true) (hT:Tabs w) (hl:∀ t∈kids,(zaf d t).length<=1000000000000)
  (s:List Int) (hs:(sepT s (kids.map fun t=>brT (inB xs t.kind) (zaf d t))).length<=1000000000000) (hn1:1<=kids.length) (hn:kids.length<=2000000000000) (hK:zgp w K xs) :
  Calls Tryz.prog 88 #[v,.string (za3 s),.func (Fn.func 105) #[] #[.pointer (some ⟨K,0,none⟩)]] w (zcl (sepT s (kids.map fun t=>brT (inB xs t.kind) (zaf d t))) w):=by
 obtain ⟨h1,h2,h3⟩:=h
 rcases h1 with ⟨h0,_⟩ | ⟨g,off,cap,rfl,g1,g2,g3,g4⟩
 ·omega
 ·have HT:=hh9 hT
  have G4:=hh9 g4
  have H2:=hh9 h2
  have H3:=hh9 h3
  have HR:=hh9 hr
  have HL:=hh9 hl
  have HK:=hh9 hK
  have IH:=hh9 ih
  have HS:=hh9 hs
  obtain ⟨n,hnn⟩:∃ n,n=kids.length:=⟨_,rfl⟩
  rw [<- hnn] at g1 hn1 hn ⊢
  have HNN:=hh9 hnn
  unfold maxLen at g2
  clear hT g4 h2 h3 hr hl hK ih hs hnn
  have hmk:=zhr n (by omega) w
  have HB0:=hh9 ((Below.refl w.heap.size w).alloc (Nat.le_refl _) (.cells (zdf n []) 9))
  have HX0:Hid (TX w.heap.size n [] (w.alloc (.cells (zdf n []) 9))):=heap_alloc_new w _
  obtain ⟨W0,hW0⟩:∃ W0,W0=w.alloc (.cells (zdf n []) 9):=⟨_,rfl⟩
  rw [<- hW0] at hmk HB0 HX0
  clear hW0
  go_enter Tryz.func88,Tryz.ntmps88
  go_wp2_with fail
  go_loopw [15] (fun v wr=>∃ i:Nat,v=.int .i64 i/\i<=n/\Hid (Below w.heap.size w wr)/\Hid (TX w.heap.size n ((kids.take i).map fun t=>brT (inB xs t.kind) (zaf d t)) wr)) (fun v _=>n-(intOf v).toNat)
  case atStart=>exact ⟨0,rfl,by omega,HB0,HX0⟩
  case round =>
   obtain ⟨i,rfl,hi,HBEL,HX⟩:=hrel
   clear hmk
   by_cases hlt:i<n
   ·obtain ⟨Y,hY⟩:∃ y,vs[i]?=some y:=⟨_,List.getElem?_eq_getElem (by rw [H2.out,<- HNN.out];exact hlt)⟩
    obtain ⟨t,ht⟩:∃ y,kids[i]?=some y:=⟨_,List.getElem?_eq_getElem (by rw [<- HNN.out];exact hlt)⟩
    have CX:∀ (j:Nat) (u:Value),j<6->Y.cells[j]?=some u->wr.cell? ⟨g,off+(i*6+j),none⟩=some u:=fun j u hj hu =>
     (HBEL.out.cell (p:=⟨g,off+(i*6+j),none⟩) g3).trans (G4.out _ u ((zc9 vs i j Y hY hj).trans hu))
    obtain ⟨aa,am,ac,ca,cm,cc,en,ek⟩:=(H3.out i Y t hY ht).slices
    have HH:=hh9 (fun W' (hb:Below w.heap.size w W')=>znw (K:=K) (xs:=xs) IH.out ((H3.out i Y t hY ht).under hb) (HR.out t (List.mem_of_getElem? ht)) (HT.out.below hb) (HL.out t (List.mem_of_getElem? ht)) (HK.out.below hb))
    have hlen:((kids.take i).map fun t=>brT (inB xs t.kind) (zaf d t)).length=i:=by rw [List.length_map,List.length_take,<- HNN.out];omega
    have HTK:=hh9 (show (kids.take (i+1)).map (fun t=>brT (inB xs t.kind) (zaf d t))=((kids.take i).map fun t=>brT (inB xs t.kind) (zaf d t))++[brT (inB xs t.kind) (zaf d t)] by
     rw [List.take_add_one,ht];simp)
    have HLEN:=hh9 hlen
    obtain ⟨k,sx,nv,lo,hi',kv⟩:=Y
    simp only [] at en ek
    subst en ek
    have e0:=CX 0 _ (by omega) rfl
    have e1:=CX 1 _ (by omega) rfl
    have e2:=CX 2 _ (by omega) rfl
    have e3:=CX 3 _ (by omega) rfl
    have e4:=CX 4 _ (by omega) rfl
    have e5:=CX 5 _ (by omega) rfl
    rw [<- Nat.add_assoc] at e0 e1 e2 e3 e4 e5
    rw [Nat.add_zero] at e0
    have hxb:=HX.out.lt
    clear hY ht hlen CX
    have hne:wr.heap.size≠w.heap.size:=by omega
    have HA:=hh9 (zjd HBEL.out (xobj k lo hi' sx (.slice aa am ac) (.slice ca cm cc)))
    have HXA:=hh9 (HX.out.under ((Below.refl wr.heap.size wr).alloc (Nat.le_refl _) (xobj k lo hi' sx (.slice aa am ac) (.slice ca cm cc))))
    unfold xobj at HA HXA
    go_wp2_with fail
    refine (HH.out _ HA.out).mono ?_
    rintro e w1 ⟨rfl,hb⟩
    have HB1:=hh9 (za0 HA.out hb)
    have hX1:=HXA.out.under hb
    have k0:=hX1.cell (by rw [HLEN.out];exact hlt)
    have k1:=hX1.frozen i
    rw [HLEN.out] at k0
    have HX2:=hh9 (hX1.set (by rw [HLEN.out];exact hlt) (brT (inB xs t.kind) (zaf d t)))
    clear hb hX1 e0 e1 e2 e3 e4 e5
    go_wp2_with fail
    go_roundw
    case rel=>exact ⟨i+1,by go_num,by omega,HB1.out.setCell (Nat.le_refl _) _,by unfold Hid;have:=HX2.out;rw [HLEN.out,<- HTK.out] at this;exact this⟩
    case measure=>simp [intOf];omega
   ·have hin:i=n:=by omega
    subst hin
    have HTX:Hid (TX w.heap.size (kids.map fun t=>brT (inB xs t.kind) (zaf d t)).length (kids.map fun t=>brT (inB xs t.kind) (zaf d t)) wr):=by
     have:=HX.out
     rw [List.take_of_length_le (by rw [<- HNN.out];omega)] at this
     rw [Hid,List.length_map,<- HNN.out]
     exact this
    have hle:(kids.map fun t=>brT (inB xs t.kind) (zaf d t)).length=i:=by rw [List.length_map,<- HNN.out]
    have HJ:=hh9 (zml HTX.out s HS.out (by rw [hle];omega))
    rw [hle] at HJ
    clear hle
    go_wp2_with fail
    refine HJ.out.mono ?_
    rintro e w1 ⟨rfl,hb⟩
    have HB1:=hh9 (za0 HBEL.out hb)
    clear hb
    go_wp2_with fail
    go_ret
    exact ⟨rfl,HB1.out⟩
end Go.Proofs.YtekjnfldgjcgeaaGreatDoor
namespace Go.Proofs.YtekjnfldgjcgeaaGreatDoor
def Has (f:Nat->Int) (p:Nat) (x:List Int):Prop:=∀ (i:Nat) (c:Int),x[i]?=some c->f (p+i)=c
theorem Has.left {f:Nat->Int} {p:Nat} {x y:List Int} (h:Has f p (x++y)):Has f p x:=fun i c hc=>h i c (by rw [List.getElem?_append_left (List.getElem?_eq_some_iff.1 hc).1];exact hc)
theorem Has.right {f:Nat->Int} {p:Nat} {x y:List Int} (h:Has f p (x++y)):Has f (p+x.length) y:=fun i c hc=>by
 rw [Nat.add_assoc]
 exact h (x.length+i) c (by rw [List.getElem?_append_right (by omega)];simpa using hc)
theorem Has.head {f:Nat->Int} {p:Nat} {c:Int} {x:List Int} (h:Has f p (c::x)):f p=c:=h 0 c rfl
theorem Has.tail {f:Nat->Int} {p:Nat} {c:Int} {x:List Int} (h:Has f p (c::x)):Has f (p+1) x:=fun i a hi=>by
 have:=h (i+1) a hi
 rw [<- this]
 congr 1
 omega
theorem Has.run {P:Int->Bool} {f:Nat->Int} {p:Nat} {x:List Int} (h:Has f p x) (ha:x.all P=true) (hs:P (f (p+x.length))=false):zbp P f p=p+x.length:=by
 refine IsRun.eq ⟨by omega,fun i a b=>?_,hs⟩
 have hi:i-p<x.length:=by omega
 have:=h (i-p) x[i-p] (List.getElem?_eq_getElem hi)
 rw [show p+(i-p)=i by omega] at this
 rw [this]
 exact List.all_eq_true.1 ha _ (List.getElem_mem hi)
theorem Has.cut {f:Nat->Int} {p:Nat} {x:List Int} (h:Has f p x):cut f p x.length=x:=by
 apply List.ext_getElem?
 intro i
 unfold Go.Proofs.YtekjnfldgjcgeaaGreatDoor.cut
 by_cases hi:i<x.length
 ·have:=h i x[i] (List.getElem?_eq_getElem hi)
  rw [List.getElem?_map,List.getElem?_range hi,List.getElem?_eq_getElem hi,Option.map_some,this]
 ·rw [List.getElem?_eq_none (by simp;omega),List.getElem?_eq_none (by omega)]
theorem qd1 {c:Int} (h:nlB c=true):isNm c=true/\low c=c:=by
 unfold nlB smB isDc at h
 unfold isNm isAl isDc low
 simp at h ⊢
 omega
theorem qd2 {c:Int} (h:foB c=true):isSt c=true/\low c=c:=by
 unfold foB at h
 unfold isSt low
 simp at h ⊢
 omega
theorem zuv {P:Int->Bool} {x:List Int} (h:x.all P=true) (hp:∀ c,P c=true->low c=c):x.map low=x:=by
 rw [List.all_eq_true] at h
 have:x.map low=x.map id:=List.map_congr_left fun c hc=>hp c (h c hc)
 rw [this,List.map_id]
theorem zf1 {x:List Int} (h:zdc x=true):x.length<=40/\x.all nlB=true/\∃ c l,x=c::l/\isAl c=true:=by
 cases x with
 | nil=>cases h
 | cons c l =>
  unfold zdc at h
  simp only [Bool.and_eq_true,decide_eq_true_eq] at h
  refine ⟨h.1.1,h.2,c,l,rfl,?_⟩
  have:=h.1.2
  unfold smB at this
  unfold isAl
  simp at this ⊢
  omega
theorem Has.name {f:Nat->Int} {p:Nat} {x:List Int} (h:Has f p x) (hn:zdc x=true) (hs:isNm (f (p+x.length))=false):zcc f p=.ok x (p+x.length):=by
 obtain ⟨h1,h2,_⟩:=zf1 hn
 have hr:zbp isNm f p=p+x.length:=h.run (List.all_eq_true.2 fun c hc=>(qd1 (List.all_eq_true.1 h2 c hc)).1) hs
 unfold zcc
 rw [hr,Nat.add_sub_cancel_left,if_neg (by omega),h.cut,zuv h2 fun c hc=>(qd1 hc).2]
theorem Has.quote {f:Nat->Int} {p:Nat} {x:List Int} (h:Has f p ([34]++x++[34])) (hx:x.all foB=true):zb2 f p=.ok x (p+(x.length+2))/\x.map low=x:=by
 have h0:f p=34:=h.left.left.head
 have h1:Has f (p+1) x:=h.left.right
 have h2:f (p+1+x.length)=34:=by
  have:=h.right.head
  rw [<- this]
  congr 1
  simp
  omega
 have hr:zbp isSt f (p+1)=p+1+x.length:=h1.run (List.all_eq_true.2 fun c hc=>(qd2 (List.all_eq_true.1 hx c hc)).1) (by rw [h2];decide)
 refine ⟨?_,zuv hx fun c hc=>(qd2 hc).2⟩
 unfold zb2
 rw [if_pos h0,hr,if_pos h2,Nat.add_sub_cancel_left,h1.cut]
 congr 1
 omega
theorem zuw {d:Nat} (h:d<10):dig (48+(d:Int))=d:=by unfold dig;rw [if_pos (by omega)];omega
theorem zpt {d:Nat} (h:d<16):dig (hexC d)=d:=by
 unfold hexC dig
 by_cases g:d<10
 ·rw [if_pos g,if_pos (by omega)];omega
 ·rw [if_neg g,if_neg (by omega),if_neg (by omega),if_pos (by omega)];omega
structure Num (b:Int) (x:List Int) (n:Int):Prop where
 pos:0<x.length
 all:x.all (isDg b)=true
 is:∀ (f:Nat->Int) (p:Nat),Has f p x->val b f p x.length=n
theorem Num.one {b c m:Int} (hc:dig c=m) (hm:m<b):Num b [c] m:=by
 refine ⟨by simp,by unfold isDg;simp [hc,hm],fun f p h=>?_⟩
 show val b f p (0+1)=m
 unfold val
 rw [Nat.add_zero,h.head,hc]
 unfold val
 omega
theorem Num.snoc {b c m n:Int} {x:List Int} (h:Num b x n) (hc:dig c=m) (hm:m<b):Num b (x++[c]) (n*b+m):=by
 refine ⟨by simp,by rw [List.all_append,h.all];unfold isDg;simp [hc,hm],fun f p hh=>?_⟩
 rw [List.length_append]
 show val b f p (x.length+1)=_
 unfold val
 rw [h.is f p hh.left,hh.right.head,hc]
theorem zux:∀ (k n:Nat),n<10 ^ k->0<k->Num 10 (decF k n) n
 | 0,n,_,h=>absurd h (by omega)
 | k+1,n,h,_=>by
  unfold decF
  by_cases g:n<10
  ·rw [if_pos g,Nat.mod_eq_of_lt g]
   exact Num.one (zuw g) (by omega)
  ·have hk:0<k:=by
    rcases Nat.eq_zero_or_pos k with e | e
    ·subst e;simp at h;omega
    ·exact e
   have ih:=zux k (n / 10) (by rw [Nat.pow_succ] at h;omega) hk
   rw [if_neg g]
   have:=ih.snoc (c:=48+((n%10:Nat):Int)) (m:=((n%10:Nat):Int)) (zuw (by omega)) (by omega)
   rwa [show ((n / 10:Nat):Int)*10+((n%10:Nat):Int)=(n:Int) by omega] at this
theorem zr1:∀ (k n:Nat),n<16 ^ k->0<k->Num 16 (hexF k n) n
 | 0,n,_,h=>absurd h (by omega)
 | k+1,n,h,_=>by
  unfold hexF
  by_cases g:n<16
  ·rw [if_pos g,Nat.mod_eq_of_lt g]
   exact Num.one (zpt g) (by omega)
  ·have hk:0<k:=by
    rcases Nat.eq_zero_or_pos k with e | e
    ·subst e;simp at h;omega
    ·exact e
   have ih:=zr1 k (n / 16) (by rw [Nat.pow_succ] at h;omega) hk
   rw [if_neg g]
   have:=ih.snoc (c:=hexC (n%16)) (m:=((n%16:Nat):Int)) (zpt (by omega)) (by omega)
   rwa [show ((n / 16:Nat):Int)*16+((n%16:Nat):Int)=(n:Int) by omega] at this
theorem zmm (n:Int) (h0:0<=n) (h:n<=1114111):Num 16 (hexT n.toNat) n:=by
 unfold hexT
 by_cases g:n.toNat<16
 ·rw [if_pos g]
  have:=(Num.one (b:=16) (c:=48) (m:=0) (by decide) (by omega)).snoc (c:=hexC n.toNat) (m:=(n.toNat:Int)) (zpt g) (by omega)
  rwa [show (0:Int)*16+(n.toNat:Int)=n by omega] at this
 ·rw [if_neg g]
  have:=zr1 6 n.toNat (by rw [show (16:Nat) ^ 6=16777216 by decide];omega) (by omega)
  rwa [show (n.toNat:Int)=n by omega] at this
theorem zix (n:Int) (h0:0<=n) (h:n<=200):Num 10 (decT n.toNat) n:=by
 have:=zux 20 n.toNat (by rw [show (10:Nat) ^ 20=100000000000000000000 by decide];omega) (by omega)
 rwa [show (n.toNat:Int)=n by omega] at this
theorem Num.at {b lim n:Int} {x:List Int} (h:Num b x n) {f:Nat->Int} {p:Nat} (hh:Has f p x) (hs:isDg b (f (p+x.length))=false) (hl:n<=lim):zbl b lim f p=.ok n (p+x.length):=by
 have hr:=hh.run h.all hs
 have hp:=h.pos
 unfold zbl
 rw [hr,if_neg (by omega),Nat.add_sub_cancel_left,h.is f p hh,if_neg (by omega)]
theorem Num.dc {n:Int} {x:List Int} (h:Num 10 x n) {f:Nat->Int} {p:Nat} (hh:Has f p x):isDc (f p)=true:=by
 obtain ⟨hp,ha,_⟩:=h
 cases x with
 | nil=>simp at hp
 | cons c l =>
  rw [hh.head]
  have:=List.all_eq_true.1 ha c (by simp)
  unfold isDg at this
  simp at this
  unfold dig at this
  unfold isDc
  simp
  split at this
  ·omega
  ·split at this
   ·omega
   ·split at this<;>omega
theorem zr2 {f:Nat->Int} {p:Nat} (h1:isDc (f p)=false) (h2:f p≠42):countAt f p=.ok (0,0,false) p:=by
 unfold countAt
 rw [h1]
 simp [h2]
 omega
theorem zr3 {f:Nat->Int} {p q:Nat} {lo:Int} (h0:0<=lo) (h1:isDc (f p)=true) (h:zbl 10 200 f p=.ok lo q) (h2:f q≠42):countAt f p=.ok (lo,lo,true) q:=by
 unfold countAt
 rw [h1]
 simp only [if_true,h]
 rw [if_neg h2,show max lo 0=lo by omega,decide_eq_true h0]
theorem qbo {f:Nat->Int} {p q q':Nat} {lo lo' hi:Int} (h:(if isDc (f p) then zbl 10 200 f p else .ok (-1) p)=.ok lo' q) (hq:f q=42) (h2:(if isDc (f (q+1)) then zbl 10 200 f (q+1) else .ok (-1) (q+1))=.ok hi q') (hm:max lo' 0=lo):countAt f p=.ok (lo,hi,true) q':=by
 unfold countAt
 rw [h]
 simp only []
 rw [if_pos hq,h2,hm]
theorem zuy {c:Int} (h:isDc c=false):isDg 10 c=false:=by
 unfold isDc at h
 simp at h
 unfold isDg dig
 simp
 split
 ·omega
 ·split
  ·omega
  ·split<;>omega
theorem qd3 {lo hi:Int} (hc:cntB lo hi=true) {f:Nat->Int} {p:Nat} (h:Has f p (cntT lo hi)) (h1:isDc (f (p+(cntT lo hi).length))=false) (h2:f (p+(cntT lo hi).length)≠42):countAt f p=.ok (lo,hi,true) (p+(cntT lo hi).length):=by
 unfold cntB at hc
 simp at hc
 obtain ⟨⟨c0,c1⟩,c2⟩:=hc
 by_cases g0:hi=0
 ·have hlo:lo=0:=by omega
  subst g0 hlo
  have e:cntT 0 0=[48]:=rfl
  rw [e] at h h1 h2 ⊢
  have hn:Num 10 [48] 0:=Num.one (by decide) (by omega)
  exact zr3 (by omega) (hn.dc h) (hn.at h (zuy h1) (by omega)) h2
 ·by_cases g1:hi=lo
  ·subst g1
   have e:cntT hi hi=decT hi.toNat:=by unfold cntT;rw [if_neg g0,if_pos (by omega),if_pos rfl,List.append_nil]
   rw [e] at h h1 h2 ⊢
   have hn:=zix hi (by omega) (by omega)
   exact zr3 (by omega) (hn.dc h) (hn.at h (zuy h1) (by omega)) h2
  ·obtain ⟨u,hu⟩:∃ u,u=(if 0<lo then decT lo.toNat else []):=⟨_,rfl⟩
   obtain ⟨v,hv⟩:∃ v,v=(if 0<=hi then decT hi.toNat else []):=⟨_,rfl⟩
   have e:cntT lo hi=u++([42]++v):=by unfold cntT;rw [if_neg g0,if_neg g1,<- hu,<- hv]
   rw [e] at h h1 h2 ⊢
   have hL:(u++([42]++v)).length=u.length+1+v.length:=by simp;omega
   rw [hL] at h1 h2 ⊢
   have k42:f (p+u.length)=42:=h.right.left.head
   have hV:Has f (p+u.length+1) v:=h.right.right
   have a1:∃ lo',(if isDc (f p) then zbl 10 200 f p else .ok (-1) p)=.ok lo' (p+u.length)/\max lo' 0=lo:=by
    by_cases g2:0<lo
    ·rw [if_pos g2] at hu
     subst hu
     have hn:=zix lo (by omega) (by omega)
     refine ⟨lo,?_,by omega⟩
     rw [if_pos (hn.dc h.left)]
     exact hn.at h.left (by rw [k42];decide) (by omega)
    ·rw [if_neg g2] at hu
     subst hu
     refine ⟨-1,?_,by omega⟩
     have:f p=42:=k42
     rw [this,if_neg (by decide)]
     rfl
   have a2:(if isDc (f (p+u.length+1)) then zbl 10 200 f (p+u.length+1) else .ok (-1) (p+u.length+1))=.ok hi (p+u.length+1+v.length):=by
    by_cases g2:0<=hi
    ·rw [if_pos g2] at hv
     subst hv
     have hn:=zix hi (by omega) (by omega)
     rw [if_pos (hn.dc hV)]
     refine hn.at hV ?_ (by omega)
     rw [show p+u.length+1+(decT hi.toNat).length=p+(u.length+1+(decT hi.toNat).length) by omega]
     exact zuy h1
    ·rw [if_neg g2] at hv
     subst hv
     have:isDc (f (p+u.length+1))=false:=h1
     rw [this]
     have hh:hi=-1:=by omega
     rw [hh]
     rfl
   obtain ⟨lo',b1,b2⟩:=a1
   have:=qbo b1 k42 a2 b2
   rw [this]
   congr 1
   omega
end Go.Proofs.YtekjnfldgjcgeaaGreatDoor
