/- Part 2 of what the laws of the grammar rest on. -/
import Derived.Test.YtekjnfldgjcgeaaGreatDoorA1
set_option linter.all false
set_option maxRecDepth 100000
set_option maxHeartbeats 8000000
namespace Go.Proofs.YtekjnfldgjcgeaaGreatDoor
open Go.RowKit
theorem zji (a:Nat) (h:a<16):(⟨#[48,49,50,51,52,53,54,55,56,57,65,66,67,68,69,70]⟩:ByteArray).extract a (a+1)=za3 [hexC a]:=by
 have key:∀ i:Fin 16,(⟨#[48,49,50,51,52,53,54,55,56,57,65,66,67,68,69,70]⟩:ByteArray).extract i.val (i.val+1)=za3 [hexC i.val]:=by decide +kernel
 exact key ⟨a,h⟩
theorem zjj (S:ByteArray) (a a1:Nat) (h:a<=a1) (h2:a1<=S.size) (hs:S.size<=1000) (W:World) :
  (Instr.slice 9 (.string S) (some (.int .i64 (a:Int))) (some (.int .i64 (a1:Int))) none).run Tryz.prog W=.ok (.string (S.extract a a1)) W:=by
 have q1:decide ((a:Int)<=(a1:Int))=true:=decide_eq_true (by omega)
 have q2:decide ((a1:Int)<=(S.size:Int))=true:=decide_eq_true (by omega)
 have hu:=Tryz.underlying9
 have k1:¬ ((a1:Int)<0):=by omega
 have k2:¬ ((a:Int)<0):=by omega
 simp [Instr.slice,go_sem,h,h2,q1,q2,k1,k2]
def hexD:Nat->Nat->List Int
 | 0,n=>[hexC (n / 16%16),hexC (n%16)]
 | f+1,n=>if n<256 then [hexC (n / 16%16),hexC (n%16)] else if n<4096 then [hexC (n / 256)]++[hexC (n / 16%16),hexC (n%16)] else hexD f (n / 256)++[hexC (n / 16%16),hexC (n%16)]
theorem zqv:∀ f n,(hexD f n).length<=2*f+3
 | 0,_=>by simp [hexD]
 | f+1,n=>by
  rw [hexD]
  split
  ·simp
  ·split
   ·simp
   ·have:=zqv f (n / 256)
    simp
    omega
theorem zya:∀ (f n:Nat) (w:World),n<256 ^ (f+1)->f<=5->Calls Tryz.prog 77 #[.int .i64 n] w fun e w'=>e=.returned (.string (za3 (hexD f n)))/\Below w.heap.size w w':=by
 intro f
 induction f with
 | zero =>
  intro n w h _
  have hs:n<256:=by simpa using h
  obtain ⟨u,hu0⟩:∃ u:Nat,n / 16=u:=⟨_,rfl⟩
  obtain ⟨a,ha0⟩:∃ a:Nat,u%16=a:=⟨_,rfl⟩
  obtain ⟨b,hb0⟩:∃ b:Nat,n%16=b:=⟨_,rfl⟩
  have hu:(n:Int) / 16=(u:Int):=by omega
  have ha:(u:Int)%16=(a:Int):=by omega
  have hb:(n:Int)%16=(b:Int):=by omega
  have hal:a<16:=by omega
  have hbl:b<16:=by omega
  obtain ⟨a1,ha1⟩:∃ a1:Nat,a+1=a1:=⟨_,rfl⟩
  obtain ⟨b1,hb1⟩:∃ b1:Nat,b+1=b1:=⟨_,rfl⟩
  have hai:(a:Int)+1=(a1:Int):=by omega
  have hbi:(b:Int)+1=(b1:Int):=by omega
  have hca:=zji a hal
  have hcb:=zji b hbl
  rw [ha1] at hca
  rw [hb1] at hcb
  have p1:a<=a1:=by omega
  have p2:a1<=16:=by omega
  have p3:b<=b1:=by omega
  have p4:b1<=16:=by omega
  have q1:decide ((a:Int)<=(a1:Int))=true:=decide_eq_true (by omega)
  have q2:decide ((b:Int)<=(b1:Int))=true:=decide_eq_true (by omega)
  have q3:decide ((a1:Int)<=16)=true:=decide_eq_true (by omega)
  have q4:decide ((b1:Int)<=16)=true:=decide_eq_true (by omega)
  have s1:(za3 [hexC a]).size=1:=rfl
  have s2:(za3 [hexC b]).size=1:=rfl
  have t1:(n:Int).tdiv 16=(u:Int):=by rw [Int.tdiv_eq_ediv_of_nonneg (by omega)];exact hu
  have t2:(u:Int).tmod 16=(a:Int):=by rw [Int.tmod_eq_emod_of_nonneg (by omega)];exact ha
  have t3:(n:Int).tmod 16=(b:Int):=by rw [Int.tmod_eq_emod_of_nonneg (by omega)];exact hb
  have t4:IntKind.i64.wrap ((a:Int)+1)=(a1:Int):=by rw [hai];exact IntWalk.i64_in _ ⟨by omega,by omega⟩
  have t5:IntKind.i64.wrap ((b:Int)+1)=(b1:Int):=by rw [hbi];exact IntWalk.i64_in _ ⟨by omega,by omega⟩
  have t6:IntKind.i64.wrap (u:Int)=(u:Int):=IntWalk.i64_in _ ⟨by omega,by omega⟩
  have t7:IntKind.i64.wrap (a:Int)=(a:Int):=IntWalk.i64_in _ ⟨by omega,by omega⟩
  have t8:IntKind.i64.wrap (b:Int)=(b:Int):=IntWalk.i64_in _ ⟨by omega,by omega⟩
  have t9:IntKind.i64.wrap (a1:Int)=(a1:Int):=IntWalk.i64_in _ ⟨by omega,by omega⟩
  have t10:IntKind.i64.wrap (b1:Int)=(b1:Int):=IntWalk.i64_in _ ⟨by omega,by omega⟩
  have r1:=fun (W:World)=>zjj ⟨#[48,49,50,51,52,53,54,55,56,57,65,66,67,68,69,70]⟩ a a1 p1 p2 (by decide) W
  have r2:=fun (W:World)=>zjj ⟨#[48,49,50,51,52,53,54,55,56,57,65,66,67,68,69,70]⟩ b b1 p3 p4 (by decide) W
  rw [hca] at r1
  rw [hcb] at r2
  clear hca hcb p1 p2 p3 p4 q1 q2 q3 q4
  have hfin:za3 [hexC a]++za3 [hexC b]=za3 (hexD 0 n):=by rw [zal];unfold hexD;rw [hu0,ha0,hb0];rfl
  have HFIN:=hh9 hfin
  have q:decide ((n:Int)<256)=true:=decide_eq_true (by omega)
  clear h hu0 ha0 hb0 hfin ha1 hb1
  go_enter Tryz.func77,Tryz.ntmps77
  go_wp2_with fail
  go_quiet (fail)
  go_wp2_with fail
  go_ret
  exact ⟨congrArg (fun u=>Ending.returned (Value.string u)) HFIN.out,za7 (Below.refl _ _) _⟩
 | succ f ih =>
  intro n w h hf
  have hn18:(n:Int)<=1000000000000000000:=by
   have h1:(256:Nat) ^ (f+1+1)<=256 ^ 7:=Nat.pow_le_pow_right (by omega) (by omega)
   have h2:(256:Nat) ^ 7=72057594037927936:=by decide
   rw [h2] at h1
   have h3:=Nat.lt_of_lt_of_le h h1
   omega
  obtain ⟨u,hu0⟩:∃ u:Nat,n / 16=u:=⟨_,rfl⟩
  obtain ⟨a,ha0⟩:∃ a:Nat,u%16=a:=⟨_,rfl⟩
  obtain ⟨b,hb0⟩:∃ b:Nat,n%16=b:=⟨_,rfl⟩
  have hu:(n:Int) / 16=(u:Int):=by omega
  have ha:(u:Int)%16=(a:Int):=by omega
  have hb:(n:Int)%16=(b:Int):=by omega
  have hal:a<16:=by omega
  have hbl:b<16:=by omega
  obtain ⟨a1,ha1⟩:∃ a1:Nat,a+1=a1:=⟨_,rfl⟩
  obtain ⟨b1,hb1⟩:∃ b1:Nat,b+1=b1:=⟨_,rfl⟩
  have hai:(a:Int)+1=(a1:Int):=by omega
  have hbi:(b:Int)+1=(b1:Int):=by omega
  have hca:=zji a hal
  have hcb:=zji b hbl
  rw [ha1] at hca
  rw [hb1] at hcb
  have p1:a<=a1:=by omega
  have p2:a1<=16:=by omega
  have p3:b<=b1:=by omega
  have p4:b1<=16:=by omega
  have q1:decide ((a:Int)<=(a1:Int))=true:=decide_eq_true (by omega)
  have q2:decide ((b:Int)<=(b1:Int))=true:=decide_eq_true (by omega)
  have q3:decide ((a1:Int)<=16)=true:=decide_eq_true (by omega)
  have q4:decide ((b1:Int)<=16)=true:=decide_eq_true (by omega)
  have s1:(za3 [hexC a]).size=1:=rfl
  have s2:(za3 [hexC b]).size=1:=rfl
  have t1:(n:Int).tdiv 16=(u:Int):=by rw [Int.tdiv_eq_ediv_of_nonneg (by omega)];exact hu
  have t2:(u:Int).tmod 16=(a:Int):=by rw [Int.tmod_eq_emod_of_nonneg (by omega)];exact ha
  have t3:(n:Int).tmod 16=(b:Int):=by rw [Int.tmod_eq_emod_of_nonneg (by omega)];exact hb
  have t4:IntKind.i64.wrap ((a:Int)+1)=(a1:Int):=by rw [hai];exact IntWalk.i64_in _ ⟨by omega,by omega⟩
  have t5:IntKind.i64.wrap ((b:Int)+1)=(b1:Int):=by rw [hbi];exact IntWalk.i64_in _ ⟨by omega,by omega⟩
  have t6:IntKind.i64.wrap (u:Int)=(u:Int):=IntWalk.i64_in _ ⟨by omega,by omega⟩
  have t7:IntKind.i64.wrap (a:Int)=(a:Int):=IntWalk.i64_in _ ⟨by omega,by omega⟩
  have t8:IntKind.i64.wrap (b:Int)=(b:Int):=IntWalk.i64_in _ ⟨by omega,by omega⟩
  have t9:IntKind.i64.wrap (a1:Int)=(a1:Int):=IntWalk.i64_in _ ⟨by omega,by omega⟩
  have t10:IntKind.i64.wrap (b1:Int)=(b1:Int):=IntWalk.i64_in _ ⟨by omega,by omega⟩
  have r1:=fun (W:World)=>zjj ⟨#[48,49,50,51,52,53,54,55,56,57,65,66,67,68,69,70]⟩ a a1 p1 p2 (by decide) W
  have r2:=fun (W:World)=>zjj ⟨#[48,49,50,51,52,53,54,55,56,57,65,66,67,68,69,70]⟩ b b1 p3 p4 (by decide) W
  rw [hca] at r1
  rw [hcb] at r2
  clear hca hcb p1 p2 p3 p4 q1 q2 q3 q4
  by_cases hs:n<256
  ·have q:decide ((n:Int)<256)=true:=decide_eq_true (by omega)
   have hfin:za3 [hexC a]++za3 [hexC b]=za3 (hexD (f+1) n):=by rw [zal];unfold hexD;rw [if_pos hs,hu0,ha0,hb0];rfl
   have HFIN:=hh9 hfin
   clear h hu0 ha0 hb0 hfin ha1 hb1 ih
   go_enter Tryz.func77,Tryz.ntmps77
   go_wp2_with fail
   go_quiet (fail)
   go_wp2_with fail
   go_ret
   exact ⟨congrArg (fun u=>Ending.returned (Value.string u)) HFIN.out,za7 (Below.refl _ _) _⟩
  ·have q:decide ((n:Int)<256)=false:=decide_eq_false (by omega)
   obtain ⟨c,hc0⟩:∃ c:Nat,n / 256=c:=⟨_,rfl⟩
   have hc:(n:Int) / 256=(c:Int):=by omega
   by_cases hs2:n<4096
   ·have qq:decide ((n:Int)<4096)=true:=decide_eq_true (by omega)
    have hcl:c<16:=by omega
    obtain ⟨d1,hd1⟩:∃ d1:Nat,c+1=d1:=⟨_,rfl⟩
    have hdi:(c:Int)+1=(d1:Int):=by omega
    have hcc:=zji c hcl
    rw [hd1] at hcc
    have r3:=fun (W:World)=>zjj ⟨#[48,49,50,51,52,53,54,55,56,57,65,66,67,68,69,70]⟩ c d1 (by omega) (by show d1<=16;omega) (by decide) W
    rw [hcc] at r3
    have s3:(za3 [hexC c]).size=1:=rfl
    have hfin:za3 [hexC c]++(za3 [hexC a]++za3 [hexC b])=za3 (hexD (f+1) n):=by rw [zal,zal];unfold hexD;rw [if_neg hs,if_pos hs2,hu0,ha0,hb0,hc0];rfl
    have HFIN:=hh9 hfin
    clear h hu0 ha0 hb0 hfin ha1 hb1 ih hcc hd1 hc0
    go_enter Tryz.func77,Tryz.ntmps77
    go_wp2_with fail
    go_quiet (fail)
    go_wp2_with fail
    go_ret
    exact ⟨congrArg (fun u=>Ending.returned (Value.string u)) HFIN.out,za7 (Below.refl _ _) _⟩
   ·have qq:decide ((n:Int)<4096)=false:=decide_eq_false (by omega)
    have hdl:c<256 ^ (f+1):=by
     have:n<256 ^ (f+1)*256:=by rw [<- Nat.pow_succ];exact h
     omega
    have HC:=hh9 (fun W=>ih c W hdl (by omega))
    have hlen:(hexD f c).length<=100:=by have:=zqv f c;omega
    have hT:(za3 (hexD f c)).size<=100:=by rw [za9];exact hlen
    have hfin:za3 (hexD f c)++(za3 [hexC a]++za3 [hexC b])=za3 (hexD (f+1) n):=by rw [zal,zal];rw [hexD,if_neg hs,if_neg hs2,hu0,ha0,hb0,hc0];rfl
    have HFIN:=hh9 hfin
    obtain ⟨T,hTT⟩:∃ T,T=za3 (hexD f c):=⟨_,rfl⟩
    rw [<- hTT] at HC hT HFIN
    clear h hu0 ha0 hb0 hfin ha1 hb1 ih hc0 hTT hlen hdl
    go_enter Tryz.func77,Tryz.ntmps77
    go_wp2_with fail
    go_quiet (fail)
    go_wp2_with fail
    refine (HC.out _).mono ?_
    rintro e w1 ⟨rfl,hb⟩
    have HB:Hid (Below w.heap.size w w1):=(za7 (Below.refl w.heap.size w) nq).trans hb
    clear hb
    go_wp2_with fail
    go_ret
    exact ⟨congrArg (fun u=>Ending.returned (Value.string u)) HFIN.out,HB.out⟩
theorem zyb (lo hi:Int) (w:World):Calls Tryz.prog 119 #[.int .i64 lo,.int .i64 hi] w (zd3 (cntB lo hi) w):=by
 by_cases a:0<=lo
 ·by_cases b:lo<=200
  ·by_cases c:hi=-1
   ·subst c
    have e:cntB lo (-1)=true:=by unfold cntB;simp [a,b]
    rw [e]
    clear e
    go_enter Tryz.func119,Tryz.ntmps119
    go_wp2
    go_ret
    exact ⟨rfl,rfl⟩
   ·have qc:(hi==-1)=false:=by simpa using c
    by_cases d:lo<=hi
    ·by_cases f:hi<=200
     ·have e:cntB lo hi=true:=by unfold cntB;simp [a,b,d,f]
      have qd:decide (lo<=hi)=true:=decide_eq_true d
      have qf:decide (hi<=200)=true:=decide_eq_true f
      rw [e]
      clear e c
      go_enter Tryz.func119,Tryz.ntmps119
      go_wp2
      go_ret
      exact ⟨rfl,rfl⟩
     ·have e:cntB lo hi=false:=by unfold cntB;simp [a,b,c,d,f]
      have qd:decide (lo<=hi)=true:=decide_eq_true d
      have qf:decide (hi<=200)=false:=decide_eq_false f
      rw [e]
      clear e c
      go_enter Tryz.func119,Tryz.ntmps119
      go_wp2
      go_ret
      exact ⟨rfl,rfl⟩
    ·have e:cntB lo hi=false:=by unfold cntB;simp [a,b,c,d]
     have qd:decide (lo<=hi)=false:=decide_eq_false d
     rw [e]
     clear e c
     go_enter Tryz.func119,Tryz.ntmps119
     go_wp2
     go_ret
     exact ⟨rfl,rfl⟩
  ·have e:cntB lo hi=false:=by unfold cntB;simp [b]
   have qb:decide (lo<=200)=false:=decide_eq_false b
   rw [e]
   clear e
   go_enter Tryz.func119,Tryz.ntmps119
   go_wp2
   go_ret
   exact ⟨rfl,rfl⟩
 ·have e:cntB lo hi=false:=by unfold cntB;simp [a]
  have qa:decide (0<=lo)=false:=decide_eq_false a
  rw [e]
  clear e
  go_enter Tryz.func119,Tryz.ntmps119
  go_wp2
  go_ret
  exact ⟨rfl,rfl⟩
def inB (x:List Int) (k:Int):Bool:=x.any (·==k)
theorem qbe {x:List Int} {i:Nat} {k:Int} (h:x[i]?=some k):inB x k=true:=by
 unfold inB
 rw [List.any_eq_true]
 exact ⟨k,List.mem_of_getElem? h,by simp⟩
theorem qcx {x:List Int} {n:Nat} {k:Int} (hn:x.length<=n) (h:∀ (i:Nat) (c:Int),i<n->x[i]?=some c->c≠k):inB x k=false:=by
 unfold inB
 rw [List.any_eq_false]
 intro c hc
 obtain ⟨i,hi⟩:=List.getElem?_of_mem hc
 have:=h i c (Nat.lt_of_lt_of_le (List.getElem?_eq_some_iff.1 hi).1 hn) hi
 simpa using this
theorem zyc {x:List Int} {v:Value} (k:Int) (w:World) (hv:RowAny w v x.length (zat x)) :
  Calls Tryz.prog 146 #[v,.int .i64 k] w fun e w'=>∃ i:Int,e=.returned (.int .i64 i)/\w=w'/\-1<=i/\decide (0<=i)=inB x k:=by
 obtain ⟨n,hn⟩:∃ n,n=x.length:=⟨_,rfl⟩
 rw [<- hn] at hv
 have HN:=hh9 hn
 rcases hv with ⟨h0,a,cap,rfl⟩ | ⟨g,off,cap,rfl,h1,h2,h3,h4⟩
 ·have hx0:x=[]:=List.length_eq_zero_iff.1 (by omega)
  subst hx0
  clear hn h0
  go_enter Tryz.func146,Tryz.ntmps146
  go_wp2_with fail
  go_loop [8] (fun v=>v=.int .i64 0) (fun v=>0)
  case atStart=>rfl
  case round =>
   subst hrel
   go_wp2_with fail
   go_ret
   exact ⟨-1,rfl,rfl,by omega,by unfold inB;rfl⟩
 ·have H4:=hh9 h4
  unfold maxLen at h2
  clear hn h4
  go_enter Tryz.func146,Tryz.ntmps146
  go_wp2_with fail
  go_loop [8] (fun v=>∃ i:Nat,v=.int .i64 i/\i<=n/\∀ (j:Nat) (c:Int),j<i->x[j]?=some c->c≠k) (fun v=>n-(intOf v).toNat)
  case atStart=>exact ⟨0,rfl,by omega,fun j c h=>by omega⟩
  case round =>
   obtain ⟨i,rfl,hi,hall⟩:=hrel
   have HALL:=hh9 hall
   clear hall
   by_cases hlt:i<n
   ·obtain ⟨Z,hZ⟩:∃ z,x[i]?=some z:=⟨_,List.getElem?_eq_getElem (by rw [<- HN.out];exact hlt)⟩
    have HXI:=hh9 hZ
    have c0:=H4.out i _ (zec hZ)
    clear hZ
    by_cases hf:k=Z
    ·have q:(k==Z)=true:=by simpa using hf
     have HYES:Hid (inB x k=true):=qbe (by rw [HXI.out,hf])
     clear hf
     go_wp2_with fail
     go_ret
     exact ⟨(i:Int),rfl,rfl,by omega,by rw [HYES.out];simp⟩
    ·have q:(k==Z)=false:=by simpa using hf
     have HNX:Hid (∀ (j:Nat) (c:Int),j<i+1->x[j]?=some c->c≠k):=fun j c hj hc=>by
      by_cases g:j=i
      ·subst g
       rw [HXI.out] at hc
       rw [<- Option.some.inj hc]
       exact fun e=>hf e.symm
      ·exact HALL.out j c (by omega) hc
     clear hf
     go_wp2_with fail
     go_round
     case rel=>exact ⟨i+1,by go_num,by omega,HNX.out⟩
     case measure=>simp [intOf];omega
   ·have hno:inB x k=false:=qcx (n:=n) (by rw [HN.out];exact Nat.le_refl _) (fun j c h hc=>HALL.out j c (by omega) hc)
    have HNO:=hh9 hno
    clear hno
    go_wp2_with fail
    go_ret
    exact ⟨-1,rfl,rfl,by omega,by rw [HNO.out];decide⟩
theorem zpo {x:List Int} {v:Value} (k:Int) (w:World) (hv:RowAny w v x.length (zat x)) :
  Calls Tryz.prog 127 #[v,.int .i64 k] w (zd3 (inB x k) w):=by
 have HI:=hh9 (zyc k w hv)
 clear hv
 go_enter Tryz.func127,Tryz.ntmps127
 go_wp2_with fail
 refine HI.out.mono ?_
 rintro e w' ⟨i,rfl,rfl,hi,hd⟩
 have HD:=hh9 hd
 clear hd
 go_wp2_with fail
 go_ret
 exact ⟨by rw [<- HD.out];exact rfl,rfl⟩
theorem zyd {X:XV} {xs:List Int} {v:Value} (w:World) (hv:RowAny w v xs.length (zat xs)) (h1:X.ns.oneCell'=true) (h2:X.ks.oneCell'=true) :
  Calls Tryz.prog 106 #[X.val,v] w (zam (inB xs X.kind) w):=by
 obtain ⟨k,tx,ns,lo,hi,ks⟩:=X
 have hb:=(Below.refl w.heap.size w).alloc (Nat.le_refl _) (.cells #[.int .i64 k,.string tx,ns,.int .i64 lo,.int .i64 hi,ks] 35)
 have HV:=hh9 (zpo k _ (hv.below hb))
 have HB:=hh9 hb
 clear hv hb
 show Calls Tryz.prog 106 #[.agg #[.int .i64 k,.string tx,ns,.int .i64 lo,.int .i64 hi,ks],v] w (zam (inB xs k) w)
 go_enter Tryz.func106,Tryz.ntmps106
 go_wp2_with fail
 refine HV.out.mono ?_
 rintro e w' ⟨rfl,rfl⟩
 go_wp2_with fail
 go_ret
 exact ⟨rfl,HB.out⟩
def zcj (k:Int) (x ns:List Int) (lo hi:Int) (n:Nat):Bool :=
 if k=1\/k=2 then decide (2<=n)
 else if k=3 then decide (n=1)&&cntB lo hi
 else if k=4 then zdc x
 else if k=5 then x.all foB
 else if k=6 then decide (1<=ns.length)&&decide (ns.length<=10000)&&ns.all numB
 else if k=7 then decide (ns.length=2)&&ns.all numB&&decide (ns.getD 0 0<=ns.getD 1 0)
 else false
def othB (k:Int) (x ns:List Int) (lo hi:Int) (n:Nat):Bool :=
 (decide (k=4\/k=5)||x.isEmpty)&&(decide (k=6\/k=7)||ns.isEmpty)&&(decide (k=3)||lo==0)&&(decide (k=3)||hi==0)&&(decide (k=1\/k=2\/k=3)||decide (n=0))
theorem zl7 (k:Int) (x ns:List Int) (lo hi:Int) (n:Nat):ze4 k x ns lo hi n=(zcj k x ns lo hi n&&othB k x ns lo hi n):=by
 unfold ze4 zcj othB
 by_cases k1:k=1
 ·subst k1
  rw [if_pos (by decide),if_pos (by decide)]
  simp
  cases x.isEmpty<;>cases ns.isEmpty<;>cases (lo==0)<;>cases (hi==0)<;>cases decide (2<=n)<;>rfl
 by_cases k2:k=2
 ·subst k2
  rw [if_pos (by decide),if_pos (by decide)]
  simp
  cases x.isEmpty<;>cases ns.isEmpty<;>cases (lo==0)<;>cases (hi==0)<;>cases decide (2<=n)<;>rfl
 have k12:¬ (k=1\/k=2):=by omega
 rw [if_neg k12,if_neg k12]
 by_cases k3:k=3
 ·subst k3
  rw [if_pos rfl,if_pos rfl]
  simp
  cases x.isEmpty<;>cases ns.isEmpty<;>cases decide (n=1)<;>cases cntB lo hi<;>rfl
 rw [if_neg k3,if_neg k3]
 by_cases k4:k=4
 ·subst k4
  rw [if_pos rfl,if_pos rfl]
  simp
  cases ns.isEmpty<;>cases (lo==0)<;>cases (hi==0)<;>cases decide (n=0)<;>cases zdc x<;>rfl
 rw [if_neg k4,if_neg k4]
 by_cases k5:k=5
 ·subst k5
  rw [if_pos rfl,if_pos rfl]
  simp only []
  cases ns.isEmpty<;>cases (lo==0)<;>cases (hi==0)<;>cases decide (n=0)<;>cases x.all foB<;>rfl
 rw [if_neg k5,if_neg k5]
 by_cases k6:k=6
 ·subst k6
  rw [if_pos rfl,if_pos rfl]
  simp only []
  cases x.isEmpty<;>cases (lo==0)<;>cases (hi==0)<;>cases decide (n=0)<;>cases ns.all numB<;>cases decide (1<=ns.length)<;>cases decide (ns.length<=10000)<;>rfl
 rw [if_neg k6,if_neg k6]
 by_cases k7:k=7
 ·subst k7
  rw [if_pos rfl,if_pos rfl]
  simp only []
  cases x.isEmpty<;>cases (lo==0)<;>cases (hi==0)<;>cases decide (n=0)<;>cases ns.all numB<;>cases decide (ns.length=2)<;>cases decide (ns.getD 0 0<=ns.getD 1 0)<;>rfl
 rw [if_neg k7,if_neg k7]
 rfl
theorem RowAny.slice {W:World} {v:Value} {n:Nat} {xs:List Value} (h:RowAny W v n xs):∃ a cap,v=.slice a n cap/\n<=9223372036854775807:=by
 rcases h with ⟨h0,a,cap,hv⟩ | ⟨g,off,cap,hv,h1,h2,_⟩
 ·exact ⟨a,cap,by rw [hv,h0],by omega⟩
 ·unfold maxLen at h2
  exact ⟨_,cap,hv,by omega⟩
def xobj (k lo hi:Int) (s:ByteArray) (ns ks:Value):Obj:=.cells #[.int .i64 k,.string s,ns,.int .i64 lo,.int .i64 hi,ks] 35
theorem qbf {k:Int} (hk:k=1\/k=2) (s:ByteArray) (ns:Value) (lo hi:Int) (a:Option Addr) (n cap:Nat) (hn:n<=9223372036854775807) (w:World) :
  Calls Tryz.prog 99 #[.agg #[.int .i64 k,.string s,ns,.int .i64 lo,.int .i64 hi,.slice a n cap]] w (zam (decide (2<=n)) w):=by
 have hb:Below w.heap.size w (w.alloc (xobj k lo hi s ns (.slice a n cap))):=(Below.refl _ _).alloc (Nat.le_refl _) _
 unfold xobj at hb
 have HB:=hh9 hb
 clear hb
 rcases hk with rfl | rfl
 all_goals
  by_cases g:2<=n
  ·have q:decide ((2:Int)<=(n:Int))=true:=decide_eq_true (by omega)
   have q2:decide (2<=n)=true:=decide_eq_true g
   rw [q2]
   go_enter Tryz.func99,Tryz.ntmps99
   go_wp2_with fail
   go_ret
   exact ⟨rfl,HB.out⟩
  ·have q:decide ((2:Int)<=(n:Int))=false:=decide_eq_false (by omega)
   have q2:decide (2<=n)=false:=decide_eq_false g
   rw [q2]
   go_enter Tryz.func99,Tryz.ntmps99
   go_wp2_with fail
   go_ret
   exact ⟨rfl,HB.out⟩
theorem qbg (s:ByteArray) (ns:Value) (lo hi:Int) (a:Option Addr) (n cap:Nat) (hn:n<=9223372036854775807) (w:World) :
  Calls Tryz.prog 99 #[.agg #[.int .i64 3,.string s,ns,.int .i64 lo,.int .i64 hi,.slice a n cap]] w (zam (decide (n=1)&&cntB lo hi) w):=by
 have hb:Below w.heap.size w (w.alloc (xobj 3 lo hi s ns (.slice a n cap))):=(Below.refl _ _).alloc (Nat.le_refl _) _
 unfold xobj at hb
 have HB:=hh9 hb
 have HC:=hh9 (fun W=>zyb lo hi W)
 clear hb
 by_cases g:n=1
 ·subst g
  cases hc:cntB lo hi
  all_goals
   rw [hc] at HC
   clear hc
   go_enter Tryz.func99,Tryz.ntmps99
   go_wp2_with fail
   refine (HC.out _).mono ?_
   rintro e w' ⟨rfl,rfl⟩
   go_wp2_with fail
   go_ret
   exact ⟨rfl,HB.out⟩
 ·have q:((n:Int)==1)=false:=by simp;omega
  have q1:decide ((n:Int)=1)=false:=decide_eq_false (by omega)
  have q2:decide (n=1)=false:=decide_eq_false g
  rw [q2]
  go_enter Tryz.func99,Tryz.ntmps99
  go_wp2_with fail
  go_ret
  exact ⟨rfl,HB.out⟩
theorem qbh {x:List Int} (hx:∀ c∈x,0<=c/\c<=255) (hl:x.length<=9223372036854775807) (ns ks:Value) (lo hi:Int) (h1:ns.oneCell'=true) (h2:ks.oneCell'=true) (w:World) :
  Calls Tryz.prog 99 #[.agg #[.int .i64 4,.string (za3 x),ns,.int .i64 lo,.int .i64 hi,ks]] w (zam (zdc x) w):=by
 have hb:Below w.heap.size w (w.alloc (xobj 4 lo hi (za3 x) ns ks)):=(Below.refl _ _).alloc (Nat.le_refl _) _
 unfold xobj at hb
 have HB:=hh9 hb
 have HC:=hh9 (fun W=>znr (x:=x) W hx hl)
 clear hb hx
 cases hc:zdc x
 all_goals
  rw [hc] at HC
  clear hc
  go_enter Tryz.func99,Tryz.ntmps99
  go_wp2_with fail
  refine (HC.out _).mono ?_
  rintro e w' ⟨rfl,hb⟩
  have HB2:=hh9 (za0 HB.out hb)
  clear hb
  go_wp2_with fail
  go_ret
  exact ⟨rfl,HB2.out⟩
theorem zye {x:List Int} (hx:∀ c∈x,0<=c/\c<=255) (hl:x.length<=9223372036854775807) (ns ks:Value) (lo hi:Int) (h1:ns.oneCell'=true) (h2:ks.oneCell'=true) (w:World) :
  Calls Tryz.prog 99 #[.agg #[.int .i64 5,.string (za3 x),ns,.int .i64 lo,.int .i64 hi,ks]] w (zam (x.all foB) w):=by
 have hb:Below w.heap.size w (w.alloc (xobj 5 lo hi (za3 x) ns ks)):=(Below.refl _ _).alloc (Nat.le_refl _) _
 obtain ⟨cap,hc1,hc2,kc0⟩:=zl6 (w.alloc (xobj 5 lo hi (za3 x) ns ks)) (za3 x) (by rw [za9];exact hl)
 have hrow0:=znq hx (w.alloc (xobj 5 lo hi (za3 x) ns ks)) cap (by rw [<- za9];exact hc1) hc2
 rw [za9] at kc0
 have e:(w.alloc (xobj 5 lo hi (za3 x) ns ks)).heap.size=w.heap.size+1:=by simp
 rw [e] at kc0 hrow0
 have kc:(convert 9 100 (.string (za3 x))).run Tryz.prog (w.alloc (xobj 5 lo hi (za3 x) ns ks))=.ok (.slice (some ⟨w.heap.size+1,0,none⟩) x.length cap) (((w.alloc (xobj 5 lo hi (za3 x) ns ks)).alloc (.cells (bytesRow (za3 x) cap) 5 ((bytesRow (za3 x) cap).size,(bytesRow (za3 x) cap).size+1))).drew):=kc0
 have hrow:RowAny (((w.alloc (xobj 5 lo hi (za3 x) ns ks)).alloc (.cells (bytesRow (za3 x) cap) 5 ((bytesRow (za3 x) cap).size,(bytesRow (za3 x) cap).size+1))).drew) (.slice (some ⟨w.heap.size+1,0,none⟩) x.length cap) x.length (zfp x):=hrow0
 have HB:Hid (Below w.heap.size w (((w.alloc (xobj 5 lo hi (za3 x) ns ks)).alloc (.cells (bytesRow (za3 x) cap) 5 ((bytesRow (za3 x) cap).size,(bytesRow (za3 x) cap).size+1))).drew)):=za7 (hb.alloc hb.size _) 1
 unfold xobj at HB kc hrow
 clear kc0 hrow0 e
 obtain ⟨S,hS⟩:∃ S,S=za3 x:=⟨_,rfl⟩
 rw [<- hS] at hrow kc HB ⊢
 have HROW:=hh9 (zy8 hx hrow)
 obtain ⟨n,hn⟩:∃ n,n=x.length:=⟨_,rfl⟩
 rw [<- hn] at kc HROW
 clear hx hS hn hrow hc1 hc2 hb
 cases hc:x.all foB
 all_goals
  rw [hc] at HROW
  clear hc
  go_enter Tryz.func99,Tryz.ntmps99
  go_wp2_with fail
  refine HROW.out.mono ?_
  rintro e w' ⟨rfl,hb⟩
  have HB2:=hh9 (za0 HB.out hb)
  clear hb
  go_wp2_with fail
  go_ret
  exact ⟨rfl,HB2.out⟩
theorem zyf {nums:List Int} {ns:Value} (s:ByteArray) (ks:Value) (lo hi:Int) (w:World) (hv:RowAny w ns nums.length (zat nums)) (h2:ks.oneCell'=true) :
  Calls Tryz.prog 99 #[.agg #[.int .i64 6,.string s,ns,.int .i64 lo,.int .i64 hi,ks]] w (zam (decide (1<=nums.length)&&decide (nums.length<=10000)&&nums.all numB) w):=by
 obtain ⟨a,cap,hv0,hn0⟩:=hv.slice
 subst hv0
 have hb:Below w.heap.size w (w.alloc (xobj 6 lo hi s (.slice a nums.length cap) ks)):=(Below.refl _ _).alloc (Nat.le_refl _) _
 have HC:=hh9 (zqu (hv.below hb))
 unfold xobj at hb HC
 have HB:=hh9 hb
 obtain ⟨n,hn⟩:∃ n,n=nums.length:=⟨_,rfl⟩
 rw [<- hn] at hv HC HB hn0 ⊢
 clear hb hv hn
 by_cases g:1<=n
 ·have q:decide ((1:Int)<=(n:Int))=true:=decide_eq_true (by omega)
  have q2:decide (1<=n)=true:=decide_eq_true g
  by_cases g2:n<=10000
  ·have q3:decide ((n:Int)<=10000)=true:=decide_eq_true (by omega)
   have q4:decide (n<=10000)=true:=decide_eq_true g2
   rw [q2,q4]
   cases hc:nums.all numB
   all_goals
    rw [hc] at HC
    clear hc
    go_enter Tryz.func99,Tryz.ntmps99
    go_wp2_with fail
    refine HC.out.mono ?_
    rintro e w' ⟨rfl,hb⟩
    have HB2:=hh9 (za0 HB.out hb)
    clear hb
    go_wp2_with fail
    go_ret
    exact ⟨rfl,HB2.out⟩
  ·have q3:decide ((n:Int)<=10000)=false:=decide_eq_false (by omega)
   have q4:decide (n<=10000)=false:=decide_eq_false g2
   rw [q2,q4]
   go_enter Tryz.func99,Tryz.ntmps99
   go_wp2_with fail
   go_ret
   exact ⟨rfl,HB.out⟩
 ·have q:decide ((1:Int)<=(n:Int))=false:=decide_eq_false (by omega)
  have q2:decide (1<=n)=false:=decide_eq_false g
  rw [q2]
  go_enter Tryz.func99,Tryz.ntmps99
  go_wp2_with fail
  go_ret
  exact ⟨rfl,HB.out⟩
end Go.Proofs.YtekjnfldgjcgeaaGreatDoor
