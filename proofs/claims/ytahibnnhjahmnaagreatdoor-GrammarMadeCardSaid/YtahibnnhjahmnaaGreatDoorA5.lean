/- Part 5 of what the laws of the grammar rest on. -/
import Derived.Test.YtahibnnhjahmnaaGreatDoorA4
set_option linter.all false
set_option maxRecDepth 100000
set_option maxHeartbeats 8000000
namespace Go.Proofs.YtahibnnhjahmnaaGreatDoor
open Go.RowKit
theorem Du{x:List Int}{v:Value}(w:World)(lo hi:Nat)(hlo:lo<=20000)(hhi:hi<=20000)(hv:au w v x.length (dA x)) :
  Calls Tryz.prog 76 #[v,.int .i64 lo,.int .i64 hi] w (kR (x.all bK&&(decide (lo<=x.length)&&decide (x.length<=hi))) w):=by
 obtain⟨n,hn⟩:∃ n,n=x.length:=⟨_,rfl⟩
 rw[<- hn]at hv ⊢;have HN:=hh9 hn;rcases hv with ⟨h0,a,cap,rfl⟩|⟨g,off,cap,rfl,h1,h2,h3,h4⟩
 ·have hx0:x=[]:=List.length_eq_zero_iff.1 (by omega);subst hx0;subst h0;clear hn;by_cases a1:lo<=0
  ·have q1:decide (lo<=0)=true:=zbN a1;have q2:decide (0<=hi)=true:=zbN (by omega);have q3:decide ((0:Int)<=(hi:Int))=true:=zbN (by omega);have q4:decide ((lo:Int)<=0)=true:=zbN (by omega);rw[q1,q2];clear q1 q2;go_enter Tryz.func76,Tryz.ntmps76;go_wp2_with fail
   go_loop [7] (fun v=>v=.int .i64 0) (fun v=>0)
   case atStart=>rfl
   case round =>
    subst hrel;go_wp2_with fail
    go_ret;exact⟨rfl,rfl⟩
  ·have q1:decide (lo<=0)=false:=zbM a1;have q4:decide ((lo:Int)<=0)=false:=zbM (by omega);rw[q1];clear q1;go_enter Tryz.func76,Tryz.ntmps76;go_wp2_with fail
   go_loop [7] (fun v=>v=.int .i64 0) (fun v=>0)
   case atStart=>rfl
   case round =>
    subst hrel;go_wp2_with fail
    go_ret;exact⟨rfl,rfl⟩
 ·have H4:=hh9 h4;unfold maxLen at h2;clear hn h4;go_enter Tryz.func76,Tryz.ntmps76;go_wp2_with fail
  go_loop [7] (fun v=>∃ i:Nat,v=.int .i64 i/\i<=n/\∀ (j:Nat) (c:Int),j<i->x[j]?=some c->bK c=true) (fun v=>n-(intOf v).toNat)
  case atStart=>exact⟨0,rfl,by omega,fun j c h=>by omega⟩
  case round =>
   obtain⟨i,rfl,hi',hall⟩:=hrel;have aF:=hh9 hall;clear hall;by_cases hlt:i<n
   ·obtain⟨Z,hZ⟩:∃ z,x[i]?=some z:=⟨_,zbC (by rw[<- HN.out];exact hlt)⟩
    have mY:=hh9 hZ;have c0:=H4.out i _ (He hZ);clear hZ
    cases hf:bK Z
    ·have kJ:=hh9 (G9 mY.out hf);have hf2:Z<0\/1114111<Z:=by unfold bK at hf;simp at hf;omega
     clear hf;by_cases b:Z<0
     ·go_wp2_with fail
      go_ret;exact⟨by rw[kJ.out];exact rfl,rfl⟩
     ·have b2:1114111<Z:=by omega
      go_wp2_with fail
      go_ret;exact⟨by rw[kJ.out];exact rfl,rfl⟩
    ·have bT:Hid (∀ (j:Nat) (c:Int),j<i+1->x[j]?=some c->bK c=true):=fun j c hj hc=>by
      by_cases g:j=i
      ·subst g;rw[mY.out]at hc;rw[<- zbB hc];exact hf
      ·exact aF.out j c (by omega) hc
     obtain⟨f1,f2⟩:0<=Z/\Z<=1114111:=by unfold bK at hf;simpa using hf
     clear hf;go_wp2_with fail
     go_round
     case rel=>exact⟨i+1,by go_num,by omega,bT.out⟩
     case measure=>simp[intOf];omega
   ·have hyes:x.all bK=true:=G8 (n:=n) (by rw[HN.out];exact zbA _) (fun j c h hc=>aF.out j c (by omega) hc);have jy:=hh9 hyes;clear hyes;by_cases a1:lo<=n
    ·have q4:decide ((lo:Int)<=(n:Int))=true:=zbN (by omega);by_cases a2:n<=hi
     ·have q3:decide ((n:Int)<=(hi:Int))=true:=zbN (by omega);go_wp2_with fail
      go_ret;exact⟨by first|(rw[jy.out];exact rfl)|exact rfl,rfl⟩
     ·have q3:decide ((n:Int)<=(hi:Int))=false:=zbM (by omega);go_wp2_with fail
      go_ret;exact⟨by first|(rw[jy.out];exact rfl)|exact rfl,rfl⟩
    ·have q4:decide ((lo:Int)<=(n:Int))=false:=zbM (by omega);go_wp2_with fail
     go_ret;exact⟨by first|(rw[jy.out];exact rfl)|exact rfl,rfl⟩
theorem Qv(W:World)(c:Int)(h0:0<=c)(h1:c<=255) :
  (convert 22 9 (.slice (some ⟨W.heap.size,0,none⟩) 1 1)).run Tryz.prog (W.alloc (.cells #[.int .u8 c] 5))=.ok (.string (ak [c])) (W.alloc (.cells #[.int .u8 c] 5)):=by
 have h:=run_convert_bytes_back (P:=Tryz.prog) (W.alloc (.cells #[.int .u8 c] 5)) 22 9 5 ⟨W.heap.size,0,none⟩ 1 [ig c] Tryz.underlying22 Tryz.underlying5 Tryz.underlying9 (fun j hj=>by
  have hj0:j=0:=by simp at hj;exact hj
  subst hj0;have e:((ig c).toNat:Int)=c:=by unfold ig;simp;omega
  show World.cell? _ ⟨W.heap.size,0,none⟩=some (.int .u8 ((ig c).toNat:Int))
  rw[e];unfold World.cell?;show (match (W.alloc _).heap[W.heap.size]? with|some (.cells c elem frozen)=>c[0]?|x=>none)=_
  rw[zbO];rfl)
 exact h
theorem eT(x y:List Int):ak x++ak y=ak (x++y):=by
 apply ByteArray.ext;unfold ak;simp
theorem Qw{n:Int}(h0:0<=n)(h1:n<=255):IntKind.u8.wrap n=n:=by rw[IntKind.wrap_u8];omega
theorem Qx:∀ f n,(iK f n).length<=f
 |0,_=>by simp[iK]
 |f+1,n=>by
  unfold iK;split
  ·simp
  ·have:=Qx f (n / 10);simp;omega
theorem WG{f n:Nat}(h:n<10):iK (f+1) n=[48+(n:Int)]:=by
 unfold iK;rw[if_pos h,Nat.mod_eq_of_lt h];rfl
theorem zw0{f n:Nat}(h:¬ n<10):iK (f+1) n=iK f (n / 10)++[48+((n%10:Nat):Int)]:=by
 rw[iK,if_neg h]
theorem zqv:∀ (f n:Nat) (w:World),n<10 ^ (f+1)->f<=17->Calls Tryz.prog 78 #[.int .i64 n] w fun e w'=>e=.returned (.string (ak (iK (f+1) n)))/\Below w.heap.size w w':=by
 intro f
 induction f with
 |zero =>
  intro n w h _;have hs:n<10:=by simpa using h
  have hm:(n:Int)%10=(n:Int):=by omega
  have kc:=fun (W:World)=>Qv W (48+(n:Int)) (by omega) (by omega)
  have hw:IntKind.u8.wrap (48+(n:Int))=48+(n:Int):=Qw (by omega) (by omega);have q:decide ((n:Int)<10)=true:=zbN (by omega);rw[WG hs];clear h hm;have hm:(n:Int)%10=(n:Int):=by omega
  go_enter Tryz.func78,Tryz.ntmps78;go_wp2_with fail
  go_ret;exact⟨rfl,(zbE _ _).alloc (zbA _) _⟩
 |succ f ih =>
  intro n w h hf;by_cases hs:n<10
  ·have hm:(n:Int)%10=(n:Int):=by omega
   have kc:=fun (W:World)=>Qv W (48+(n:Int)) (by omega) (by omega)
   have hw:IntKind.u8.wrap (48+(n:Int))=48+(n:Int):=Qw (by omega) (by omega);have q:decide ((n:Int)<10)=true:=zbN (by omega);rw[WG hs];clear h ih;go_enter Tryz.func78,Tryz.ntmps78;go_wp2_with fail
   go_ret;exact⟨rfl,(zbE _ _).alloc (zbA _) _⟩
  ·obtain⟨m,hm0⟩:∃ m:Nat,n%10=m:=⟨_,rfl⟩
   obtain⟨d,hd0⟩:∃ d:Nat,n / 10=d:=⟨_,rfl⟩
   have hm:(n:Int)%10=(m:Int):=by omega
   have hd:(n:Int) / 10=(d:Int):=by omega
   have hmb:m<10:=by omega
   have kc:=fun (W:World)=>Qv W (48+(m:Int)) (by omega) (by omega)
   have hw:IntKind.u8.wrap (48+(m:Int))=48+(m:Int):=Qw (by omega) (by omega);have q:decide ((n:Int)<10)=false:=zbM (by omega)
   have hdl:d<10 ^ (f+1):=by
    have:n<10 ^ (f+1)*10:=by rw[<- Nat.pow_succ];exact h
    omega
   have HC:=hh9 (fun W=>ih d W hdl (by omega));have hlen:=Qx (f+1) d;have hT:(ak (iK (f+1) d)).size<=20:=by rw[eP];omega
   have Qy:(ak [48+(m:Int)]).size=1:=rfl;have hfin:ak (iK (f+1) d)++ak [48+(m:Int)]=ak (iK (f+2) n):=by rw[eT,zw0 hs,hm0,hd0]
   have ay:=hh9 hfin;obtain⟨T,JB⟩:∃ T,T=ak (iK (f+1) d):=⟨_,rfl⟩
   rw[<- JB]at HC hT ay
   have Qz:(n:Int)<=1000000000000000000:=by
    have h1:(10:Nat) ^ (f+1+1)<=10 ^ 18:=Nat.pow_le_pow_right (by omega) (by omega);have h2:(10:Nat) ^ 18=1000000000000000000:=by decide
    rw[h2]at h1;have h3:=Nat.lt_of_lt_of_le h h1;omega
   clear h ih hfin JB hm0 hd0 hdl hlen;go_enter Tryz.func78,Tryz.ntmps78;go_wp2_with fail
   refine(HC.out _).mono ?_;rintro e w1 ⟨rfl,hb⟩;have HB:Hid (Below w.heap.size w w1):=((zbE w.heap.size w).alloc (zbA _) (.cells #[.int .u8 (48+(m:Int))] 5)).trans (hb.mono (by simp));clear hb;go_wp2_with fail
   go_ret;exact⟨congrArg (fun u=>Ending.returned (Value.string u)) ay.out,HB.out⟩
theorem JD(a:Nat)(h:a<16):(⟨#[48,49,50,51,52,53,54,55,56,57,65,66,67,68,69,70]⟩:ByteArray).extract a (a+1)=ak [cZ a]:=by
 have key:∀ i:Fin 16,(⟨#[48,49,50,51,52,53,54,55,56,57,65,66,67,68,69,70]⟩:ByteArray).extract i.val (i.val+1)=ak [cZ i.val]:=by decide +kernel
 exact key ⟨a,h⟩
theorem JE(S:ByteArray)(a a1:Nat)(h:a<=a1)(h2:a1<=S.size)(hs:S.size<=1000)(W:World) :
  (Instr.slice 9 (.string S) (some (.int .i64 (a:Int))) (some (.int .i64 (a1:Int))) none).run Tryz.prog W=.ok (.string (S.extract a a1)) W:=by
 have q1:decide ((a:Int)<=(a1:Int))=true:=zbN (by omega);have q2:decide ((a1:Int)<=(S.size:Int))=true:=zbN (by omega);have hu:=Tryz.underlying9;have k1:¬ ((a1:Int)<0):=by omega
 have k2:¬ ((a:Int)<0):=by omega
 simp[Instr.slice,go_sem,h,h2,q1,q2,k1,k2]
def iC:Nat->Nat->List Int
 |0,n=>[cZ (n / 16%16),cZ (n%16)]
 |f+1,n=>if n<256 then [cZ (n / 16%16),cZ (n%16)] else if n<4096 then [cZ (n / 256)]++[cZ (n / 16%16),cZ (n%16)] else iC f (n / 256)++[cZ (n / 16%16),cZ (n%16)]
theorem WH:∀ f n,(iC f n).length<=2*f+3
 |0,_=>by simp[iC]
 |f+1,n=>by
  rw[iC];split
  ·simp
  ·split
   ·simp
   ·have:=WH f (n / 256);simp;omega
theorem zzq:∀ (f n:Nat) (w:World),n<256 ^ (f+1)->f<=5->Calls Tryz.prog 79 #[.int .i64 n] w fun e w'=>e=.returned (.string (ak (iC f n)))/\Below w.heap.size w w':=by
 intro f
 induction f with
 |zero =>
  intro n w h _;have hs:n<256:=by simpa using h
  obtain⟨u,hu0⟩:∃ u:Nat,n / 16=u:=⟨_,rfl⟩
  obtain⟨a,ha0⟩:∃ a:Nat,u%16=a:=⟨_,rfl⟩
  obtain⟨b,hb0⟩:∃ b:Nat,n%16=b:=⟨_,rfl⟩
  have hu:(n:Int) / 16=(u:Int):=by omega
  have ha:(u:Int)%16=(a:Int):=by omega
  have hb:(n:Int)%16=(b:Int):=by omega
  have hal:a<16:=by omega
  have hbl:b<16:=by omega
  obtain⟨a1,ha1⟩:∃ a1:Nat,a+1=a1:=⟨_,rfl⟩
  obtain⟨b1,hb1⟩:∃ b1:Nat,b+1=b1:=⟨_,rfl⟩
  have hai:(a:Int)+1=(a1:Int):=by omega
  have hbi:(b:Int)+1=(b1:Int):=by omega
  have hca:=JD a hal;have hcb:=JD b hbl;rw[ha1]at hca;rw[hb1]at hcb;have p1:a<=a1:=by omega
  have p2:a1<=16:=by omega
  have p3:b<=b1:=by omega
  have p4:b1<=16:=by omega
  have q1:decide ((a:Int)<=(a1:Int))=true:=zbN (by omega);have q2:decide ((b:Int)<=(b1:Int))=true:=zbN (by omega);have q3:decide ((a1:Int)<=16)=true:=zbN (by omega);have q4:decide ((b1:Int)<=16)=true:=zbN (by omega);have s1:(ak [cZ a]).size=1:=rfl;have s2:(ak [cZ b]).size=1:=rfl;have t1:(n:Int).tdiv 16=(u:Int):=by rw[Int.tdiv_eq_ediv_of_nonneg (by omega)];exact hu
  have t2:(u:Int).tmod 16=(a:Int):=by rw[Int.tmod_eq_emod_of_nonneg (by omega)];exact ha
  have t3:(n:Int).tmod 16=(b:Int):=by rw[Int.tmod_eq_emod_of_nonneg (by omega)];exact hb
  have t4:IntKind.i64.wrap ((a:Int)+1)=(a1:Int):=by rw[hai];exact IntWalk.i64_in _ ⟨by omega,by omega⟩
  have t5:IntKind.i64.wrap ((b:Int)+1)=(b1:Int):=by rw[hbi];exact IntWalk.i64_in _ ⟨by omega,by omega⟩
  have t6:IntKind.i64.wrap (u:Int)=(u:Int):=IntWalk.i64_in _ ⟨by omega,by omega⟩;have t7:IntKind.i64.wrap (a:Int)=(a:Int):=IntWalk.i64_in _ ⟨by omega,by omega⟩;have t8:IntKind.i64.wrap (b:Int)=(b:Int):=IntWalk.i64_in _ ⟨by omega,by omega⟩;have t9:IntKind.i64.wrap (a1:Int)=(a1:Int):=IntWalk.i64_in _ ⟨by omega,by omega⟩;have t10:IntKind.i64.wrap (b1:Int)=(b1:Int):=IntWalk.i64_in _ ⟨by omega,by omega⟩;have r1:=fun (W:World)=>JE ⟨#[48,49,50,51,52,53,54,55,56,57,65,66,67,68,69,70]⟩ a a1 p1 p2 (by decide) W
  have r2:=fun (W:World)=>JE ⟨#[48,49,50,51,52,53,54,55,56,57,65,66,67,68,69,70]⟩ b b1 p3 p4 (by decide) W
  rw[hca]at r1;rw[hcb]at r2;clear hca hcb p1 p2 p3 p4 q1 q2 q3 q4;have hfin:ak [cZ a]++ak [cZ b]=ak (iC 0 n):=by rw[eT];unfold iC;rw[hu0,ha0,hb0];rfl
  have ay:=hh9 hfin;have q:decide ((n:Int)<256)=true:=zbN (by omega);clear h hu0 ha0 hb0 hfin ha1 hb1;go_enter Tryz.func79,Tryz.ntmps79;go_wp2_with fail
  go_quiet (fail)
  go_wp2_with fail
  go_ret;exact⟨congrArg (fun u=>Ending.returned (Value.string u)) ay.out,dJ (zbE _ _) _⟩
 |succ f ih =>
  intro n w h hf
  have Qz:(n:Int)<=1000000000000000000:=by
   have h1:(256:Nat) ^ (f+1+1)<=256 ^ 7:=Nat.pow_le_pow_right (by omega) (by omega);have h2:(256:Nat) ^ 7=72057594037927936:=by decide
   rw[h2]at h1;have h3:=Nat.lt_of_lt_of_le h h1;omega
  obtain⟨u,hu0⟩:∃ u:Nat,n / 16=u:=⟨_,rfl⟩
  obtain⟨a,ha0⟩:∃ a:Nat,u%16=a:=⟨_,rfl⟩
  obtain⟨b,hb0⟩:∃ b:Nat,n%16=b:=⟨_,rfl⟩
  have hu:(n:Int) / 16=(u:Int):=by omega
  have ha:(u:Int)%16=(a:Int):=by omega
  have hb:(n:Int)%16=(b:Int):=by omega
  have hal:a<16:=by omega
  have hbl:b<16:=by omega
  obtain⟨a1,ha1⟩:∃ a1:Nat,a+1=a1:=⟨_,rfl⟩
  obtain⟨b1,hb1⟩:∃ b1:Nat,b+1=b1:=⟨_,rfl⟩
  have hai:(a:Int)+1=(a1:Int):=by omega
  have hbi:(b:Int)+1=(b1:Int):=by omega
  have hca:=JD a hal;have hcb:=JD b hbl;rw[ha1]at hca;rw[hb1]at hcb;have p1:a<=a1:=by omega
  have p2:a1<=16:=by omega
  have p3:b<=b1:=by omega
  have p4:b1<=16:=by omega
  have q1:decide ((a:Int)<=(a1:Int))=true:=zbN (by omega);have q2:decide ((b:Int)<=(b1:Int))=true:=zbN (by omega);have q3:decide ((a1:Int)<=16)=true:=zbN (by omega);have q4:decide ((b1:Int)<=16)=true:=zbN (by omega);have s1:(ak [cZ a]).size=1:=rfl;have s2:(ak [cZ b]).size=1:=rfl;have t1:(n:Int).tdiv 16=(u:Int):=by rw[Int.tdiv_eq_ediv_of_nonneg (by omega)];exact hu
  have t2:(u:Int).tmod 16=(a:Int):=by rw[Int.tmod_eq_emod_of_nonneg (by omega)];exact ha
  have t3:(n:Int).tmod 16=(b:Int):=by rw[Int.tmod_eq_emod_of_nonneg (by omega)];exact hb
  have t4:IntKind.i64.wrap ((a:Int)+1)=(a1:Int):=by rw[hai];exact IntWalk.i64_in _ ⟨by omega,by omega⟩
  have t5:IntKind.i64.wrap ((b:Int)+1)=(b1:Int):=by rw[hbi];exact IntWalk.i64_in _ ⟨by omega,by omega⟩
  have t6:IntKind.i64.wrap (u:Int)=(u:Int):=IntWalk.i64_in _ ⟨by omega,by omega⟩;have t7:IntKind.i64.wrap (a:Int)=(a:Int):=IntWalk.i64_in _ ⟨by omega,by omega⟩;have t8:IntKind.i64.wrap (b:Int)=(b:Int):=IntWalk.i64_in _ ⟨by omega,by omega⟩;have t9:IntKind.i64.wrap (a1:Int)=(a1:Int):=IntWalk.i64_in _ ⟨by omega,by omega⟩;have t10:IntKind.i64.wrap (b1:Int)=(b1:Int):=IntWalk.i64_in _ ⟨by omega,by omega⟩;have r1:=fun (W:World)=>JE ⟨#[48,49,50,51,52,53,54,55,56,57,65,66,67,68,69,70]⟩ a a1 p1 p2 (by decide) W
  have r2:=fun (W:World)=>JE ⟨#[48,49,50,51,52,53,54,55,56,57,65,66,67,68,69,70]⟩ b b1 p3 p4 (by decide) W
  rw[hca]at r1;rw[hcb]at r2;clear hca hcb p1 p2 p3 p4 q1 q2 q3 q4;by_cases hs:n<256
  ·have q:decide ((n:Int)<256)=true:=zbN (by omega);have hfin:ak [cZ a]++ak [cZ b]=ak (iC (f+1) n):=by rw[eT];unfold iC;rw[if_pos hs,hu0,ha0,hb0];rfl
   have ay:=hh9 hfin;clear h hu0 ha0 hb0 hfin ha1 hb1 ih;go_enter Tryz.func79,Tryz.ntmps79;go_wp2_with fail
   go_quiet (fail)
   go_wp2_with fail
   go_ret;exact⟨congrArg (fun u=>Ending.returned (Value.string u)) ay.out,dJ (zbE _ _) _⟩
  ·have q:decide ((n:Int)<256)=false:=zbM (by omega);obtain⟨c,hc0⟩:∃ c:Nat,n / 256=c:=⟨_,rfl⟩
   have hc:(n:Int) / 256=(c:Int):=by omega
   by_cases hs2:n<4096
   ·have qq:decide ((n:Int)<4096)=true:=zbN (by omega);have hcl:c<16:=by omega
    obtain⟨d1,hd1⟩:∃ d1:Nat,c+1=d1:=⟨_,rfl⟩
    have hdi:(c:Int)+1=(d1:Int):=by omega
    have hcc:=JD c hcl;rw[hd1]at hcc;have r3:=fun (W:World)=>JE ⟨#[48,49,50,51,52,53,54,55,56,57,65,66,67,68,69,70]⟩ c d1 (by omega) (by show d1<=16;omega) (by decide) W
    rw[hcc]at r3;have s3:(ak [cZ c]).size=1:=rfl;have hfin:ak [cZ c]++(ak [cZ a]++ak [cZ b])=ak (iC (f+1) n):=by rw[eT,eT];unfold iC;rw[if_neg hs,if_pos hs2,hu0,ha0,hb0,hc0];rfl
    have ay:=hh9 hfin;clear h hu0 ha0 hb0 hfin ha1 hb1 ih hcc hd1 hc0;go_enter Tryz.func79,Tryz.ntmps79;go_wp2_with fail
    go_quiet (fail)
    go_wp2_with fail
    go_ret;exact⟨congrArg (fun u=>Ending.returned (Value.string u)) ay.out,dJ (zbE _ _) _⟩
   ·have qq:decide ((n:Int)<4096)=false:=zbM (by omega)
    have hdl:c<256 ^ (f+1):=by
     have:n<256 ^ (f+1)*256:=by rw[<- Nat.pow_succ];exact h
     omega
    have HC:=hh9 (fun W=>ih c W hdl (by omega));have hlen:(iC f c).length<=100:=by have:=WH f c;omega
    have hT:(ak (iC f c)).size<=100:=by rw[eP];exact hlen
    have hfin:ak (iC f c)++(ak [cZ a]++ak [cZ b])=ak (iC (f+1) n):=by rw[eT,eT];rw[iC,if_neg hs,if_neg hs2,hu0,ha0,hb0,hc0];rfl
    have ay:=hh9 hfin;obtain⟨T,JB⟩:∃ T,T=ak (iC f c):=⟨_,rfl⟩
    rw[<- JB]at HC hT ay;clear h hu0 ha0 hb0 hfin ha1 hb1 ih hc0 JB hlen hdl;go_enter Tryz.func79,Tryz.ntmps79;go_wp2_with fail
    go_quiet (fail)
    go_wp2_with fail
    refine(HC.out _).mono ?_;rintro e w1 ⟨rfl,hb⟩;have HB:Hid (Below w.heap.size w w1):=(dJ (zbE w.heap.size w) nq).trans hb;clear hb;go_wp2_with fail
    go_ret;exact⟨congrArg (fun u=>Ending.returned (Value.string u)) ay.out,HB.out⟩
theorem zzr(lo hi:Int)(w:World):Calls Tryz.prog 121 #[.int .i64 lo,.int .i64 hi] w (kR (dN lo hi) w):=by
 by_cases a:0<=lo
 ·by_cases b:lo<=200
  ·by_cases c:hi=-1
   ·subst c;have e:dN lo (-1)=true:=by unfold dN;simp[a,b]
    rw[e];clear e;go_enter Tryz.func121,Tryz.ntmps121;go_wp2;go_ret;exact⟨rfl,rfl⟩
   ·have qc:(hi==-1)=false:=by simpa using c
    by_cases d:lo<=hi
    ·by_cases f:hi<=200
     ·have e:dN lo hi=true:=by unfold dN;simp[a,b,d,f]
      have qd:decide (lo<=hi)=true:=zbN d;have qf:decide (hi<=200)=true:=zbN f;rw[e];clear e c;go_enter Tryz.func121,Tryz.ntmps121;go_wp2;go_ret;exact⟨rfl,rfl⟩
     ·have e:dN lo hi=false:=by unfold dN;simp[a,b,c,d,f]
      have qd:decide (lo<=hi)=true:=zbN d;have qf:decide (hi<=200)=false:=zbM f;rw[e];clear e c;go_enter Tryz.func121,Tryz.ntmps121;go_wp2;go_ret;exact⟨rfl,rfl⟩
    ·have e:dN lo hi=false:=by unfold dN;simp[a,b,c,d]
     have qd:decide (lo<=hi)=false:=zbM d;rw[e];clear e c;go_enter Tryz.func121,Tryz.ntmps121;go_wp2;go_ret;exact⟨rfl,rfl⟩
  ·have e:dN lo hi=false:=by unfold dN;simp[b]
   have qb:decide (lo<=200)=false:=zbM b;rw[e];clear e;go_enter Tryz.func121,Tryz.ntmps121;go_wp2;go_ret;exact⟨rfl,rfl⟩
 ·have e:dN lo hi=false:=by unfold dN;simp[a]
  have qa:decide (0<=lo)=false:=zbM a;rw[e];clear e;go_enter Tryz.func121,Tryz.ntmps121;go_wp2;go_ret;exact⟨rfl,rfl⟩
def eF(x:List Int)(k:Int):Bool:=x.any (·==k)
theorem qcq{x:List Int}{i:Nat}{k:Int}(h:x[i]?=some k):eF x k=true:=by
 unfold eF;rw[List.any_eq_true];exact⟨k,zbI h,by simp⟩
theorem qe8{x:List Int}{n:Nat}{k:Int}(hn:x.length<=n)(h:∀ (i:Nat) (c:Int),i<n->x[i]?=some c->c≠k):eF x k=false:=by
 unfold eF;rw[List.any_eq_false];intro c hc;obtain⟨i,hi⟩:=List.getElem?_of_mem hc;have:=h i c (Nat.lt_of_lt_of_le (zbF.1 hi).1 hn) hi;simpa using this
theorem zzs{x:List Int}{v:Value}(k:Int)(w:World)(hv:au w v x.length (dA x)) :
  Calls Tryz.prog 148 #[v,.int .i64 k] w fun e w'=>∃ i:Int,e=.returned (.int .i64 i)/\w=w'/\-1<=i/\decide (0<=i)=eF x k:=by
 obtain⟨n,hn⟩:∃ n,n=x.length:=⟨_,rfl⟩
 rw[<- hn]at hv;have HN:=hh9 hn;rcases hv with ⟨h0,a,cap,rfl⟩|⟨g,off,cap,rfl,h1,h2,h3,h4⟩
 ·have hx0:x=[]:=List.length_eq_zero_iff.1 (by omega);subst hx0;clear hn h0;go_enter Tryz.func148,Tryz.ntmps148;go_wp2_with fail
  go_loop [8] (fun v=>v=.int .i64 0) (fun v=>0)
  case atStart=>rfl
  case round =>
   subst hrel;go_wp2_with fail
   go_ret;exact⟨-1,rfl,rfl,by omega,by unfold eF;rfl⟩
 ·have H4:=hh9 h4;unfold maxLen at h2;clear hn h4;go_enter Tryz.func148,Tryz.ntmps148;go_wp2_with fail
  go_loop [8] (fun v=>∃ i:Nat,v=.int .i64 i/\i<=n/\∀ (j:Nat) (c:Int),j<i->x[j]?=some c->c≠k) (fun v=>n-(intOf v).toNat)
  case atStart=>exact⟨0,rfl,by omega,fun j c h=>by omega⟩
  case round =>
   obtain⟨i,rfl,hi,hall⟩:=hrel;have aF:=hh9 hall;clear hall;by_cases hlt:i<n
   ·obtain⟨Z,hZ⟩:∃ z,x[i]?=some z:=⟨_,zbC (by rw[<- HN.out];exact hlt)⟩
    have mY:=hh9 hZ;have c0:=H4.out i _ (He hZ);clear hZ;by_cases hf:k=Z
    ·have q:(k==Z)=true:=by simpa using hf
     have jy:Hid (eF x k=true):=qcq (by rw[mY.out,hf]);clear hf;go_wp2_with fail
     go_ret;exact⟨(i:Int),rfl,rfl,by omega,by rw[jy.out];simp⟩
    ·have q:(k==Z)=false:=by simpa using hf
     have bT:Hid (∀ (j:Nat) (c:Int),j<i+1->x[j]?=some c->c≠k):=fun j c hj hc=>by
      by_cases g:j=i
      ·subst g;rw[mY.out]at hc;rw[<- zbB hc];exact fun e=>hf e.symm
      ·exact aF.out j c (by omega) hc
     clear hf;go_wp2_with fail
     go_round
     case rel=>exact⟨i+1,by go_num,by omega,bT.out⟩
     case measure=>simp[intOf];omega
   ·have hno:eF x k=false:=qe8 (n:=n) (by rw[HN.out];exact zbA _) (fun j c h hc=>aF.out j c (by omega) hc);have lq:=hh9 hno;clear hno;go_wp2_with fail
    go_ret;exact⟨-1,rfl,rfl,by omega,by rw[lq.out];decide⟩
theorem zqw{x:List Int}{v:Value}(k:Int)(w:World)(hv:au w v x.length (dA x)) :
  Calls Tryz.prog 129 #[v,.int .i64 k] w (kR (eF x k) w):=by
 have HI:=hh9 (zzs k w hv);clear hv;go_enter Tryz.func129,Tryz.ntmps129;go_wp2_with fail
 refine HI.out.mono ?_;rintro e w' ⟨i,rfl,rfl,hi,hd⟩;have HD:=hh9 hd;clear hd;go_wp2_with fail
 go_ret;exact⟨by rw[<- HD.out];exact rfl,rfl⟩
theorem zzt{X:XV}{xs:List Int}{v:Value}(w:World)(hv:au w v xs.length (dA xs))(h1:X.ns.oneCell'=true)(h2:X.ks.oneCell'=true) :
  Calls Tryz.prog 108 #[X.val,v] w (gG (eF xs X.kind) w):=by
 obtain⟨k,tx,ns,lo,hi,ks⟩:=X;have hb:=(zbE w.heap.size w).alloc (zbA _) (.cells #[.int .i64 k,.string tx,ns,.int .i64 lo,.int .i64 hi,ks] 29);have HV:=hh9 (zqw k _ (hv.below hb));have HB:=hh9 hb;clear hv hb;show Calls Tryz.prog 108 #[.agg #[.int .i64 k,.string tx,ns,.int .i64 lo,.int .i64 hi,ks],v] w (gG (eF xs k) w)
 go_enter Tryz.func108,Tryz.ntmps108;go_wp2_with fail
 refine HV.out.mono ?_;rintro e w' ⟨rfl,rfl⟩;go_wp2_with fail
 go_ret;exact⟨rfl,HB.out⟩
def jd(k:Int)(x ns:List Int)(lo hi:Int)(n:Nat):Bool :=
 if k=1\/k=2 then decide (2<=n)
 else if k=3 then decide (n=1)&&dN lo hi
 else if k=4 then mF x
 else if k=5 then x.all kZ
 else if k=6 then decide (1<=ns.length)&&decide (ns.length<=10000)&&ns.all bK
 else if k=7 then decide (ns.length=2)&&ns.all bK&&decide (ns.getD 0 0<=ns.getD 1 0)
 else false
def aY(k:Int)(x ns:List Int)(lo hi:Int)(n:Nat):Bool :=
 (decide (k=4\/k=5)||x.isEmpty)&&(decide (k=6\/k=7)||ns.isEmpty)&&(decide (k=3)||lo==0)&&(decide (k=3)||hi==0)&&(decide (k=1\/k=2\/k=3)||decide (n=0))
theorem WI(k:Int)(x ns:List Int)(lo hi:Int)(n:Nat):oo k x ns lo hi n=(jd k x ns lo hi n&&aY k x ns lo hi n):=by
 unfold oo jd aY;by_cases k1:k=1
 ·subst k1;rw[if_pos (by decide),if_pos (by decide)];simp
  cases x.isEmpty<;>cases ns.isEmpty<;>cases (lo==0)<;>cases (hi==0)<;>cases decide (2<=n)<;>rfl
 by_cases k2:k=2
 ·subst k2;rw[if_pos (by decide),if_pos (by decide)];simp
  cases x.isEmpty<;>cases ns.isEmpty<;>cases (lo==0)<;>cases (hi==0)<;>cases decide (2<=n)<;>rfl
 have k12:¬ (k=1\/k=2):=by omega
 rw[if_neg k12,if_neg k12];by_cases k3:k=3
 ·subst k3;rw[if_pos rfl,if_pos rfl];simp
  cases x.isEmpty<;>cases ns.isEmpty<;>cases decide (n=1)<;>cases dN lo hi<;>rfl
 rw[if_neg k3,if_neg k3];by_cases k4:k=4
 ·subst k4;rw[if_pos rfl,if_pos rfl];simp
  cases ns.isEmpty<;>cases (lo==0)<;>cases (hi==0)<;>cases decide (n=0)<;>cases mF x<;>rfl
 rw[if_neg k4,if_neg k4];by_cases k5:k=5
 ·subst k5;rw[if_pos rfl,if_pos rfl];simp only[]
  cases ns.isEmpty<;>cases (lo==0)<;>cases (hi==0)<;>cases decide (n=0)<;>cases x.all kZ<;>rfl
 rw[if_neg k5,if_neg k5];by_cases k6:k=6
 ·subst k6;rw[if_pos rfl,if_pos rfl];simp only[]
  cases x.isEmpty<;>cases (lo==0)<;>cases (hi==0)<;>cases decide (n=0)<;>cases ns.all bK<;>cases decide (1<=ns.length)<;>cases decide (ns.length<=10000)<;>rfl
 rw[if_neg k6,if_neg k6];by_cases k7:k=7
 ·subst k7;rw[if_pos rfl,if_pos rfl];simp only[]
  cases x.isEmpty<;>cases (lo==0)<;>cases (hi==0)<;>cases decide (n=0)<;>cases ns.all bK<;>cases decide (ns.length=2)<;>cases decide (ns.getD 0 0<=ns.getD 1 0)<;>rfl
 rw[if_neg k7,if_neg k7];rfl
theorem au.slice{W:World}{v:Value}{n:Nat}{xs:List Value}(h:au W v n xs):∃ a cap,v=.slice a n cap/\n<=9223372036854775807:=by
 rcases h with ⟨h0,a,cap,hv⟩|⟨g,off,cap,hv,h1,h2,_⟩
 ·exact⟨a,cap,by rw[hv,h0],by omega⟩
 ·unfold maxLen at h2;exact⟨_,cap,hv,by omega⟩
def aB(k lo hi:Int)(s:ByteArray)(ns ks:Value):Obj:=.cells #[.int .i64 k,.string s,ns,.int .i64 lo,.int .i64 hi,ks] 29
theorem qcr{k:Int}(hk:k=1\/k=2)(s:ByteArray)(ns:Value)(lo hi:Int)(a:Option Addr)(n cap:Nat)(hn:n<=9223372036854775807)(w:World) :
  Calls Tryz.prog 101 #[.agg #[.int .i64 k,.string s,ns,.int .i64 lo,.int .i64 hi,.slice a n cap]] w (gG (decide (2<=n)) w):=by
 have hb:Below w.heap.size w (w.alloc (aB k lo hi s ns (.slice a n cap))):=(zbE _ _).alloc (zbA _) _;unfold aB at hb;have HB:=hh9 hb;clear hb;rcases hk with rfl|rfl
 all_goals
  by_cases g:2<=n
  ·have q:decide ((2:Int)<=(n:Int))=true:=zbN (by omega);have q2:decide (2<=n)=true:=zbN g;rw[q2];go_enter Tryz.func101,Tryz.ntmps101;go_wp2_with fail
   go_ret;exact⟨rfl,HB.out⟩
  ·have q:decide ((2:Int)<=(n:Int))=false:=zbM (by omega);have q2:decide (2<=n)=false:=zbM g;rw[q2];go_enter Tryz.func101,Tryz.ntmps101;go_wp2_with fail
   go_ret;exact⟨rfl,HB.out⟩
theorem qcs(s:ByteArray)(ns:Value)(lo hi:Int)(a:Option Addr)(n cap:Nat)(hn:n<=9223372036854775807)(w:World) :
  Calls Tryz.prog 101 #[.agg #[.int .i64 3,.string s,ns,.int .i64 lo,.int .i64 hi,.slice a n cap]] w (gG (decide (n=1)&&dN lo hi) w):=by
 have hb:Below w.heap.size w (w.alloc (aB 3 lo hi s ns (.slice a n cap))):=(zbE _ _).alloc (zbA _) _;unfold aB at hb;have HB:=hh9 hb;have HC:=hh9 (fun W=>zzr lo hi W);clear hb;by_cases g:n=1
 ·subst g
  cases hc:dN lo hi
  all_goals
   rw[hc]at HC;clear hc;go_enter Tryz.func101,Tryz.ntmps101;go_wp2_with fail
   refine(HC.out _).mono ?_;rintro e w' ⟨rfl,rfl⟩;go_wp2_with fail
   go_ret;exact⟨rfl,HB.out⟩
 ·have q:((n:Int)==1)=false:=by simp;omega
  have q1:decide ((n:Int)=1)=false:=zbM (by omega);have q2:decide (n=1)=false:=zbM g;rw[q2];go_enter Tryz.func101,Tryz.ntmps101;go_wp2_with fail
  go_ret;exact⟨rfl,HB.out⟩
theorem qct{x:List Int}(hx:∀ c∈x,0<=c/\c<=255)(hl:x.length<=9223372036854775807)(ns ks:Value)(lo hi:Int)(h1:ns.oneCell'=true)(h2:ks.oneCell'=true)(w:World) :
  Calls Tryz.prog 101 #[.agg #[.int .i64 4,.string (ak x),ns,.int .i64 lo,.int .i64 hi,ks]] w (gG (mF x) w):=by
 have hb:Below w.heap.size w (w.alloc (aB 4 lo hi (ak x) ns ks)):=(zbE _ _).alloc (zbA _) _;unfold aB at hb;have HB:=hh9 hb;have HC:=hh9 (fun W=>WE (x:=x) W hx hl);clear hb hx
 cases hc:mF x
 all_goals
  rw[hc]at HC;clear hc;go_enter Tryz.func101,Tryz.ntmps101;go_wp2_with fail
  refine(HC.out _).mono ?_;rintro e w' ⟨rfl,hb⟩;have HB2:=hh9 (aJ HB.out hb);clear hb;go_wp2_with fail
  go_ret;exact⟨rfl,HB2.out⟩
theorem zzu{x:List Int}(hx:∀ c∈x,0<=c/\c<=255)(hl:x.length<=9223372036854775807)(ns ks:Value)(lo hi:Int)(h1:ns.oneCell'=true)(h2:ks.oneCell'=true)(w:World) :
  Calls Tryz.prog 101 #[.agg #[.int .i64 5,.string (ak x),ns,.int .i64 lo,.int .i64 hi,ks]] w (gG (x.all kZ) w):=by
 have hb:Below w.heap.size w (w.alloc (aB 5 lo hi (ak x) ns ks)):=(zbE _ _).alloc (zbA _) _;obtain⟨cap,hc1,hc2,NC⟩:=WB (w.alloc (aB 5 lo hi (ak x) ns ks)) (ak x) (by rw[eP];exact hl);have je:=WC hx (w.alloc (aB 5 lo hi (ak x) ns ks)) cap (by rw[<- eP];exact hc1) hc2;rw[eP]at NC;have e:(w.alloc (aB 5 lo hi (ak x) ns ks)).heap.size=w.heap.size+1:=by simp
 rw[e]at NC je;have kc:(convert 9 22 (.string (ak x))).run Tryz.prog (w.alloc (aB 5 lo hi (ak x) ns ks))=.ok (.slice (some ⟨w.heap.size+1,0,none⟩) x.length cap) (((w.alloc (aB 5 lo hi (ak x) ns ks)).alloc (.cells (bytesRow (ak x) cap) 5 ((bytesRow (ak x) cap).size,(bytesRow (ak x) cap).size+1))).drew):=NC;have hrow:au (((w.alloc (aB 5 lo hi (ak x) ns ks)).alloc (.cells (bytesRow (ak x) cap) 5 ((bytesRow (ak x) cap).size,(bytesRow (ak x) cap).size+1))).drew) (.slice (some ⟨w.heap.size+1,0,none⟩) x.length cap) x.length (xX x):=je;have HB:Hid (Below w.heap.size w (((w.alloc (aB 5 lo hi (ak x) ns ks)).alloc (.cells (bytesRow (ak x) cap) 5 ((bytesRow (ak x) cap).size,(bytesRow (ak x) cap).size+1))).drew)):=dJ (hb.alloc hb.size _) 1;unfold aB at HB kc hrow;clear NC je e;obtain⟨S,hS⟩:∃ S,S=ak x:=⟨_,rfl⟩
 rw[<- hS]at hrow kc HB ⊢;have cO:=hh9 (zzo hx hrow);obtain⟨n,hn⟩:∃ n,n=x.length:=⟨_,rfl⟩
 rw[<- hn]at kc cO;clear hx hS hn hrow hc1 hc2 hb
 cases hc:x.all kZ
 all_goals
  rw[hc]at cO;clear hc;go_enter Tryz.func101,Tryz.ntmps101;go_wp2_with fail
  refine cO.out.mono ?_;rintro e w' ⟨rfl,hb⟩;have HB2:=hh9 (aJ HB.out hb);clear hb;go_wp2_with fail
  go_ret;exact⟨rfl,HB2.out⟩
theorem zzv{nums:List Int}{ns:Value}(s:ByteArray)(ks:Value)(lo hi:Int)(w:World)(hv:au w ns nums.length (dA nums))(h2:ks.oneCell'=true) :
  Calls Tryz.prog 101 #[.agg #[.int .i64 6,.string s,ns,.int .i64 lo,.int .i64 hi,ks]] w (gG (decide (1<=nums.length)&&decide (nums.length<=10000)&&nums.all bK) w):=by
 obtain⟨a,cap,hv0,hn0⟩:=hv.slice;subst hv0;have hb:Below w.heap.size w (w.alloc (aB 6 lo hi s (.slice a nums.length cap) ks)):=(zbE _ _).alloc (zbA _) _;have HC:=hh9 (WA (hv.below hb));unfold aB at hb HC;have HB:=hh9 hb;obtain⟨n,hn⟩:∃ n,n=nums.length:=⟨_,rfl⟩
 rw[<- hn]at hv HC HB hn0 ⊢;clear hb hv hn;by_cases g:1<=n
 ·have q:decide ((1:Int)<=(n:Int))=true:=zbN (by omega);have q2:decide (1<=n)=true:=zbN g;by_cases g2:n<=10000
  ·have q3:decide ((n:Int)<=10000)=true:=zbN (by omega);have q4:decide (n<=10000)=true:=zbN g2;rw[q2,q4]
   cases hc:nums.all bK
   all_goals
    rw[hc]at HC;clear hc;go_enter Tryz.func101,Tryz.ntmps101;go_wp2_with fail
    refine HC.out.mono ?_;rintro e w' ⟨rfl,hb⟩;have HB2:=hh9 (aJ HB.out hb);clear hb;go_wp2_with fail
    go_ret;exact⟨rfl,HB2.out⟩
  ·have q3:decide ((n:Int)<=10000)=false:=zbM (by omega);have q4:decide (n<=10000)=false:=zbM g2;rw[q2,q4];go_enter Tryz.func101,Tryz.ntmps101;go_wp2_with fail
   go_ret;exact⟨rfl,HB.out⟩
 ·have q:decide ((1:Int)<=(n:Int))=false:=zbM (by omega);have q2:decide (1<=n)=false:=zbM g;rw[q2];go_enter Tryz.func101,Tryz.ntmps101;go_wp2_with fail
  go_ret;exact⟨rfl,HB.out⟩
end Go.Proofs.YtahibnnhjahmnaaGreatDoor
