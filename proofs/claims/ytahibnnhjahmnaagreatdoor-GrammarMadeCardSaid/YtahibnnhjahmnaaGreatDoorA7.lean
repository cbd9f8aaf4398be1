/- Part 7 of what the laws of the grammar rest on. -/
import Derived.Test.YtahibnnhjahmnaaGreatDoorA5
import Derived.Deep.RegionHeld3
import Derived.Deep.RegionWith
set_option linter.all false
set_option maxRecDepth 100000
set_option maxHeartbeats 8000000
namespace Go.Proofs.YtahibnnhjahmnaaGreatDoor
open Go.RowKit
def uF(w:World)(g off cap:Nat)(a b:Int)(W:World):Prop :=
 (W.cell? ⟨w.heap.size,2,none⟩=some (.slice (some ⟨g,off,none⟩) 2 cap)/\W.cell? ⟨g,off,none⟩=some (.int .i64 a)/\W.cell? ⟨g,off+1,none⟩=some (.int .i64 b))/\(w.heap.size<W.heap.size/\g<W.heap.size)/\Below w.heap.size w W
theorem uF.step{w:World}{g off cap:Nat}{a b:Int}{W W':World}(hb:Below W.heap.size W W')(h:uF w g off cap a b W):uF w g off cap a b W' :=
 ⟨⟨(hb.cell (p:=⟨w.heap.size,2,none⟩) h.2.1.1).trans h.1.1,(hb.cell (p:=⟨g,off,none⟩) h.2.1.2).trans h.1.2.1,(hb.cell (p:=⟨g,off+1,none⟩) h.2.1.2).trans h.1.2.2⟩,⟨Nat.lt_of_lt_of_le h.2.1.1 hb.size,Nat.lt_of_lt_of_le h.2.1.2 hb.size⟩,aJ h.2.2 hb⟩
theorem uF.drew{w:World}{g off cap:Nat}{a b:Int}{W:World}(h:uF w g off cap a b W):uF w g off cap a b W.drew:=⟨h.1,h.2.1,dJ h.2.2 1⟩
theorem uF.row{w:World}{g off cap:Nat}{a b:Int}{W:World}(h:uF w g off cap a b W)(h1:2<=cap)(h2:cap<=maxLen):au W (.slice (some ⟨g,off,none⟩) 2 cap) 2 (dA [a,b]):=by
 refine .inr ⟨g,off,cap,rfl,h1,h2,h.2.1.2,fun j u hj=>?_⟩
 match j,hj with
 |0,hj=>cases hj;exact h.1.2.1
 |1,hj=>cases hj;exact h.1.2.2
 |j+2,hj=>simp[dA]at hj
theorem zzz{nums:List Int}{ns:Value}(s:ByteArray)(ks:Value)(lo hi:Int)(w:World)(hv:au w ns nums.length (dA nums))(h2:ks.oneCell'=true) :
  Calls Tryz.prog 101 #[.agg #[.int .i64 7,.string s,ns,.int .i64 lo,.int .i64 hi,ks]] w (gG (decide (nums.length=2)&&nums.all bK&&decide (nums.getD 0 0<=nums.getD 1 0)) w):=by
 by_cases g:nums.length=2
 ·match nums,g with
  |[a,b],_ =>
  rcases hv with ⟨h0,_⟩|⟨B,off,cap,rfl,g1,g2,g3,g4⟩
  ·simp at h0
  ·have g1:2<=cap:=g1;have hb:Below w.heap.size w (w.alloc (aB 7 lo hi s (.slice (some ⟨B,off,none⟩) 2 cap) ks)):=(zbE _ _).alloc (zbA _) _
   have hS:uF w B off cap a b (w.alloc (aB 7 lo hi s (.slice (some ⟨B,off,none⟩) 2 cap) ks)):=by
    refine⟨⟨?_,(hb.cell (p:=⟨B,off,none⟩) g3).trans (g4 0 _ rfl),(hb.cell (p:=⟨B,off+1,none⟩) g3).trans (g4 1 _ rfl)⟩,⟨by simp,by simp;omega⟩,hb⟩;simp only[World.cell?,zbO];rfl
   unfold aB at hb hS;have HRD:=hh9 (hS.drew.row g1 g2);obtain⟨⟨c0,c1,c2⟩,⟨hz0,hz1⟩,hbel⟩:=hS;have aA:=hh9 hbel;have hz1':B<w.heap.size+1:=by simpa using hz1
   have e1:decide ([a,b].length=2)=true:=rfl;rw[e1,Bool.true_and];have hall:[a,b].all bK=(bK a&&bK b):=by simp
   have WJ:=hh9 g2;have aF:=hh9 (fun (W:World) (h:au W (.slice (some ⟨B,off,none⟩) 2 cap) 2 (dA [a,b]))=>WA (w:=W) (x:=[a,b]) h);show Calls _ _ #[.agg #[.int .i64 7,.string s,.slice (some ⟨B,off,none⟩) 2 cap,.int .i64 lo,.int .i64 hi,ks]] w (gG ([a,b].all bK&&decide (a<=b)) w)
   obtain⟨P,hP⟩:∃ P,P=[a,b].all bK:=⟨_,rfl⟩
   rw[<- hP]at aF ⊢;clear hall hP g4 hb e1 hbel hz0 hz1 g2
   cases P
   ·rw[Bool.false_and];go_enter Tryz.func101,Tryz.ntmps101;go_wp2_with fail
    first
     |(go_region_with (first|(go_at_call 123;refine(aF.out _ HRD.out).mono ?_;rintro e w' ⟨rfl,hb'⟩)))
     |fail
    all_goals
     have HB2:=hh9 (aJ (dJ aA.out 1) hb');clear hb';go_wp2_with fail
     go_ret;exact⟨rfl,HB2.out⟩
   ·rw[Bool.true_and];by_cases hab:a<=b
    ·have QF:decide (a<=b)=true:=zbN hab;rw[QF];go_enter Tryz.func101,Tryz.ntmps101;go_wp2_with fail
     go_region_held3 (fun W=>(W.cell? ⟨w.heap.size,2,none⟩=some (.slice (some ⟨B,off,none⟩) 2 cap)/\W.cell? ⟨B,off,none⟩=some (.int .i64 a)/\W.cell? ⟨B,off+1,none⟩=some (.int .i64 b))/\(w.heap.size<W.heap.size/\B<W.heap.size)/\Below w.heap.size w W)
      (first|exact uF.step (by assumption) (by assumption)|exact uF.drew (by assumption)|exact⟨⟨by assumption,by assumption,by assumption⟩,⟨by simp,by simp;omega⟩,dJ aA.out 1⟩)
      (first|(go_at_call 123;refine(aF.out _ (uF.row (by assumption) g1 WJ.out)).mono ?_;rintro e w' ⟨rfl,hb'⟩))
     rename_i hS;have HB2:=hh9 hS.2.2;clear hS;go_wp2_with fail
     go_ret;exact⟨rfl,HB2.out⟩
    ·have QF:decide (a<=b)=false:=zbM hab;rw[QF];go_enter Tryz.func101,Tryz.ntmps101;go_wp2_with fail
     go_region_held3 (fun W=>(W.cell? ⟨w.heap.size,2,none⟩=some (.slice (some ⟨B,off,none⟩) 2 cap)/\W.cell? ⟨B,off,none⟩=some (.int .i64 a)/\W.cell? ⟨B,off+1,none⟩=some (.int .i64 b))/\(w.heap.size<W.heap.size/\B<W.heap.size)/\Below w.heap.size w W)
      (first|exact uF.step (by assumption) (by assumption)|exact uF.drew (by assumption)|exact⟨⟨by assumption,by assumption,by assumption⟩,⟨by simp,by simp;omega⟩,dJ aA.out 1⟩)
      (first|(go_at_call 123;refine(aF.out _ (uF.row (by assumption) g1 WJ.out)).mono ?_;rintro e w' ⟨rfl,hb'⟩))
     rename_i hS;have HB2:=hh9 hS.2.2;clear hS;go_wp2_with fail
     go_ret;exact⟨rfl,HB2.out⟩
 ·obtain⟨a,cap,hv0,hn0⟩:=hv.slice;subst hv0;have hb:Below w.heap.size w (w.alloc (aB 7 lo hi s (.slice a nums.length cap) ks)):=(zbE _ _).alloc (zbA _) _;unfold aB at hb;have HB:=hh9 hb;obtain⟨n,hn⟩:∃ n,n=nums.length:=⟨_,rfl⟩
  rw[<- hn]at HB hn0 g ⊢;have q:((n:Int)==2)=false:=by simp;omega
  have q1:decide ((n:Int)=2)=false:=zbM (by omega);have q2:decide (n=2)=false:=zbM g;rw[q2];clear hb hv hn;show Calls _ _ _ w (gG false w)
  go_enter Tryz.func101,Tryz.ntmps101;go_wp2_with fail
  go_quiet (fail)
  go_wp2_with fail
  go_ret;exact⟨rfl,dJ HB.out _⟩
theorem qa0{k:Int}(hk:¬ (k=1\/k=2)/\k≠3/\k≠4/\k≠5/\k≠6/\k≠7)(s:ByteArray)(ns ks:Value)(lo hi:Int)(h1:ns.oneCell'=true)(h2:ks.oneCell'=true)(w:World) :
  Calls Tryz.prog 101 #[.agg #[.int .i64 k,.string s,ns,.int .i64 lo,.int .i64 hi,ks]] w (gG false w):=by
 have hb:Below w.heap.size w (w.alloc (aB k lo hi s ns ks)):=(zbE _ _).alloc (zbA _) _;unfold aB at hb;have HB:=hh9 hb;have q1:(k==1)=false:=by simp;omega
 have q2:(k==2)=false:=by simp;omega
 have q3:(k==3)=false:=by simp;omega
 have q4:(k==4)=false:=by simp;omega
 have q5:(k==5)=false:=by simp;omega
 have q6:(k==6)=false:=by simp;omega
 have q7:(k==7)=false:=by simp;omega
 clear hb hk;go_enter Tryz.func101,Tryz.ntmps101;go_wp2_with fail
 go_ret;exact⟨rfl,HB.out⟩
theorem au.one{W:World}{v:Value}{n:Nat}{xs:List Value}(h:au W v n xs):v.oneCell'=true:=by
 obtain⟨a,cap,rfl,_⟩:=h.slice;rfl
theorem qcx{X:XV}{k lo hi:Int}{x ns:List Int}{kids:List Tree}{w:World}(h:aM w X (.mk k x ns lo hi kids)):Calls Tryz.prog 101 #[X.val] w (gG (jd k x ns lo hi kids.length) w):=by
 cases h with
 |@mk _ _ _ nv kv _ _ _ vs h0 hl h1 h2 h3 h4 =>
  show Calls _ _ #[.agg #[.int .i64 k,.string (ak x),nv,.int .i64 lo,.int .i64 hi,kv]] w _
  unfold jd;by_cases k12:k=1\/k=2
  ·rw[if_pos k12];obtain⟨a,cap,rfl,hn⟩:=h2.slice;exact qcr k12 _ _ _ _ _ _ _ hn w
  rw[if_neg k12];by_cases k3:k=3
  ·rw[if_pos k3];subst k3;obtain⟨a,cap,rfl,hn⟩:=h2.slice;exact qcs _ _ _ _ _ _ _ hn w
  rw[if_neg k3];by_cases k4:k=4
  ·rw[if_pos k4];subst k4;exact qct h0 hl _ _ _ _ h1.one h2.one w
  rw[if_neg k4];by_cases k5:k=5
  ·rw[if_pos k5];subst k5;exact zzu h0 hl _ _ _ _ h1.one h2.one w
  rw[if_neg k5];by_cases k6:k=6
  ·rw[if_pos k6];subst k6;exact zzv _ _ _ _ w h1 h2.one
  rw[if_neg k6];by_cases k7:k=7
  ·rw[if_pos k7];subst k7;exact zzz _ _ _ _ w h1 h2.one
  rw[if_neg k7];exact qa0 ⟨k12,k3,k4,k5,k6,k7⟩ _ _ _ _ _ h1.one h2.one w
end Go.Proofs.YtahibnnhjahmnaaGreatDoor
