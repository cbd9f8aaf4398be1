/- Part 1 of what the laws of the grammar rest on. -/
import Derived.Test.YtekjnfldgjcgeaaGreatDoorA0
import Derived.Lib.Strings
import Derived.Laws.IdiomStrings
set_option linter.all false
set_option maxRecDepth 100000
set_option maxHeartbeats 8000000
namespace Go.Proofs.YtekjnfldgjcgeaaGreatDoor
open Go.RowKit
def RowAny (W:World) (v:Value) (n:Nat) (xs:List Value):Prop :=
 (n=0/\∃ a cap,v=.slice a 0 cap)\/∃ g off cap,v=.slice (some ⟨g,off,none⟩) n cap/\n<=cap/\cap<=maxLen/\g<W.heap.size/\∀ (j:Nat) (u:Value),xs[j]?=some u->W.cell? ⟨g,off+j,none⟩=some u
theorem RowAny.below {W W':World} {v:Value} {n:Nat} {xs:List Value} (h:RowAny W v n xs) (hb:Below W.heap.size W W'):RowAny W' v n xs:=by
 rcases h with h | ⟨g,off,cap,hv,h1,h2,h3,h4⟩
 ·exact .inl h
 ·exact .inr ⟨g,off,cap,hv,h1,h2,Nat.lt_of_lt_of_le h3 hb.size,fun j u hj=>(hb.cell (p:=⟨g,off+j,none⟩) h3).trans (h4 j u hj)⟩
inductive ETree (W:World):XV->Tree->Prop
 | mk {k lo hi:Int} {ns ks:Value} {x nums:List Int} {kids:List Tree} (vs:List XV) :
   (∀ c∈x,0<=c/\c<=255)->x.length<=9223372036854775807->RowAny W ns nums.length (zat nums)->RowAny W ks kids.length (vs.flatMap XV.cells)->vs.length=kids.length ->
   (∀ (i:Nat) (y:XV) (t:Tree),vs[i]?=some y->kids[i]?=some t->ETree W y t)->ETree W ⟨k,za3 x,ns,lo,hi,ks⟩ (.mk k x nums lo hi kids)
theorem ETree.under {W W':World} {x:XV} {t:Tree} (h:ETree W x t) (hb:Below W.heap.size W W'):ETree W' x t:=by
 induction h with
 | mk vs h0 hl h1 h2 h3 _ ih=>exact .mk vs h0 hl (h1.below hb) (h2.below hb) h3 ih
theorem zgr (c:Int) (h0:0<=c) (h1:c<=255) (w:World):Calls Tryz.prog 71 #[.int .u8 c] w (zd3 (smB c) w):=by
 have hu:smB c=(decide (97<=c)&&decide (c<=122)):=rfl
 by_cases a:97<=c<;>by_cases b:c<=122
 all_goals try (exfalso;omega)
 all_goals
  simp only [a,b,decide_true,decide_false,Bool.and_true,Bool.and_false,Bool.and_self] at hu
  rw [hu]
  clear hu
  go_enter Tryz.func71,Tryz.ntmps71
  go_wp2
  go_ret
  exact ⟨rfl,rfl⟩
theorem zsj (c:Int) (h0:0<=c) (h1:c<=255) (w:World):Calls Tryz.prog 72 #[.int .u8 c] w (zd3 (isDc c) w):=by
 have hu:isDc c=(decide (48<=c)&&decide (c<=57)):=rfl
 by_cases a:48<=c<;>by_cases b:c<=57
 all_goals try (exfalso;omega)
 all_goals
  simp only [a,b,decide_true,decide_false,Bool.and_true,Bool.and_false,Bool.and_self] at hu
  rw [hu]
  clear hu
  go_enter Tryz.func72,Tryz.ntmps72
  go_wp2
  go_ret
  exact ⟨rfl,rfl⟩
theorem zno (c:Int) (h0:0<=c) (h1:c<=255) (w:World):Calls Tryz.prog 81 #[.int .u8 c] w (zd3 (smB c) w):=by
 have hu:smB c=(decide (97<=c)&&decide (c<=122)):=rfl
 by_cases a:97<=c<;>by_cases b:c<=122
 all_goals try (exfalso;omega)
 all_goals
  simp only [a,b,decide_true,decide_false,Bool.and_true,Bool.and_false,Bool.and_self] at hu
  rw [hu]
  clear hu
  go_enter Tryz.func81,Tryz.ntmps81
  go_wp2
  go_ret
  exact ⟨rfl,rfl⟩
theorem zy4 (n:Int) (w:World):Calls Tryz.prog 122 #[.int .i64 n] w (zd3 (numB n) w):=by
 have hu:numB n=(decide (0<=n)&&decide (n<=1114111)):=rfl
 by_cases a:0<=n<;>by_cases b:n<=1114111
 all_goals try (exfalso;omega)
 all_goals
  simp only [a,b,decide_true,decide_false,Bool.and_true,Bool.and_false,Bool.and_self] at hu
  rw [hu]
  clear hu
  go_enter Tryz.func122,Tryz.ntmps122
  go_wp2
  go_ret
  exact ⟨rfl,rfl⟩
theorem zsk (c:Int) (h0:0<=c) (h1:c<=255) (w:World):Calls Tryz.prog 83 #[.int .u8 c] w (zd3 (nlB c) w):=by
 have HS:=hh9 (fun W=>zno c h0 h1 W)
 cases hs:smB c
 ·rw [hs] at HS
  cases hd:isDc c
  ·have hd':¬ (48<=c/\c<=57):=by unfold isDc at hd;simp at hd;omega
   by_cases e:c=45
   ·subst e
    rw [show nlB 45=true by decide]
    clear hs hd hd'
    go_enter Tryz.func83,Tryz.ntmps83
    go_wp2_with fail
    refine (HS.out _).mono ?_
    rintro e w' ⟨rfl,rfl⟩
    go_wp2_with fail
    go_ret
    exact ⟨rfl,rfl⟩
   ·have q:(c==45)=false:=by simpa using e
    rw [show nlB c=false by unfold nlB;rw [hs,hd,q];rfl]
    clear hs hd
    by_cases a:48<=c
    ·have b:decide (c<=57)=false:=decide_eq_false (by omega)
     go_enter Tryz.func83,Tryz.ntmps83
     go_wp2_with fail
     refine (HS.out _).mono ?_
     rintro e w' ⟨rfl,rfl⟩
     go_wp2_with fail
     go_ret
     exact ⟨rfl,rfl⟩
    ·go_enter Tryz.func83,Tryz.ntmps83
     go_wp2_with fail
     refine (HS.out _).mono ?_
     rintro e w' ⟨rfl,rfl⟩
     go_wp2_with fail
     go_ret
     exact ⟨rfl,rfl⟩
  ·obtain ⟨a,b⟩:48<=c/\c<=57:=by unfold isDc at hd;simpa using hd
   rw [show nlB c=true by unfold nlB;rw [hd];simp]
   clear hs hd
   go_enter Tryz.func83,Tryz.ntmps83
   go_wp2_with fail
   refine (HS.out _).mono ?_
   rintro e w' ⟨rfl,rfl⟩
   go_wp2_with fail
   go_ret
   exact ⟨rfl,rfl⟩
 ·rw [hs] at HS
  rw [show nlB c=true by unfold nlB;rw [hs];rfl]
  clear hs
  go_enter Tryz.func83,Tryz.ntmps83
  go_wp2_with fail
  refine (HS.out _).mono ?_
  rintro e w' ⟨rfl,rfl⟩
  go_wp2_with fail
  go_ret
  exact ⟨rfl,rfl⟩
theorem zga {x:List Int} (hx:∀ c∈x,0<=c/\c<=255) (i:Nat) (h:i<(za3 x).size):x[i]?=some ((za3 x)[i].toNat:Int):=by
 have h':i<x.length:=by rwa [za9] at h
 have h1:(za3 x)[i]=byt x[i]:=by
  have e:(za3 x).data.toList[i]?=some (byt x[i]):=by rw [zcf,List.getElem?_map,List.getElem?_eq_getElem h'];rfl
  have e2:(za3 x).data.toList[i]?=some (za3 x)[i]:=List.getElem?_eq_getElem (by simpa using h)
  exact Option.some.inj (e2.symm.trans e)
 rw [h1,List.getElem?_eq_getElem h']
 have hm:=hx x[i] (List.getElem_mem h')
 unfold byt
 congr 1
 simp
 omega
theorem zjg {s:ByteArray} (h:0<s.size):s.toList.isEmpty=false:=by
 rw [Lib.toList_data]
 cases g:s.data.toList with
 | nil =>
  have:s.size=0:=by
   show s.data.size=0
   rw [<- Array.length_toList,g];rfl
  omega
 | cons a l=>rfl
theorem zgb {P:Int->Bool} {x:List Int} {n:Nat} (hn:x.length<=n) (h:∀ (i:Nat) (c:Int),i<n->x[i]?=some c->P c=true):x.all P=true:=by
 rw [List.all_eq_true]
 intro c hc
 obtain ⟨i,hi⟩:=List.getElem?_of_mem hc
 exact h i c (Nat.lt_of_lt_of_le (List.getElem?_eq_some_iff.1 hi).1 hn) hi
theorem zhp {P:Int->Bool} {x:List Int} {i:Nat} {c:Int} (h:x[i]?=some c) (hc:P c=false):x.all P=false:=by
 rw [List.all_eq_false]
 exact ⟨c,List.mem_of_getElem? h,by simp [hc]⟩
theorem zdw {x:List Int} (w:World) (hx:∀ c∈x,0<=c/\c<=255) (hl:x.length<=9223372036854775807):Calls Tryz.prog 73 #[.string (za3 x)] w (zd3 (x.all foB) w):=by
 have hsz:=za9 x
 have hget:=zga hx
 obtain ⟨S,hS⟩:∃ S,S=za3 x:=⟨_,rfl⟩
 rw [<- hS] at hsz hget ⊢
 obtain ⟨n,hn⟩:∃ n,n=x.length:=⟨_,rfl⟩
 rw [<- hn] at hsz hl
 have HN:=hh9 hn
 have HGET:=hh9 hget
 have HSZ:=hh9 hsz
 have hsm:S.size<=9223372036854775807:=by omega
 clear hx hS hn hget
 go_enter Tryz.func73,Tryz.ntmps73
 go_wp2_with fail
 go_loop [3] (fun v=>∃ i:Nat,v=.int .i64 i/\i<=n/\∀ (j:Nat) (c:Int),j<i->x[j]?=some c->foB c=true) (fun v=>n-(intOf v).toNat)
 case atStart=>exact ⟨0,rfl,by omega,fun j c h=>by omega⟩
 case round =>
  obtain ⟨i,rfl,hi,hall⟩:=hrel
  have HALL:=hh9 hall
  clear hall
  by_cases hlt:i<n
  ·have hss:i<S.size:=by have:=HSZ.out;omega
   have hxi:=HGET.out i hss
   obtain ⟨Z,hZ⟩:∃ z,((S[i].toNat:Nat):Int)=z:=⟨_,rfl⟩
   rw [hZ] at hxi
   have hZ0:0<=Z:=by omega
   have HXI:=hh9 hxi
   clear hxi
   cases hf:foB Z
   ·have HNOT:=hh9 (zhp HXI.out hf)
    rw [HNOT.out]
    have hf2:Z<32\/126<Z\/Z=34\/(65<=Z/\Z<=90):=by
     unfold foB at hf
     simp at hf
     omega
    clear hf
    by_cases a:Z<32
    ·go_wp2_with fail
     go_ret
     exact ⟨rfl,rfl⟩
    ·by_cases b:126<Z
     ·go_wp2_with fail
      go_ret
      exact ⟨rfl,rfl⟩
     ·by_cases c:Z=34
      ·have qc:(Z==34)=true:=by simpa using c
       go_wp2_with fail
       go_ret
       exact ⟨rfl,rfl⟩
      ·have qc:(Z==34)=false:=by simpa using c
       have d:65<=Z:=by omega
       have d2:Z<=90:=by omega
       go_wp2_with fail
       go_ret
       exact ⟨rfl,rfl⟩
   ·have HNX:Hid (∀ (j:Nat) (c:Int),j<i+1->x[j]?=some c->foB c=true):=fun j c hj hc=>by
     by_cases g:j=i
     ·subst g
      rw [HXI.out] at hc
      rw [<- Option.some.inj hc]
      exact hf
     ·exact HALL.out j c (by omega) hc
    have hf2:32<=Z/\Z<=126/\Z≠34/\(Z<65\/90<Z):=by
     unfold foB at hf
     simp at hf
     omega
    obtain ⟨a,b,c,d⟩:=hf2
    have qc:(Z==34)=false:=by simpa using c
    clear hf c
    by_cases e:65<=Z
    ·have e2:decide (Z<=90)=false:=decide_eq_false (by omega)
     go_wp2_with fail
     go_round
     case rel=>exact ⟨i+1,by go_num,by omega,HNX.out⟩
     case measure=>simp [intOf];omega
    ·go_wp2_with fail
     go_round
     case rel=>exact ⟨i+1,by go_num,by omega,HNX.out⟩
     case measure=>simp [intOf];omega
  ·have hyes:x.all foB=true:=zgb (n:=n) (by rw [HN.out];exact Nat.le_refl _) (fun j c h hc=>HALL.out j c (by omega) hc)
   have HYES:=hh9 hyes
   clear hyes
   go_wp2_with fail
   go_ret
   exact ⟨by rw [HYES.out];exact rfl,rfl⟩
theorem qcw {c:Int} (h:nlB c=false):smB c=false/\isDc c=false/\c≠45:=by
 unfold nlB at h
 simp at h
 exact ⟨h.1.1,h.1.2,h.2⟩
theorem zdd {x:List Int} (w:World) (hx:∀ c∈x,0<=c/\c<=255) (hl:x.length<=9223372036854775807):Calls Tryz.prog 49 #[.string (za3 x)] w (zd3 (zdc x) w):=by
 cases x with
 | nil =>
  rw [zez]
  go_enter Tryz.func49,Tryz.ntmps49
  go_wp2_with fail
  go_ret
  exact ⟨rfl,rfl⟩
 | cons a l =>
  obtain ⟨x,hxx⟩:∃ x,x=a::l:=⟨_,rfl⟩
  have hname:zdc (a::l)=(decide (x.length<=40)&&smB a&&x.all nlB):=by rw [hxx];rfl
  rw [hname]
  rw [<- hxx] at hx hl ⊢
  have ha:=hx a (by rw [hxx];simp)
  have h0:x[0]?=some a:=by rw [hxx];rfl
  have hpos:0<x.length:=by rw [hxx];simp
  clear hname hxx
  have hsz:=za9 x
  have hget:=zga hx
  obtain ⟨S,hS⟩:∃ S,S=za3 x:=⟨_,rfl⟩
  rw [<- hS] at hsz hget ⊢
  obtain ⟨n,hn⟩:∃ n,n=x.length:=⟨_,rfl⟩
  rw [<- hn] at hsz hl hpos ⊢
  have hlist:S.toList.isEmpty=false:=zjg (by omega)
  have HN:=hh9 hn
  have HGET:=hh9 hget
  have HSZ:=hh9 hsz
  have hsm:S.size<=9223372036854775807:=by omega
  have hpos2:0<S.size:=by omega
  have hfirst:((S[0].toNat:Nat):Int)=a:=by
   have:=hget 0 hpos2
   rw [h0] at this
   exact (Option.some.inj this).symm
  have HFIRST:=hh9 hfirst
  have HX:=hh9 hx
  clear hx hS hn hget h0 hfirst
  by_cases h40:n<=40
  ·have q1:decide (n<=40)=true:=decide_eq_true h40
   rw [q1]
   have hs40:¬ 40<S.size:=by have:=HSZ.out;omega
   cases hsm0:smB a
   ·have HSM:=hh9 (fun W=>zgr a ha.1 ha.2 W)
    rw [hsm0] at HSM
    clear q1
    go_enter Tryz.func49,Tryz.ntmps49
    go_wp2_with fail
    rw [HFIRST.out]
    refine (HSM.out _).mono ?_
    rintro e w' ⟨rfl,rfl⟩
    go_wp2_with fail
    go_ret
    exact ⟨rfl,rfl⟩
   ·have HSM:=hh9 (fun W=>zgr a ha.1 ha.2 W)
    rw [hsm0] at HSM
    clear q1
    go_enter Tryz.func49,Tryz.ntmps49
    go_wp2_with fail
    rw [HFIRST.out]
    refine (HSM.out _).mono ?_
    rintro e w' ⟨rfl,rfl⟩
    go_wp2_with fail
    go_loop [3] (fun v=>∃ i:Nat,v=.int .i64 i/\i<=n/\∀ (j:Nat) (c:Int),j<i->x[j]?=some c->nlB c=true) (fun v=>n-(intOf v).toNat)
    case atStart=>exact ⟨0,rfl,by omega,fun j c h=>by omega⟩
    case round =>
     obtain ⟨i,rfl,hi,hall⟩:=hrel
     have HALL:=hh9 hall
     clear hall
     by_cases hlt:i<n
     ·have hss:i<S.size:=by have:=HSZ.out;omega
      have hxi:=HGET.out i hss
      obtain ⟨Z,hZ⟩:∃ z,((S[i].toNat:Nat):Int)=z:=⟨_,rfl⟩
      rw [hZ] at hxi
      have hZ0:0<=Z/\Z<=255:=HX.out Z (List.mem_of_getElem? hxi)
      have HXI:=hh9 hxi
      have HL:=hh9 (fun W=>zgr Z hZ0.1 hZ0.2 W)
      have HD:=hh9 (fun W=>zsj Z hZ0.1 hZ0.2 W)
      clear hxi
      cases hf:nlB Z
      ·have HNOT:=hh9 (zhp HXI.out hf)
       obtain ⟨f1,f2,f3⟩:=qcw hf
       rw [f1] at HL
       rw [f2] at HD
       have q45:(Z != 45)=true:=by simpa using f3
       clear hf f1 f2 f3
       go_wp2_with fail
       refine (HL.out _).mono ?_
       rintro e w' ⟨rfl,rfl⟩
       go_wp2_with fail
       refine (HD.out _).mono ?_
       rintro e w' ⟨rfl,rfl⟩
       go_wp2_with fail
       go_ret
       exact ⟨by rw [HNOT.out];simp,rfl⟩
      ·have HNX:Hid (∀ (j:Nat) (c:Int),j<i+1->x[j]?=some c->nlB c=true):=fun j c hj hc=>by
        by_cases g:j=i
        ·subst g
         rw [HXI.out] at hc
         rw [<- Option.some.inj hc]
         exact hf
        ·exact HALL.out j c (by omega) hc
       cases f1:smB Z
       ·rw [f1] at HL
        cases f2:isDc Z
        ·rw [f2] at HD
         have q45:(Z != 45)=false:=by
          unfold nlB at hf
          rw [f1,f2] at hf
          simpa using hf
         clear hf f1 f2
         go_wp2_with fail
         refine (HL.out _).mono ?_
         rintro e w' ⟨rfl,rfl⟩
         go_wp2_with fail
         refine (HD.out _).mono ?_
         rintro e w' ⟨rfl,rfl⟩
         go_wp2_with fail
         go_round
         case rel=>exact ⟨i+1,by go_num,by omega,HNX.out⟩
         case measure=>simp [intOf];omega
        ·rw [f2] at HD
         clear hf f1 f2
         go_wp2_with fail
         refine (HL.out _).mono ?_
         rintro e w' ⟨rfl,rfl⟩
         go_wp2_with fail
         refine (HD.out _).mono ?_
         rintro e w' ⟨rfl,rfl⟩
         go_wp2_with fail
         go_round
         case rel=>exact ⟨i+1,by go_num,by omega,HNX.out⟩
         case measure=>simp [intOf];omega
       ·rw [f1] at HL
        clear hf f1
        go_wp2_with fail
        refine (HL.out _).mono ?_
        rintro e w' ⟨rfl,rfl⟩
        go_wp2_with fail
        go_round
        case rel=>exact ⟨i+1,by go_num,by omega,HNX.out⟩
        case measure=>simp [intOf];omega
     ·have hyes:x.all nlB=true:=zgb (n:=n) (by rw [HN.out];exact Nat.le_refl _) (fun j c h hc=>HALL.out j c (by omega) hc)
      have HYES:=hh9 hyes
      clear hyes
      go_wp2_with fail
      go_ret
      exact ⟨by rw [HYES.out];exact rfl,rfl⟩
  ·have q1:decide (n<=40)=false:=decide_eq_false h40
   rw [q1]
   have hs40:40<S.size:=by have:=HSZ.out;omega
   clear q1
   go_enter Tryz.func49,Tryz.ntmps49
   go_wp2_with fail
   go_ret
   exact ⟨rfl,rfl⟩
def zfp (x:List Int):List Value:=x.map (Value.int .u8)
theorem znp {x:List Int} {i:Nat} {c:Int} (h:x[i]?=some c):(zfp x)[i]?=some (.int .u8 c):=by simp [zfp,h]
theorem zec {x:List Int} {i:Nat} {c:Int} (h:x[i]?=some c):(zat x)[i]?=some (.int .i64 c):=by simp [zat,h]
theorem zsl (c:Int) (h0:0<=c) (h1:c<=255) (w:World):Calls Tryz.prog 120 #[.int .u8 c] w (zd3 (foB c) w):=by
 have hu:foB c=(decide (32<=c)&&decide (c<=126)&&!(c==34)&&!(decide (65<=c)&&decide (c<=90))):=rfl
 by_cases q:c=34
 ·subst q
  rw [show foB 34=false by decide]
  clear hu
  go_enter Tryz.func120,Tryz.ntmps120
  go_wp2
  go_ret
  exact ⟨rfl,rfl⟩
 ·have q1:(c==34)=false:=by simpa using q
  have q2:(c != 34)=true:=by simpa using q
  rw [q1] at hu
  by_cases a:32<=c<;>by_cases b:c<=126<;>by_cases d:65<=c<;>by_cases e:c<=90
  all_goals try (exfalso;omega)
  all_goals
   simp only [a,b,d,e,decide_true,decide_false,Bool.and_true,Bool.and_false,Bool.and_self,Bool.not_false,Bool.not_true,Bool.true_and,Bool.false_and] at hu
   rw [hu]
   clear hu
   have w1:(32<=c\/¬ 32<=c):=by omega
   have k1:decide (c<65)=!decide (65<=c):=by by_cases g:65<=c<;>simp [g]<;>omega
   have k2:decide (90<c)=!decide (c<=90):=by by_cases g:c<=90<;>simp [g]<;>omega
   simp only [d,e,decide_true,decide_false,Bool.not_true,Bool.not_false] at k1 k2
   clear w1
   go_enter Tryz.func120,Tryz.ntmps120
   go_wp2
   go_ret
   exact ⟨rfl,rfl⟩
theorem zy5 {B:Nat} {w:World} (c:Int) (hb:0<=c/\c<=255) (hB:w.cell? ⟨B,0,none⟩=some (.func (Fn.func 83) #[] #[])):Calls Tryz.prog 98 #[.int .u8 c,.pointer (some ⟨B,0,none⟩)] w (zd3 (!nlB c) w):=by
 cases hp:nlB c
 all_goals
  have HC:=hh9 (fun W:World=>(show Calls Tryz.prog 83 #[.int .u8 c] W (zd3 (nlB c) W) from zsk c hb.1 hb.2 _))
  rw [hp] at HC
  clear hp
  go_enter Tryz.func98,Tryz.ntmps98
  go_wp2_with fail
  refine (HC.out _).mono ?_
  rintro e w' ⟨rfl,rfl⟩
  go_wp2_with fail
  go_ret
  exact ⟨rfl,rfl⟩
theorem zsm {B:Nat} {w:World} {x:List Int} {v:Value} (hx:∀ c∈x,0<=c/\c<=255) (hv:RowAny w v x.length (zfp x)) (hB:w.cell? ⟨B,0,none⟩=some (.func (Fn.func 83) #[] #[])) :
  Calls Tryz.prog 118 #[v,.func (Fn.func 98) #[] #[.pointer (some ⟨B,0,none⟩)]] w fun e w'=>∃ i:Int,e=.returned (.int .i64 i)/\w=w'/\-1<=i/\decide (0<=i)=!x.all nlB:=by
 have HX:=hh9 hx
 clear hx
 have HB:=hh9 hB
 obtain ⟨n,hn⟩:∃ n,n=x.length:=⟨_,rfl⟩
 rw [<- hn] at hv
 have HN:=hh9 hn
 rcases hv with ⟨h0,a,cap,rfl⟩ | ⟨g,off,cap,rfl,h1,h2,h3,h4⟩
 ·have hx0:x=[]:=List.length_eq_zero_iff.1 (by omega)
  subst hx0
  clear hn h0 hB
  go_enter Tryz.func118,Tryz.ntmps118
  go_wp2_with fail
  go_loop [8] (fun v=>v=.int .i64 0) (fun v=>0)
  case atStart=>rfl
  case round =>
   subst hrel
   go_wp2_with fail
   go_ret
   exact ⟨-1,rfl,rfl,by omega,by decide⟩
 ·have H4:=hh9 h4
  unfold maxLen at h2
  clear hn h4 hB
  go_enter Tryz.func118,Tryz.ntmps118
  go_wp2_with fail
  go_loop [8] (fun v=>∃ i:Nat,v=.int .i64 i/\i<=n/\∀ (j:Nat) (c:Int),j<i->x[j]?=some c->nlB c=true) (fun v=>n-(intOf v).toNat)
  case atStart=>exact ⟨0,rfl,by omega,fun j c h=>by omega⟩
  case round =>
   obtain ⟨i,rfl,hi,hall⟩:=hrel
   have HALL:=hh9 hall
   clear hall
   by_cases hlt:i<n
   ·obtain ⟨Z,hZ⟩:∃ z,x[i]?=some z:=⟨_,List.getElem?_eq_getElem (by rw [<- HN.out];exact hlt)⟩
    have HXI:=hh9 hZ
    have c0:=H4.out i _ (znp hZ)
    clear hZ
    go_wp2_with fail
    refine (zy5 Z (HX.out Z (List.mem_of_getElem? HXI.out)) HB.out).mono ?_
    cases hf:nlB Z
    ·have HNOT:=hh9 (zhp HXI.out hf)
     clear hf
     rintro e w' ⟨rfl,rfl⟩
     go_wp2_with fail
     go_ret
     exact ⟨(i:Int),rfl,rfl,by omega,by rw [HNOT.out];simp⟩
    ·have HNX:Hid (∀ (j:Nat) (c:Int),j<i+1->x[j]?=some c->nlB c=true):=fun j c hj hc=>by
      by_cases g:j=i
      ·subst g
       rw [HXI.out] at hc
       rw [<- Option.some.inj hc]
       exact hf
      ·exact HALL.out j c (by omega) hc
     clear hf
     rintro e w' ⟨rfl,rfl⟩
     go_wp2_with fail
     go_round
     case rel=>exact ⟨i+1,by go_num,by omega,HNX.out⟩
     case measure=>simp [intOf];omega
   ·have hyes:x.all nlB=true:=zgb (n:=n) (by rw [HN.out];exact Nat.le_refl _) (fun j c h hc=>HALL.out j c (by omega) hc)
    have HYES:=hh9 hyes
    clear hyes
    go_wp2_with fail
    go_ret
    exact ⟨-1,rfl,rfl,by omega,by rw [HYES.out];decide⟩
theorem zue {B:Nat} {w:World} {x:List Int} {v:Value} (hx:∀ c∈x,0<=c/\c<=255) (hv:RowAny w v x.length (zfp x)) (hB:w.cell? ⟨B,0,none⟩=some (.func (Fn.func 83) #[] #[])) :
  Calls Tryz.prog 97 #[v,.func (Fn.func 98) #[] #[.pointer (some ⟨B,0,none⟩)]] w (zd3 (!x.all nlB) w):=by
 have HI:=hh9 (zsm hx hv hB)
 clear hv hB
 go_enter Tryz.func97,Tryz.ntmps97
 go_wp2_with fail
 refine HI.out.mono ?_
 rintro e w' ⟨i,rfl,rfl,hi,hd⟩
 have HD:=hh9 hd
 clear hd
 go_wp2_with fail
 go_ret
 exact ⟨by rw [<- HD.out];exact rfl,rfl⟩
theorem zy6 {w:World} {x:List Int} {v:Value} (hx:∀ c∈x,0<=c/\c<=255) (hv:RowAny w v x.length (zfp x)) :
  Calls Tryz.prog 82 #[v,.func (Fn.func 83) #[] #[]] w (zam (x.all nlB) w):=by
 have HS:=hh9 (fun o:Obj=>zue (w:=w.alloc o) (B:=w.heap.size) hx (hv.below ((Below.refl _ _).alloc (Nat.le_refl _) _)))
 clear hv
 cases hp:x.all nlB
 all_goals
  rw [hp] at HS
  clear hp
  go_enter Tryz.func82,Tryz.ntmps82
  go_wp2_with fail
  refine (HS.out _ (by unfold World.cell?;rw [heap_alloc_new];rfl)).mono ?_
  rintro e w' ⟨rfl,rfl⟩
  go_wp2_with fail
  go_ret
  exact ⟨rfl,(Below.refl _ _).alloc (Nat.le_refl _) _⟩
theorem zy7 {B:Nat} {w:World} (c:Int) (hb:0<=c/\c<=255) (hB:w.cell? ⟨B,0,none⟩=some (.func (Fn.func 120) #[] #[])):Calls Tryz.prog 98 #[.int .u8 c,.pointer (some ⟨B,0,none⟩)] w (zd3 (!foB c) w):=by
 cases hp:foB c
 all_goals
  have HC:=hh9 (fun W:World=>(show Calls Tryz.prog 120 #[.int .u8 c] W (zd3 (foB c) W) from zsl c hb.1 hb.2 _))
  rw [hp] at HC
  clear hp
  go_enter Tryz.func98,Tryz.ntmps98
  go_wp2_with fail
  refine (HC.out _).mono ?_
  rintro e w' ⟨rfl,rfl⟩
  go_wp2_with fail
  go_ret
  exact ⟨rfl,rfl⟩
theorem zsn {B:Nat} {w:World} {x:List Int} {v:Value} (hx:∀ c∈x,0<=c/\c<=255) (hv:RowAny w v x.length (zfp x)) (hB:w.cell? ⟨B,0,none⟩=some (.func (Fn.func 120) #[] #[])) :
  Calls Tryz.prog 118 #[v,.func (Fn.func 98) #[] #[.pointer (some ⟨B,0,none⟩)]] w fun e w'=>∃ i:Int,e=.returned (.int .i64 i)/\w=w'/\-1<=i/\decide (0<=i)=!x.all foB:=by
 have HX:=hh9 hx
 clear hx
 have HB:=hh9 hB
 obtain ⟨n,hn⟩:∃ n,n=x.length:=⟨_,rfl⟩
 rw [<- hn] at hv
 have HN:=hh9 hn
 rcases hv with ⟨h0,a,cap,rfl⟩ | ⟨g,off,cap,rfl,h1,h2,h3,h4⟩
 ·have hx0:x=[]:=List.length_eq_zero_iff.1 (by omega)
  subst hx0
  clear hn h0 hB
  go_enter Tryz.func118,Tryz.ntmps118
  go_wp2_with fail
  go_loop [8] (fun v=>v=.int .i64 0) (fun v=>0)
  case atStart=>rfl
  case round =>
   subst hrel
   go_wp2_with fail
   go_ret
   exact ⟨-1,rfl,rfl,by omega,by decide⟩
 ·have H4:=hh9 h4
  unfold maxLen at h2
  clear hn h4 hB
  go_enter Tryz.func118,Tryz.ntmps118
  go_wp2_with fail
  go_loop [8] (fun v=>∃ i:Nat,v=.int .i64 i/\i<=n/\∀ (j:Nat) (c:Int),j<i->x[j]?=some c->foB c=true) (fun v=>n-(intOf v).toNat)
  case atStart=>exact ⟨0,rfl,by omega,fun j c h=>by omega⟩
  case round =>
   obtain ⟨i,rfl,hi,hall⟩:=hrel
   have HALL:=hh9 hall
   clear hall
   by_cases hlt:i<n
   ·obtain ⟨Z,hZ⟩:∃ z,x[i]?=some z:=⟨_,List.getElem?_eq_getElem (by rw [<- HN.out];exact hlt)⟩
    have HXI:=hh9 hZ
    have c0:=H4.out i _ (znp hZ)
    clear hZ
    go_wp2_with fail
    refine (zy7 Z (HX.out Z (List.mem_of_getElem? HXI.out)) HB.out).mono ?_
    cases hf:foB Z
    ·have HNOT:=hh9 (zhp HXI.out hf)
     clear hf
     rintro e w' ⟨rfl,rfl⟩
     go_wp2_with fail
     go_ret
     exact ⟨(i:Int),rfl,rfl,by omega,by rw [HNOT.out];simp⟩
    ·have HNX:Hid (∀ (j:Nat) (c:Int),j<i+1->x[j]?=some c->foB c=true):=fun j c hj hc=>by
      by_cases g:j=i
      ·subst g
       rw [HXI.out] at hc
       rw [<- Option.some.inj hc]
       exact hf
      ·exact HALL.out j c (by omega) hc
     clear hf
     rintro e w' ⟨rfl,rfl⟩
     go_wp2_with fail
     go_round
     case rel=>exact ⟨i+1,by go_num,by omega,HNX.out⟩
     case measure=>simp [intOf];omega
   ·have hyes:x.all foB=true:=zgb (n:=n) (by rw [HN.out];exact Nat.le_refl _) (fun j c h hc=>HALL.out j c (by omega) hc)
    have HYES:=hh9 hyes
    clear hyes
    go_wp2_with fail
    go_ret
    exact ⟨-1,rfl,rfl,by omega,by rw [HYES.out];decide⟩
theorem zuf {B:Nat} {w:World} {x:List Int} {v:Value} (hx:∀ c∈x,0<=c/\c<=255) (hv:RowAny w v x.length (zfp x)) (hB:w.cell? ⟨B,0,none⟩=some (.func (Fn.func 120) #[] #[])) :
  Calls Tryz.prog 97 #[v,.func (Fn.func 98) #[] #[.pointer (some ⟨B,0,none⟩)]] w (zd3 (!x.all foB) w):=by
 have HI:=hh9 (zsn hx hv hB)
 clear hv hB
 go_enter Tryz.func97,Tryz.ntmps97
 go_wp2_with fail
 refine HI.out.mono ?_
 rintro e w' ⟨i,rfl,rfl,hi,hd⟩
 have HD:=hh9 hd
 clear hd
 go_wp2_with fail
 go_ret
 exact ⟨by rw [<- HD.out];exact rfl,rfl⟩
theorem zy8 {w:World} {x:List Int} {v:Value} (hx:∀ c∈x,0<=c/\c<=255) (hv:RowAny w v x.length (zfp x)) :
  Calls Tryz.prog 82 #[v,.func (Fn.func 120) #[] #[]] w (zam (x.all foB) w):=by
 have HS:=hh9 (fun o:Obj=>zuf (w:=w.alloc o) (B:=w.heap.size) hx (hv.below ((Below.refl _ _).alloc (Nat.le_refl _) _)))
 clear hv
 cases hp:x.all foB
 all_goals
  rw [hp] at HS
  clear hp
  go_enter Tryz.func82,Tryz.ntmps82
  go_wp2_with fail
  refine (HS.out _ (by unfold World.cell?;rw [heap_alloc_new];rfl)).mono ?_
  rintro e w' ⟨rfl,rfl⟩
  go_wp2_with fail
  go_ret
  exact ⟨rfl,(Below.refl _ _).alloc (Nat.le_refl _) _⟩
theorem zy9 {B:Nat} {w:World} (c:Int) (hB:w.cell? ⟨B,0,none⟩=some (.func (Fn.func 122) #[] #[])):Calls Tryz.prog 144 #[.int .i64 c,.pointer (some ⟨B,0,none⟩)] w (zd3 (!numB c) w):=by
 cases hp:numB c
 all_goals
  have HC:=hh9 (fun W:World=>(show Calls Tryz.prog 122 #[.int .i64 c] W (zd3 (numB c) W) from zy4 c _))
  rw [hp] at HC
  clear hp
  go_enter Tryz.func144,Tryz.ntmps144
  go_wp2_with fail
  refine (HC.out _).mono ?_
  rintro e w' ⟨rfl,rfl⟩
  go_wp2_with fail
  go_ret
  exact ⟨rfl,rfl⟩
theorem zso {B:Nat} {w:World} {x:List Int} {v:Value} (hv:RowAny w v x.length (zat x)) (hB:w.cell? ⟨B,0,none⟩=some (.func (Fn.func 122) #[] #[])) :
  Calls Tryz.prog 162 #[v,.func (Fn.func 144) #[] #[.pointer (some ⟨B,0,none⟩)]] w fun e w'=>∃ i:Int,e=.returned (.int .i64 i)/\w=w'/\-1<=i/\decide (0<=i)=!x.all numB:=by
 have HB:=hh9 hB
 obtain ⟨n,hn⟩:∃ n,n=x.length:=⟨_,rfl⟩
 rw [<- hn] at hv
 have HN:=hh9 hn
 rcases hv with ⟨h0,a,cap,rfl⟩ | ⟨g,off,cap,rfl,h1,h2,h3,h4⟩
 ·have hx0:x=[]:=List.length_eq_zero_iff.1 (by omega)
  subst hx0
  clear hn h0 hB
  go_enter Tryz.func162,Tryz.ntmps162
  go_wp2_with fail
  go_loop [8] (fun v=>v=.int .i64 0) (fun v=>0)
  case atStart=>rfl
  case round =>
   subst hrel
   go_wp2_with fail
   go_ret
   exact ⟨-1,rfl,rfl,by omega,by decide⟩
 ·have H4:=hh9 h4
  unfold maxLen at h2
  clear hn h4 hB
  go_enter Tryz.func162,Tryz.ntmps162
  go_wp2_with fail
  go_loop [8] (fun v=>∃ i:Nat,v=.int .i64 i/\i<=n/\∀ (j:Nat) (c:Int),j<i->x[j]?=some c->numB c=true) (fun v=>n-(intOf v).toNat)
  case atStart=>exact ⟨0,rfl,by omega,fun j c h=>by omega⟩
  case round =>
   obtain ⟨i,rfl,hi,hall⟩:=hrel
   have HALL:=hh9 hall
   clear hall
   by_cases hlt:i<n
   ·obtain ⟨Z,hZ⟩:∃ z,x[i]?=some z:=⟨_,List.getElem?_eq_getElem (by rw [<- HN.out];exact hlt)⟩
    have HXI:=hh9 hZ
    have c0:=H4.out i _ (zec hZ)
    clear hZ
    go_wp2_with fail
    refine (zy9 Z HB.out).mono ?_
    cases hf:numB Z
    ·have HNOT:=hh9 (zhp HXI.out hf)
     clear hf
     rintro e w' ⟨rfl,rfl⟩
     go_wp2_with fail
     go_ret
     exact ⟨(i:Int),rfl,rfl,by omega,by rw [HNOT.out];simp⟩
    ·have HNX:Hid (∀ (j:Nat) (c:Int),j<i+1->x[j]?=some c->numB c=true):=fun j c hj hc=>by
      by_cases g:j=i
      ·subst g
       rw [HXI.out] at hc
       rw [<- Option.some.inj hc]
       exact hf
      ·exact HALL.out j c (by omega) hc
     clear hf
     rintro e w' ⟨rfl,rfl⟩
     go_wp2_with fail
     go_round
     case rel=>exact ⟨i+1,by go_num,by omega,HNX.out⟩
     case measure=>simp [intOf];omega
   ·have hyes:x.all numB=true:=zgb (n:=n) (by rw [HN.out];exact Nat.le_refl _) (fun j c h hc=>HALL.out j c (by omega) hc)
    have HYES:=hh9 hyes
    clear hyes
    go_wp2_with fail
    go_ret
    exact ⟨-1,rfl,rfl,by omega,by rw [HYES.out];decide⟩
theorem zug {B:Nat} {w:World} {x:List Int} {v:Value} (hv:RowAny w v x.length (zat x)) (hB:w.cell? ⟨B,0,none⟩=some (.func (Fn.func 122) #[] #[])) :
  Calls Tryz.prog 143 #[v,.func (Fn.func 144) #[] #[.pointer (some ⟨B,0,none⟩)]] w (zd3 (!x.all numB) w):=by
 have HI:=hh9 (zso hv hB)
 clear hv hB
 go_enter Tryz.func143,Tryz.ntmps143
 go_wp2_with fail
 refine HI.out.mono ?_
 rintro e w' ⟨i,rfl,rfl,hi,hd⟩
 have HD:=hh9 hd
 clear hd
 go_wp2_with fail
 go_ret
 exact ⟨by rw [<- HD.out];exact rfl,rfl⟩
theorem zqu {w:World} {x:List Int} {v:Value} (hv:RowAny w v x.length (zat x)) :
  Calls Tryz.prog 121 #[v,.func (Fn.func 122) #[] #[]] w (zam (x.all numB) w):=by
 have HS:=hh9 (fun o:Obj=>zug (w:=w.alloc o) (B:=w.heap.size) (hv.below ((Below.refl _ _).alloc (Nat.le_refl _) _)))
 clear hv
 cases hp:x.all numB
 all_goals
  rw [hp] at HS
  clear hp
  go_enter Tryz.func121,Tryz.ntmps121
  go_wp2_with fail
  refine (HS.out _ (by unfold World.cell?;rw [heap_alloc_new];rfl)).mono ?_
  rintro e w' ⟨rfl,rfl⟩
  go_wp2_with fail
  go_ret
  exact ⟨rfl,(Below.refl _ _).alloc (Nat.le_refl _) _⟩
theorem zl6 (W:World) (S:ByteArray) (hs:S.size<=maxLen):∃ cap,S.size<=cap/\cap<=maxLen /\
  (convert 9 100 (.string S)).run Tryz.prog W=.ok (.slice (some ⟨W.heap.size,0,none⟩) S.size cap) (W.drew.alloc (.cells (bytesRow S cap) 5 ((bytesRow S cap).size,(bytesRow S cap).size+1))) :=
 ⟨grownCap W S.size 0 5,grownCap_ge _ _ _ _,grownCap_le_maxLen _ _ _ _ hs,run_bytes_of_string W 9 100 5 S Tryz.underlying9 Tryz.underlying100 Tryz.underlying5⟩
theorem znq {x:List Int} (hx:∀ c∈x,0<=c/\c<=255) (W:World) (cap:Nat) (hc:x.length<=cap) (hm:cap<=maxLen) :
  RowAny (W.drew.alloc (.cells (bytesRow (za3 x) cap) 5 ((bytesRow (za3 x) cap).size,(bytesRow (za3 x) cap).size+1))) (.slice (some ⟨W.heap.size,0,none⟩) x.length cap) x.length (zfp x):=by
 refine .inr ⟨W.heap.size,0,cap,rfl,hc,hm,by simp,fun j u hj=>?_⟩
 have hjl:j<x.length:=by
  have:=(List.getElem?_eq_some_iff.1 hj).1
  simpa [zfp] using this
 have hjs:j<(za3 x).size:=by rw [za9];exact hjl
 have hg:=zga hx j hjs
 have hb:=bytesRow_at (za3 x) cap j hjs
 have hu:u=.int .u8 (((za3 x)[j].toNat:Nat):Int):=by
  unfold zfp at hj
  rw [List.getElem?_map,hg] at hj
  exact (Option.some.inj hj).symm
 have hblk:(W.drew.alloc (.cells (bytesRow (za3 x) cap) 5 ((bytesRow (za3 x) cap).size,(bytesRow (za3 x) cap).size+1))).heap[W.heap.size]?=some (.cells (bytesRow (za3 x) cap) 5 ((bytesRow (za3 x) cap).size,(bytesRow (za3 x) cap).size+1)):=by
  show (W.heap.push _)[W.heap.size]?=_
  simp
 rw [hu]
 simp only [World.cell?,hblk,Nat.zero_add]
 exact hb
theorem znr {x:List Int} (w:World) (hx:∀ c∈x,0<=c/\c<=255) (hl:x.length<=9223372036854775807):Calls Tryz.prog 62 #[.string (za3 x)] w (zam (zdc x) w):=by
 cases x with
 | nil =>
  rw [zez]
  go_enter Tryz.func62,Tryz.ntmps62
  go_wp2_with fail
  go_ret
  exact ⟨rfl,Below.refl _ _⟩
 | cons a l =>
  obtain ⟨x,hxx⟩:∃ x,x=a::l:=⟨_,rfl⟩
  have hname:zdc (a::l)=(decide (x.length<=40)&&smB a&&x.all nlB):=by rw [hxx];rfl
  rw [hname]
  rw [<- hxx] at hx hl ⊢
  have ha:=hx a (by rw [hxx];simp)
  have h0:x[0]?=some a:=by rw [hxx];rfl
  have hpos:0<x.length:=by rw [hxx];simp
  clear hname hxx
  have hsz:=za9 x
  obtain ⟨cap,hc1,hc2,kc⟩:=zl6 w (za3 x) (by rw [za9];unfold maxLen;omega)
  have hrow:=znq hx w cap (by rw [<- za9];exact hc1) hc2
  have hget:=zga hx
  rw [za9] at kc
  obtain ⟨S,hS⟩:∃ S,S=za3 x:=⟨_,rfl⟩
  rw [<- hS] at hsz hget hrow kc ⊢
  have HROW:=hh9 (zy6 hx hrow)
  obtain ⟨n,hn⟩:∃ n,n=x.length:=⟨_,rfl⟩
  rw [<- hn] at hsz hl hpos kc HROW ⊢
  have hlist:S.toList.isEmpty=false:=zjg (by omega)
  have HSZ:=hh9 hsz
  have hsm:S.size<=9223372036854775807:=by omega
  have hpos2:0<S.size:=by omega
  have hfirst:((S[0].toNat:Nat):Int)=a:=by
   have:=hget 0 hpos2
   rw [h0] at this
   exact (Option.some.inj this).symm
  have HFIRST:=hh9 hfirst
  have HB:Hid (Below w.heap.size w (w.drew.alloc (.cells (bytesRow S cap) 5 ((bytesRow S cap).size,(bytesRow S cap).size+1)))):=(za7 (Below.refl w.heap.size w) 1).alloc (Nat.le_refl _) _
  clear hx hS hn hget h0 hfirst hrow hc1 hc2
  by_cases h40:n<=40
  ·have q1:decide (n<=40)=true:=decide_eq_true h40
   rw [q1]
   have hs40:S.size<=40:=by have:=HSZ.out;omega
   have HSM:=hh9 (fun W=>zno a ha.1 ha.2 W)
   cases hsm0:smB a
   ·rw [hsm0] at HSM
    clear q1 hsm0
    go_enter Tryz.func62,Tryz.ntmps62
    go_wp2_with fail
    rw [HFIRST.out]
    refine (HSM.out _).mono ?_
    rintro e w' ⟨rfl,rfl⟩
    go_wp2_with fail
    go_ret
    exact ⟨rfl,Below.refl _ _⟩
   ·rw [hsm0] at HSM
    clear q1 hsm0
    go_enter Tryz.func62,Tryz.ntmps62
    go_wp2_with fail
    rw [HFIRST.out]
    refine (HSM.out _).mono ?_
    rintro e w' ⟨rfl,rfl⟩
    go_wp2_with fail
    refine HROW.out.mono ?_
    rintro e w' ⟨rfl,hb⟩
    have HB2:=hh9 (za0 HB.out hb)
    clear hb
    go_wp2_with fail
    go_ret
    exact ⟨by simp,HB2.out⟩
  ·have q1:decide (n<=40)=false:=decide_eq_false h40
   rw [q1]
   have hs40:¬ S.size<=40:=by have:=HSZ.out;omega
   clear q1
   go_enter Tryz.func62,Tryz.ntmps62
   go_wp2_with fail
   go_ret
   exact ⟨rfl,Below.refl _ _⟩
theorem zdx {x:List Int} {v:Value} (w:World) (lo hi:Nat) (hlo:lo<=20000) (hhi:hi<=20000) (hv:RowAny w v x.length (zat x)) :
  Calls Tryz.prog 74 #[v,.int .i64 lo,.int .i64 hi] w (zd3 (x.all numB&&(decide (lo<=x.length)&&decide (x.length<=hi))) w):=by
 obtain ⟨n,hn⟩:∃ n,n=x.length:=⟨_,rfl⟩
 rw [<- hn] at hv ⊢
 have HN:=hh9 hn
 rcases hv with ⟨h0,a,cap,rfl⟩ | ⟨g,off,cap,rfl,h1,h2,h3,h4⟩
 ·have hx0:x=[]:=List.length_eq_zero_iff.1 (by omega)
  subst hx0
  subst h0
  clear hn
  by_cases a1:lo<=0
  ·have q1:decide (lo<=0)=true:=decide_eq_true a1
   have q2:decide (0<=hi)=true:=decide_eq_true (by omega)
   have q3:decide ((0:Int)<=(hi:Int))=true:=decide_eq_true (by omega)
   have q4:decide ((lo:Int)<=0)=true:=decide_eq_true (by omega)
   rw [q1,q2]
   clear q1 q2
   go_enter Tryz.func74,Tryz.ntmps74
   go_wp2_with fail
   go_loop [7] (fun v=>v=.int .i64 0) (fun v=>0)
   case atStart=>rfl
   case round =>
    subst hrel
    go_wp2_with fail
    go_ret
    exact ⟨rfl,rfl⟩
  ·have q1:decide (lo<=0)=false:=decide_eq_false a1
   have q4:decide ((lo:Int)<=0)=false:=decide_eq_false (by omega)
   rw [q1]
   clear q1
   go_enter Tryz.func74,Tryz.ntmps74
   go_wp2_with fail
   go_loop [7] (fun v=>v=.int .i64 0) (fun v=>0)
   case atStart=>rfl
   case round =>
    subst hrel
    go_wp2_with fail
    go_ret
    exact ⟨rfl,rfl⟩
 ·have H4:=hh9 h4
  unfold maxLen at h2
  clear hn h4
  go_enter Tryz.func74,Tryz.ntmps74
  go_wp2_with fail
  go_loop [7] (fun v=>∃ i:Nat,v=.int .i64 i/\i<=n/\∀ (j:Nat) (c:Int),j<i->x[j]?=some c->numB c=true) (fun v=>n-(intOf v).toNat)
  case atStart=>exact ⟨0,rfl,by omega,fun j c h=>by omega⟩
  case round =>
   obtain ⟨i,rfl,hi',hall⟩:=hrel
   have HALL:=hh9 hall
   clear hall
   by_cases hlt:i<n
   ·obtain ⟨Z,hZ⟩:∃ z,x[i]?=some z:=⟨_,List.getElem?_eq_getElem (by rw [<- HN.out];exact hlt)⟩
    have HXI:=hh9 hZ
    have c0:=H4.out i _ (zec hZ)
    clear hZ
    cases hf:numB Z
    ·have HNOT:=hh9 (zhp HXI.out hf)
     have hf2:Z<0\/1114111<Z:=by unfold numB at hf;simp at hf;omega
     clear hf
     by_cases b:Z<0
     ·go_wp2_with fail
      go_ret
      exact ⟨by rw [HNOT.out];exact rfl,rfl⟩
     ·have b2:1114111<Z:=by omega
      go_wp2_with fail
      go_ret
      exact ⟨by rw [HNOT.out];exact rfl,rfl⟩
    ·have HNX:Hid (∀ (j:Nat) (c:Int),j<i+1->x[j]?=some c->numB c=true):=fun j c hj hc=>by
      by_cases g:j=i
      ·subst g
       rw [HXI.out] at hc
       rw [<- Option.some.inj hc]
       exact hf
      ·exact HALL.out j c (by omega) hc
     obtain ⟨f1,f2⟩:0<=Z/\Z<=1114111:=by unfold numB at hf;simpa using hf
     clear hf
     go_wp2_with fail
     go_round
     case rel=>exact ⟨i+1,by go_num,by omega,HNX.out⟩
     case measure=>simp [intOf];omega
   ·have hyes:x.all numB=true:=zgb (n:=n) (by rw [HN.out];exact Nat.le_refl _) (fun j c h hc=>HALL.out j c (by omega) hc)
    have HYES:=hh9 hyes
    clear hyes
    by_cases a1:lo<=n
    ·have q4:decide ((lo:Int)<=(n:Int))=true:=decide_eq_true (by omega)
     by_cases a2:n<=hi
     ·have q3:decide ((n:Int)<=(hi:Int))=true:=decide_eq_true (by omega)
      go_wp2_with fail
      go_ret
      exact ⟨by first | (rw [HYES.out];exact rfl) | exact rfl,rfl⟩
     ·have q3:decide ((n:Int)<=(hi:Int))=false:=decide_eq_false (by omega)
      go_wp2_with fail
      go_ret
      exact ⟨by first | (rw [HYES.out];exact rfl) | exact rfl,rfl⟩
    ·have q4:decide ((lo:Int)<=(n:Int))=false:=decide_eq_false (by omega)
     go_wp2_with fail
     go_ret
     exact ⟨by first | (rw [HYES.out];exact rfl) | exact rfl,rfl⟩
theorem zjh (W:World) (c:Int) (h0:0<=c) (h1:c<=255) :
  (convert 100 9 (.slice (some ⟨W.heap.size,0,none⟩) 1 1)).run Tryz.prog (W.alloc (.cells #[.int .u8 c] 5))=.ok (.string (za3 [c])) (W.alloc (.cells #[.int .u8 c] 5)):=by
 have h:=run_convert_bytes_back (P:=Tryz.prog) (W.alloc (.cells #[.int .u8 c] 5)) 100 9 5 ⟨W.heap.size,0,none⟩ 1 [byt c] Tryz.underlying100 Tryz.underlying5 Tryz.underlying9 (fun j hj=>by
  have hj0:j=0:=by simp at hj;exact hj
  subst hj0
  have e:((byt c).toNat:Int)=c:=by unfold byt;simp;omega
  show World.cell? _ ⟨W.heap.size,0,none⟩=some (.int .u8 ((byt c).toNat:Int))
  rw [e]
  unfold World.cell?
  show (match (W.alloc _).heap[W.heap.size]? with | some (.cells c elem frozen)=>c[0]? | x=>none)=_
  rw [heap_alloc_new]
  rfl)
 exact h
theorem zal (x y:List Int):za3 x++za3 y=za3 (x++y):=by
 apply ByteArray.ext
 unfold za3
 simp
theorem zff {n:Int} (h0:0<=n) (h1:n<=255):IntKind.u8.wrap n=n:=by rw [IntKind.wrap_u8];omega
theorem zmi:∀ f n,(decF f n).length<=f
 | 0,_=>by simp [decF]
 | f+1,n=>by
  unfold decF
  split
  ·simp
  ·have:=zmi f (n / 10)
   simp
   omega
theorem zns {f n:Nat} (h:n<10):decF (f+1) n=[48+(n:Int)]:=by
 unfold decF
 rw [if_pos h,Nat.mod_eq_of_lt h]
 rfl
theorem zuh {f n:Nat} (h:¬ n<10):decF (f+1) n=decF f (n / 10)++[48+((n%10:Nat):Int)]:=by
 rw [decF,if_neg h]
theorem zpn:∀ (f n:Nat) (w:World),n<10 ^ (f+1)->f<=17->Calls Tryz.prog 76 #[.int .i64 n] w fun e w'=>e=.returned (.string (za3 (decF (f+1) n)))/\Below w.heap.size w w':=by
 intro f
 induction f with
 | zero =>
  intro n w h _
  have hs:n<10:=by simpa using h
  have hm:(n:Int)%10=(n:Int):=by omega
  have kc:=fun (W:World)=>zjh W (48+(n:Int)) (by omega) (by omega)
  have hw:IntKind.u8.wrap (48+(n:Int))=48+(n:Int):=zff (by omega) (by omega)
  have q:decide ((n:Int)<10)=true:=decide_eq_true (by omega)
  rw [zns hs]
  clear h hm
  have hm:(n:Int)%10=(n:Int):=by omega
  go_enter Tryz.func76,Tryz.ntmps76
  go_wp2_with fail
  go_ret
  exact ⟨rfl,(Below.refl _ _).alloc (Nat.le_refl _) _⟩
 | succ f ih =>
  intro n w h hf
  by_cases hs:n<10
  ·have hm:(n:Int)%10=(n:Int):=by omega
   have kc:=fun (W:World)=>zjh W (48+(n:Int)) (by omega) (by omega)
   have hw:IntKind.u8.wrap (48+(n:Int))=48+(n:Int):=zff (by omega) (by omega)
   have q:decide ((n:Int)<10)=true:=decide_eq_true (by omega)
   rw [zns hs]
   clear h ih
   go_enter Tryz.func76,Tryz.ntmps76
   go_wp2_with fail
   go_ret
   exact ⟨rfl,(Below.refl _ _).alloc (Nat.le_refl _) _⟩
  ·obtain ⟨m,hm0⟩:∃ m:Nat,n%10=m:=⟨_,rfl⟩
   obtain ⟨d,hd0⟩:∃ d:Nat,n / 10=d:=⟨_,rfl⟩
   have hm:(n:Int)%10=(m:Int):=by omega
   have hd:(n:Int) / 10=(d:Int):=by omega
   have hmb:m<10:=by omega
   have kc:=fun (W:World)=>zjh W (48+(m:Int)) (by omega) (by omega)
   have hw:IntKind.u8.wrap (48+(m:Int))=48+(m:Int):=zff (by omega) (by omega)
   have q:decide ((n:Int)<10)=false:=decide_eq_false (by omega)
   have hdl:d<10 ^ (f+1):=by
    have:n<10 ^ (f+1)*10:=by rw [<- Nat.pow_succ];exact h
    omega
   have HC:=hh9 (fun W=>ih d W hdl (by omega))
   have hlen:=zmi (f+1) d
   have hT:(za3 (decF (f+1) d)).size<=20:=by rw [za9];omega
   have hT3:(za3 [48+(m:Int)]).size=1:=rfl
   have hfin:za3 (decF (f+1) d)++za3 [48+(m:Int)]=za3 (decF (f+2) n):=by rw [zal,zuh hs,hm0,hd0]
   have HFIN:=hh9 hfin
   obtain ⟨T,hTT⟩:∃ T,T=za3 (decF (f+1) d):=⟨_,rfl⟩
   rw [<- hTT] at HC hT HFIN
   have hn18:(n:Int)<=1000000000000000000:=by
    have h1:(10:Nat) ^ (f+1+1)<=10 ^ 18:=Nat.pow_le_pow_right (by omega) (by omega)
    have h2:(10:Nat) ^ 18=1000000000000000000:=by decide
    rw [h2] at h1
    have h3:=Nat.lt_of_lt_of_le h h1
    omega
   clear h ih hfin hTT hm0 hd0 hdl hlen
   go_enter Tryz.func76,Tryz.ntmps76
   go_wp2_with fail
   refine (HC.out _).mono ?_
   rintro e w1 ⟨rfl,hb⟩
   have HB:Hid (Below w.heap.size w w1):=((Below.refl w.heap.size w).alloc (Nat.le_refl _) (.cells #[.int .u8 (48+(m:Int))] 5)).trans (hb.mono (by simp))
   clear hb
   go_wp2_with fail
   go_ret
   exact ⟨congrArg (fun u=>Ending.returned (Value.string u)) HFIN.out,HB.out⟩
end Go.Proofs.YtekjnfldgjcgeaaGreatDoor
