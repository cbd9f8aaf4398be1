/- Part 28 of what the laws of the grammar rest on. -/
import Derived.Test.YtekjnfldgjcgeaaGreatDoorA27
import Derived.WalkMore
import Derived.Shelf.Strings.OnBuilder
set_option linter.all false
set_option maxRecDepth 100000
set_option maxHeartbeats 8000000
namespace Go.Proofs.YtekjnfldgjcgeaaGreatDoor
open Go.RowKit
theorem zb7 {R p:Nat} {c:Int} {s:ByteArray} {w:World} (h:AtY w R s p c) (hs:s.size<=50000) (hp:p<=60000) (k:Nat) (hk:k<=60000) (x:Int) (hx:x=k) (X:Int) (hX:rd s (p+k)=X) :
  Calls Tryz.prog 17 #[.pointer (some ⟨R,0,none⟩),.int .i64 x] w (zgy X w):=by
 rw [<- hX]
 exact qc8 h hs hp k hk x hx
theorem yat0 {R p:Nat} {c:Int} {s:ByteArray} {w:World} (h:AtY w R s p c) (hs:s.size<=50000) (hp:p<=60000) (X:Int) (hX:rd s p=X) :
  Calls Tryz.prog 17 #[.pointer (some ⟨R,0,none⟩),.int .i64 0] w (zgy X w):=zb7 h hs hp 0 (by omega) 0 rfl X hX
noncomputable def zd1 (f:Nat->Int) (p:Nat):Int:=match zas f p with | some e=>(e:Int)-p | none=>-1
theorem zcb {f:Nat->Int} {p e:Nat} (h:zas f p=some e):zd1 f p=(e:Int)-p:=by unfold zd1;rw [h]
theorem zd9 {f:Nat->Int} {p:Nat} (h:zas f p=none):zd1 f p=-1:=by unfold zd1;rw [h]
theorem qc9 {f:Nat->Int} {p k:Nat} (h:zbm f p=p+k) (h1:f (p+k)<0):(k:Int)=zd1 f p:=by unfold zd1 zas;rw [h,if_pos h1];simp;omega
theorem qca {f:Nat->Int} {p k:Nat} (h:zbm f p=p+k) (h1:f (p+k)=10):(k:Int)+1=zd1 f p:=by unfold zd1 zas;rw [h,if_neg (by omega),if_pos h1];simp;omega
theorem qcb {f:Nat->Int} {p k:Nat} (h:zbm f p=p+k) (h1:f (p+k)=13) (h2:f (p+(k+1))=10):(k:Int)+2=zd1 f p:=by unfold zd1 zas;rw [h,if_neg (by omega),if_neg (by omega),if_pos ⟨h1,h2⟩];simp;omega
theorem ztr {f:Nat->Int} {p k:Nat} (h:zbm f p=p+k) (h0:¬ f (p+k)<0) (h1:f (p+k)≠10) (h2:¬ (f (p+k)=13/\f (p+(k+1))=10)):(-1:Int)=zd1 f p:=by
 unfold zd1 zas;rw [h,if_neg h0,if_neg h1,if_neg (by exact h2)]
def InEnd (s:ByteArray) (p:Nat) (w wr:World) (k:Nat):Prop:=Below w.heap.size w wr/\1<=k/\(p+k<=s.size)/\∀ i,p+1<=i->i<p+k->isCm (rd s i)=true
theorem zd7 {R p:Nat} {c:Int} {s:ByteArray} {w:World} (h:AtY w R s p c) (hs:s.size<=50000) (hp:p<=60000) :
  Calls Tryz.prog 18 #[.pointer (some ⟨R,0,none⟩)] w (zgy (zd1 (rd s) p) w):=by
 have H:=hh9 h
 clear h
 by_cases h59:rd s p=59
 ·have H59:=hh9 h59
  have hlt:p<s.size:=by
   by_cases k:p<s.size
   ·exact k
   ·rw [zbz k] at h59;omega
  clear h59
  go_enter Tryz.func18,Tryz.ntmps18
  go_wp2_with fail
  refine (yat0 H.out hs hp _ H59.out).mono ?_
  rintro e w1 ⟨rfl,hb⟩
  have HB1:=hh9 hb
  clear hb
  go_wp2_with fail
  go_loopw [3] (fun v wr=>∃ k:Nat,v=.int .i64 k/\InEnd s p w wr k) (fun v _=>s.size-(p+(intOf v).toNat))
  case atStart=>exact ⟨1,rfl,HB1.out,Nat.le_refl _,by omega,fun i h1 h2=>absurd h1 (by omega)⟩
  case round =>
   obtain ⟨k,rfl,hb,hk1,hk2,hall⟩:=hrel
   have HB:=hh9 hb
   have HA:=hh9 (H.out.below hb)
   have HL:=hh9 hall
   clear hb hall
   obtain ⟨Z,hZ⟩:∃ x,rd s (p+k)=x:=⟨_,rfl⟩
   have HZ:=hh9 hZ
   cases hcm:isCm Z
   ·have HC:Hid (zbm (rd s) p=p+k):=by
     unfold zbm
     rw [if_pos H59.out]
     exact IsRun.eq ⟨by omega,HL.out,by rw [hZ];exact hcm⟩
    obtain ⟨g1,g2⟩:isBl Z=false/\¬ (32<Z/\Z<127):=by
     unfold isCm at hcm
     simp at hcm
     exact ⟨hcm.1,by omega⟩
    have G1:=hh9 g1
    clear hZ hcm g1
    by_cases a:32<Z
    ·have b:¬ Z<127:=fun b=>g2 ⟨a,b⟩
     clear g2
     go_wp2_with fail
     refine (zb7 HA.out hs hp k (by omega) _ (by omega) _ HZ.out).mono ?_
     rintro e w2 ⟨rfl,hb⟩
     have HB2:=hh9 (za0 HB.out hb)
     have HA2:=hh9 (HA.out.below hb)
     clear hb HB HA
     go_wp2_with fail
     refine (zc7 _ _).mono ?_
     rw [G1.out]
     rintro e w' ⟨rfl,rfl⟩
     go_wp2_with fail
     refine (zb7 HA2.out hs hp k (by omega) _ (by omega) _ HZ.out).mono ?_
     rintro e w2b ⟨rfl,hb⟩
     have HB2b:=hh9 (za0 HB2.out hb)
     have HA2b:=hh9 (HA2.out.below hb)
     clear hb HB2 HA2
     go_wp2_with fail
     refine (zb7 HA2b.out hs hp k (by omega) _ (by omega) _ HZ.out).mono ?_
     rintro e w2c ⟨rfl,hb⟩
     have HB:=hh9 (za0 HB2b.out hb)
     have HA:=hh9 (HA2b.out.below hb)
     clear hb HB2b HA2b
     obtain ⟨X,hX⟩:∃ x,rd s (p+k)=x:=⟨_,rfl⟩
     have HX:=hh9 hX
     clear hX
     by_cases h10:X=10
     ·subst h10
      go_wp2_with fail
      refine (zb7 HA.out hs hp k (by omega) _ (by omega) _ HX.out).mono ?_
      rintro e w3 ⟨rfl,hb⟩
      have HB3:=hh9 (za0 HB.out hb)
      clear hb
      go_wp2
      go_ret
      exact ⟨zbw (by have hlen:=qca HC.out HX.out;omega),HB3.out⟩
     ·have q10:(X==10)=false:=by simpa using h10
      go_wp2_with fail
      refine (zb7 HA.out hs hp k (by omega) _ (by omega) _ HX.out).mono ?_
      rintro e w3 ⟨rfl,hb⟩
      have HB3:=hh9 (za0 HB.out hb)
      have HA3:=hh9 (HA.out.below hb)
      clear hb
      by_cases h13:X=13
      ·subst h13
       clear q10
       by_cases h11:rd s (p+(k+1))=10
       ·have H11:=hh9 h11
        clear h11
        go_wp2_with fail
        refine (zb7 HA3.out hs hp k (by omega) _ (by omega) _ HX.out).mono ?_
        rintro e w4 ⟨rfl,hb⟩
        have HB4:=hh9 (za0 HB3.out hb)
        have HA4:=hh9 (HA3.out.below hb)
        clear hb
        go_wp2_with fail
        refine (zb7 HA4.out hs hp (k+1) (by omega) _ (by omega) _ H11.out).mono ?_
        rintro e w5 ⟨rfl,hb⟩
        have HB5:=hh9 (za0 HB4.out hb)
        clear hb
        go_wp2
        go_ret
        exact ⟨zbw (by have hlen:=qcb HC.out HX.out H11.out;omega),HB5.out⟩
       ·obtain ⟨Y,hY⟩:∃ y,rd s (p+(k+1))=y:=⟨_,rfl⟩
        have q11:(Y==10)=false:=by rw [<- hY];simpa using h11
        have H11:=hh9 h11
        have HY:=hh9 hY
        clear h11 hY
        go_wp2_with fail
        refine (zb7 HA3.out hs hp k (by omega) _ (by omega) _ HX.out).mono ?_
        rintro e w4 ⟨rfl,hb⟩
        have HB4:=hh9 (za0 HB3.out hb)
        have HA4:=hh9 (HA3.out.below hb)
        clear hb
        go_wp2_with fail
        refine (zb7 HA4.out hs hp (k+1) (by omega) _ (by omega) _ HY.out).mono ?_
        rintro e w5 ⟨rfl,hb⟩
        have HB5:=hh9 (za0 HB4.out hb)
        have HA5:=hh9 (HA4.out.below hb)
        clear hb
        go_wp2_with fail
        refine (zb7 HA5.out hs hp k (by omega) _ (by omega) _ HX.out).mono ?_
        rintro e w6 ⟨rfl,hb⟩
        have HB6:=hh9 (za0 HB5.out hb)
        clear hb
        go_wp2
        go_ret
        exact ⟨zbw (by have hlen:=ztr HC.out (by rw [HX.out];omega) (by rw [HX.out];omega) (fun g=>H11.out g.2);omega),HB6.out⟩
      ·have q13:(X==13)=false:=by simpa using h13
       have H13:=hh9 h13
       have H10:=hh9 h10
       clear h13 h10
       go_wp2_with fail
       refine (zb7 HA3.out hs hp k (by omega) _ (by omega) _ HX.out).mono ?_
       rintro e w4 ⟨rfl,hb⟩
       have HB4:=hh9 (za0 HB3.out hb)
       have HA4:=hh9 (HA3.out.below hb)
       clear hb
       by_cases hn:X<0
       ·go_wp2_with fail
        refine (zb7 HA4.out hs hp k (by omega) _ (by omega) _ HX.out).mono ?_
        rintro e w5 ⟨rfl,hb⟩
        have HB5:=hh9 (za0 HB4.out hb)
        clear hb
        go_wp2
        go_ret
        exact ⟨zbw (by have hlen:=qc9 HC.out (by rw [HX.out];omega);omega),HB5.out⟩
       ·go_wp2_with fail
        refine (zb7 HA4.out hs hp k (by omega) _ (by omega) _ HX.out).mono ?_
        rintro e w5 ⟨rfl,hb⟩
        have HB5:=hh9 (za0 HB4.out hb)
        clear hb
        go_wp2
        go_ret
        exact ⟨zbw (by have hlen:=ztr HC.out (by rw [HX.out];omega) (by rw [HX.out];exact H10.out) (fun g=>H13.out (by rw [<- HX.out];exact g.1));omega),HB5.out⟩
    ·clear g2
     go_wp2_with fail
     refine (zb7 HA.out hs hp k (by omega) _ (by omega) _ HZ.out).mono ?_
     rintro e w2 ⟨rfl,hb⟩
     have HB2:=hh9 (za0 HB.out hb)
     have HA2:=hh9 (HA.out.below hb)
     clear hb HB HA
     go_wp2_with fail
     refine (zc7 _ _).mono ?_
     rw [G1.out]
     rintro e w' ⟨rfl,rfl⟩
     go_wp2_with fail
     refine (zb7 HA2.out hs hp k (by omega) _ (by omega) _ HZ.out).mono ?_
     rintro e w2b ⟨rfl,hb⟩
     have HB:=hh9 (za0 HB2.out hb)
     have HA:=hh9 (HA2.out.below hb)
     clear hb HB2 HA2
     obtain ⟨X,hX⟩:∃ x,rd s (p+k)=x:=⟨_,rfl⟩
     have HX:=hh9 hX
     clear hX
     by_cases h10:X=10
     ·subst h10
      go_wp2_with fail
      refine (zb7 HA.out hs hp k (by omega) _ (by omega) _ HX.out).mono ?_
      rintro e w3 ⟨rfl,hb⟩
      have HB3:=hh9 (za0 HB.out hb)
      clear hb
      go_wp2
      go_ret
      exact ⟨zbw (by have hlen:=qca HC.out HX.out;omega),HB3.out⟩
     ·have q10:(X==10)=false:=by simpa using h10
      go_wp2_with fail
      refine (zb7 HA.out hs hp k (by omega) _ (by omega) _ HX.out).mono ?_
      rintro e w3 ⟨rfl,hb⟩
      have HB3:=hh9 (za0 HB.out hb)
      have HA3:=hh9 (HA.out.below hb)
      clear hb
      by_cases h13:X=13
      ·subst h13
       clear q10
       by_cases h11:rd s (p+(k+1))=10
       ·have H11:=hh9 h11
        clear h11
        go_wp2_with fail
        refine (zb7 HA3.out hs hp k (by omega) _ (by omega) _ HX.out).mono ?_
        rintro e w4 ⟨rfl,hb⟩
        have HB4:=hh9 (za0 HB3.out hb)
        have HA4:=hh9 (HA3.out.below hb)
        clear hb
        go_wp2_with fail
        refine (zb7 HA4.out hs hp (k+1) (by omega) _ (by omega) _ H11.out).mono ?_
        rintro e w5 ⟨rfl,hb⟩
        have HB5:=hh9 (za0 HB4.out hb)
        clear hb
        go_wp2
        go_ret
        exact ⟨zbw (by have hlen:=qcb HC.out HX.out H11.out;omega),HB5.out⟩
       ·obtain ⟨Y,hY⟩:∃ y,rd s (p+(k+1))=y:=⟨_,rfl⟩
        have q11:(Y==10)=false:=by rw [<- hY];simpa using h11
        have H11:=hh9 h11
        have HY:=hh9 hY
        clear h11 hY
        go_wp2_with fail
        refine (zb7 HA3.out hs hp k (by omega) _ (by omega) _ HX.out).mono ?_
        rintro e w4 ⟨rfl,hb⟩
        have HB4:=hh9 (za0 HB3.out hb)
        have HA4:=hh9 (HA3.out.below hb)
        clear hb
        go_wp2_with fail
        refine (zb7 HA4.out hs hp (k+1) (by omega) _ (by omega) _ HY.out).mono ?_
        rintro e w5 ⟨rfl,hb⟩
        have HB5:=hh9 (za0 HB4.out hb)
        have HA5:=hh9 (HA4.out.below hb)
        clear hb
        go_wp2_with fail
        refine (zb7 HA5.out hs hp k (by omega) _ (by omega) _ HX.out).mono ?_
        rintro e w6 ⟨rfl,hb⟩
        have HB6:=hh9 (za0 HB5.out hb)
        clear hb
        go_wp2
        go_ret
        exact ⟨zbw (by have hlen:=ztr HC.out (by rw [HX.out];omega) (by rw [HX.out];omega) (fun g=>H11.out g.2);omega),HB6.out⟩
      ·have q13:(X==13)=false:=by simpa using h13
       have H13:=hh9 h13
       have H10:=hh9 h10
       clear h13 h10
       go_wp2_with fail
       refine (zb7 HA3.out hs hp k (by omega) _ (by omega) _ HX.out).mono ?_
       rintro e w4 ⟨rfl,hb⟩
       have HB4:=hh9 (za0 HB3.out hb)
       have HA4:=hh9 (HA3.out.below hb)
       clear hb
       by_cases hn:X<0
       ·go_wp2_with fail
        refine (zb7 HA4.out hs hp k (by omega) _ (by omega) _ HX.out).mono ?_
        rintro e w5 ⟨rfl,hb⟩
        have HB5:=hh9 (za0 HB4.out hb)
        clear hb
        go_wp2
        go_ret
        exact ⟨zbw (by have hlen:=qc9 HC.out (by rw [HX.out];omega);omega),HB5.out⟩
       ·go_wp2_with fail
        refine (zb7 HA4.out hs hp k (by omega) _ (by omega) _ HX.out).mono ?_
        rintro e w5 ⟨rfl,hb⟩
        have HB5:=hh9 (za0 HB4.out hb)
        clear hb
        go_wp2
        go_ret
        exact ⟨zbw (by have hlen:=ztr HC.out (by rw [HX.out];omega) (by rw [HX.out];exact H10.out) (fun g=>H13.out (by rw [<- HX.out];exact g.1));omega),HB5.out⟩
   ·have hlt2:p+k<s.size:=by
     by_cases g:p+k<s.size
     ·exact g
     ·rw [zbz g] at hZ;subst hZ;simp [isCm,isBl] at hcm
    have HN:Hid (∀ i,p+1<=i->i<p+(k+1)->isCm (rd s i)=true):=by
     intro i h1 h2
     by_cases g:i=p+k
     ·rw [g,hZ];exact hcm
     ·exact HL.out i h1 (by omega)
    clear hZ
    cases g1:isBl Z
    ·obtain ⟨a,b⟩:32<Z/\Z<127:=by
      unfold isCm at hcm
      rw [g1] at hcm
      simp at hcm
      omega
     have G1:=hh9 g1
     clear g1 hcm
     go_wp2_with fail
     refine (zb7 HA.out hs hp k (by omega) _ (by omega) _ HZ.out).mono ?_
     rintro e w2 ⟨rfl,hb⟩
     have HB2:=hh9 (za0 HB.out hb)
     have HA2:=hh9 (HA.out.below hb)
     clear hb
     go_wp2_with fail
     refine (zc7 _ _).mono ?_
     rw [G1.out]
     rintro e w' ⟨rfl,rfl⟩
     go_wp2_with fail
     refine (zb7 HA2.out hs hp k (by omega) _ (by omega) _ HZ.out).mono ?_
     rintro e w3 ⟨rfl,hb⟩
     have HB3:=hh9 (za0 HB2.out hb)
     have HA3:=hh9 (HA2.out.below hb)
     clear hb
     go_wp2_with fail
     refine (zb7 HA3.out hs hp k (by omega) _ (by omega) _ HZ.out).mono ?_
     rintro e w4 ⟨rfl,hb⟩
     have HB4:=hh9 (za0 HB3.out hb)
     clear hb
     go_wp2_with fail
     go_roundw
     case rel=>exact ⟨k+1,zvo (by omega),HB4.out,by omega,by omega,HN.out⟩
     case measure=>simp [intOf];omega
    ·have G1:=hh9 g1
     clear g1 hcm
     go_wp2_with fail
     refine (zb7 HA.out hs hp k (by omega) _ (by omega) _ HZ.out).mono ?_
     rintro e w2 ⟨rfl,hb⟩
     have HB2:=hh9 (za0 HB.out hb)
     clear hb
     go_wp2_with fail
     refine (zc7 _ _).mono ?_
     rw [G1.out]
     rintro e w' ⟨rfl,rfl⟩
     go_wp2_with fail
     go_roundw
     case rel=>exact ⟨k+1,zvo (by omega),HB2.out,by omega,by omega,HN.out⟩
     case measure=>simp [intOf];omega
 ·obtain ⟨X0,hX0⟩:∃ x,rd s p=x:=⟨_,rfl⟩
  have q59:(X0==59)=false:=by rw [<- hX0];simpa using h59
  have HX0:=hh9 hX0
  have HC:Hid (zbm (rd s) p=p+0):=by unfold zbm;rw [if_neg h59];rfl
  clear hX0 h59
  go_enter Tryz.func18,Tryz.ntmps18
  go_wp2_with fail
  refine (yat0 H.out hs hp _ HX0.out).mono ?_
  rintro e w1 ⟨rfl,hb⟩
  have HB:=hh9 hb
  have HA:=hh9 (H.out.below hb)
  clear hb
  obtain ⟨X,hX⟩:∃ x,rd s (p+0)=x:=⟨_,rfl⟩
  have HX:=hh9 hX
  clear hX
  by_cases h10:X=10
  ·subst h10
   go_wp2_with fail
   refine (zb7 HA.out hs hp 0 (by omega) _ (by omega) _ HX.out).mono ?_
   rintro e w3 ⟨rfl,hb⟩
   have HB3:=hh9 (za0 HB.out hb)
   clear hb
   go_wp2
   go_ret
   exact ⟨zbw (by have hlen:=qca HC.out HX.out;omega),HB3.out⟩
  ·have q10:(X==10)=false:=by simpa using h10
   go_wp2_with fail
   refine (zb7 HA.out hs hp 0 (by omega) _ (by omega) _ HX.out).mono ?_
   rintro e w3 ⟨rfl,hb⟩
   have HB3:=hh9 (za0 HB.out hb)
   have HA3:=hh9 (HA.out.below hb)
   clear hb
   by_cases h13:X=13
   ·subst h13
    clear q10
    by_cases h11:rd s (p+(0+1))=10
    ·have H11:=hh9 h11
     clear h11
     go_wp2_with fail
     refine (zb7 HA3.out hs hp 0 (by omega) _ (by omega) _ HX.out).mono ?_
     rintro e w4 ⟨rfl,hb⟩
     have HB4:=hh9 (za0 HB3.out hb)
     have HA4:=hh9 (HA3.out.below hb)
     clear hb
     go_wp2_with fail
     refine (zb7 HA4.out hs hp (0+1) (by omega) _ (by omega) _ H11.out).mono ?_
     rintro e w5 ⟨rfl,hb⟩
     have HB5:=hh9 (za0 HB4.out hb)
     clear hb
     go_wp2
     go_ret
     exact ⟨zbw (by have hlen:=qcb HC.out HX.out H11.out;omega),HB5.out⟩
    ·obtain ⟨Y,hY⟩:∃ y,rd s (p+(0+1))=y:=⟨_,rfl⟩
     have q11:(Y==10)=false:=by rw [<- hY];simpa using h11
     have H11:=hh9 h11
     have HY:=hh9 hY
     clear h11 hY
     go_wp2_with fail
     refine (zb7 HA3.out hs hp 0 (by omega) _ (by omega) _ HX.out).mono ?_
     rintro e w4 ⟨rfl,hb⟩
     have HB4:=hh9 (za0 HB3.out hb)
     have HA4:=hh9 (HA3.out.below hb)
     clear hb
     go_wp2_with fail
     refine (zb7 HA4.out hs hp (0+1) (by omega) _ (by omega) _ HY.out).mono ?_
     rintro e w5 ⟨rfl,hb⟩
     have HB5:=hh9 (za0 HB4.out hb)
     have HA5:=hh9 (HA4.out.below hb)
     clear hb
     go_wp2_with fail
     refine (zb7 HA5.out hs hp 0 (by omega) _ (by omega) _ HX.out).mono ?_
     rintro e w6 ⟨rfl,hb⟩
     have HB6:=hh9 (za0 HB5.out hb)
     clear hb
     go_wp2
     go_ret
     exact ⟨zbw (by have hlen:=ztr HC.out (by rw [HX.out];omega) (by rw [HX.out];omega) (fun g=>H11.out g.2);omega),HB6.out⟩
   ·have q13:(X==13)=false:=by simpa using h13
    have H13:=hh9 h13
    have H10:=hh9 h10
    clear h13 h10
    go_wp2_with fail
    refine (zb7 HA3.out hs hp 0 (by omega) _ (by omega) _ HX.out).mono ?_
    rintro e w4 ⟨rfl,hb⟩
    have HB4:=hh9 (za0 HB3.out hb)
    have HA4:=hh9 (HA3.out.below hb)
    clear hb
    by_cases hn:X<0
    ·go_wp2_with fail
     refine (zb7 HA4.out hs hp 0 (by omega) _ (by omega) _ HX.out).mono ?_
     rintro e w5 ⟨rfl,hb⟩
     have HB5:=hh9 (za0 HB4.out hb)
     clear hb
     go_wp2
     go_ret
     exact ⟨zbw (by have hlen:=qc9 HC.out (by rw [HX.out];omega);omega),HB5.out⟩
    ·go_wp2_with fail
     refine (zb7 HA4.out hs hp 0 (by omega) _ (by omega) _ HX.out).mono ?_
     rintro e w5 ⟨rfl,hb⟩
     have HB5:=hh9 (za0 HB4.out hb)
     clear hb
     go_wp2
     go_ret
     exact ⟨zbw (by have hlen:=ztr HC.out (by rw [HX.out];omega) (by rw [HX.out];exact H10.out) (fun g=>H13.out (by rw [<- HX.out];exact g.1));omega),HB5.out⟩
def qdl (R:Nat) (s:ByteArray) (p:Nat) (w:World) (e:Ending) (w':World):Prop :=
 ∃ q,Skip (rd s) p q/\p<=q/\q<=s.size/\GivesY R s (.bool (decide (p<q))) q 0 w e w'
def qcc (R:Nat) (s:ByteArray) (p:Nat) (w wr:World) (q:Nat):Prop :=
 AtY wr R s q 0/\w.grownBy wr (some R)/\p<=q/\q<=s.size/\∀ z,Skip (rd s) q z->Skip (rd s) p z
theorem zwx {s:ByteArray} {q:Nat}:zd1 (rd s) q=-1/\zas (rd s) q=none\/∃ e,zas (rd s) q=some e/\zd1 (rd s) q=(e:Int)-q:=by
 cases h:zas (rd s) q with
 | none=>exact .inl ⟨zd9 h,rfl⟩
 | some e=>exact .inr ⟨e,rfl,zcb h⟩
theorem zfl {R p:Nat} {c:Int} {s:ByteArray} {w:World} (h:AtY w R s p c) (hc:c≠0) (hs:s.size<=50000) :
  Calls Tryz.prog 35 #[.pointer (some ⟨R,0,none⟩)] w (GivesY R s (.bool false) p c w):=by
 obtain ⟨c0,c1,c2,z0,z1,z2⟩:=h.cells
 have H:=hh9 h
 have q1:(c==0)=false:=by simpa using hc
 clear h
 go_enter Tryz.func35,Tryz.ntmps35
 go_wp2_with fail
 go_loopw [] (fun wr=>wr=w) (fun wr=>0)
 case atStart=>rfl
 case round =>
  subst hrel
  go_wp2_with fail
  go_ret
  exact ⟨rfl,H.out,zak _ _⟩
theorem zfd {R p:Nat} {s:ByteArray} {w:World} (h:AtY w R s p 0) (hs:s.size<=50000) (hp:p<=s.size) :
  Calls Tryz.prog 35 #[.pointer (some ⟨R,0,none⟩)] w (qdl R s p w):=by
 obtain ⟨c0,c1,c2,z0,z1,z2⟩:=h.cells
 have H:=hh9 h
 clear h
 go_enter Tryz.func35,Tryz.ntmps35
 go_wp2_with fail
 clear c0 c1 c2 z0 z1 z2
 go_loopw [] (fun wr=>∃ q:Nat,qcc R s p w wr q) (fun wr=>s.size-zf4 R wr)
 case atStart=>exact ⟨p,H.out,zak _ _,Nat.le_refl _,hp,fun z hz=>hz⟩
 case round =>
  obtain ⟨q,ha,hg,hpq,hqs,hall⟩:=hrel
  have HA:=hh9 ha
  have HG:=hh9 hg
  have HL:=hh9 hall
  have HM:=hh9 ha.pos
  obtain ⟨c0,c1,c2,z0,z1,z2⟩:=ha.cells
  obtain ⟨Z,hZ⟩:∃ x,rd s q=x:=⟨_,rfl⟩
  have HZ:=hh9 hZ
  obtain ⟨L,hLn⟩:∃ x,zd1 (rd s) q=x:=⟨_,rfl⟩
  have HLN:=hh9 hLn
  have hlen:=zwx (s:=s) (q:=q)
  rw [hLn] at hlen
  clear ha hg hall
  cases hb:isBl Z
  ·have HB0:=hh9 hb
   by_cases hy:∃ e,zas (rd s) q=some e/\isBl (rd s e)=true
   ·obtain ⟨e0,hl,hbe⟩:=hy
    have hes:e0<s.size:=by
     by_cases g:e0<s.size
     ·exact g
     ·rw [zbz g] at hbe;simp [isBl] at hbe
    obtain ⟨k,hk⟩:∃ k:Nat,L=(k:Int)/\q+k=e0/\0<k:=by
     rcases hlen with ⟨_,g⟩ | ⟨e1,g1,g2⟩
     ·rw [hl] at g;cases g
     ·obtain rfl:e0=e1:=by rw [hl] at g1;cases g1;rfl
      have hqe:q<e0:=by
       have hqe':=(zda hqs hl).1
       rcases Nat.lt_or_ge q e0 with g | g
       ·exact g
       ·obtain rfl:q=e0:=by omega
        rw [hZ,hb] at hbe;cases hbe
      exact ⟨e0-q,by omega,by omega,by omega⟩
    obtain ⟨rfl,hke,hk0⟩:=hk
    have HE:Hid (isBl (rd s (q+k))=true):=by rw [hke];exact hbe
    have HNX:Hid (∀ z,Skip (rd s) (q+k) z->Skip (rd s) p z):=by
     intro z hz
     cases hz with
     | blank _ hz=>exact HL.out z (.line (by rw [hZ];exact hb) hl hbe (by rw [<- hke];exact hz))
     | line g=>rw [HE.out] at g;cases g
     | here g=>rw [HE.out] at g;cases g
    have hk3:q+k<=s.size:=by omega
    clear hZ hLn hlen hl hbe hb hke hes
    go_wp2_with fail
    refine (zd7 HA.out hs (by omega)).mono ?_
    rw [HLN.out]
    rintro e w1 ⟨rfl,hb⟩
    have HA1:=hh9 (HA.out.below hb)
    have HG1:=hh9 (za4 HG.out hb)
    clear hb
    go_wp2_with fail
    refine (yat0 HA1.out hs (by omega) _ HZ.out).mono ?_
    rintro e w2 ⟨rfl,hb⟩
    have HA2:=hh9 (HA1.out.below hb)
    have HG2:=hh9 (za4 HG1.out hb)
    clear hb
    go_wp2_with fail
    refine (zc7 _ _).mono ?_
    rw [HB0.out]
    rintro e w' ⟨rfl,rfl⟩
    go_wp2_with fail
    refine (zb7 HA2.out hs (by omega) k (by omega) _ (by omega) _ rfl).mono ?_
    rintro e w3 ⟨rfl,hb⟩
    have HA3:=hh9 (HA2.out.below hb)
    have HG3:=hh9 (za4 HG2.out hb)
    obtain ⟨d0,d1,d2,y0,y1,y2⟩:=HA3.out.cells
    clear hb c0 c1 c2 z0 z1 z2
    go_wp2_with fail
    refine (zc7 _ _).mono ?_
    rw [HE.out]
    rintro e w' ⟨rfl,rfl⟩
    go_wp2_with fail
    go_roundw
    case rel=>exact ⟨q+k,HA3.out.put (by omega),zah HG3.out _ _,by omega,by omega,HNX.out⟩
    case measure =>
     rw [HM.out,(HA3.out.put (x:=(q:Int)+(k:Int)) (q:=q+k) (by omega)).pos]
     omega
   ·have HF:Hid (Skip (rd s) p q):=HL.out q (.here (by rw [hZ];exact hb) (fun e g=>by cases hx:isBl (rd s e) with | true=>exact absurd ⟨e,g,hx⟩ hy | false=>rfl))
    by_cases hL:0<L
    ·obtain ⟨k,hk,hne⟩:∃ k:Nat,L=(k:Int)/\isBl (rd s (q+k))=false:=by
      rcases hlen with ⟨g,_⟩ | ⟨e1,g1,g2⟩
      ·omega
      ·refine ⟨e1-q,by omega,?_⟩
       rw [show q+(e1-q)=e1 by omega]
       cases hx:isBl (rd s e1) with
       | true=>exact absurd ⟨e1,g1,hx⟩ hy
       | false=>rfl
     subst hk
     have HE:=hh9 hne
     have hk2:k<=60000:=by
      rcases hlen with ⟨g,_⟩ | ⟨e1,g1,g2⟩
      ·omega
      ·have:=(zda hqs g1).2
       omega
     clear hZ hLn hlen hy hb hne
     go_wp2_with fail
     refine (zd7 HA.out hs (by omega)).mono ?_
     rw [HLN.out]
     rintro e w1 ⟨rfl,hb⟩
     have HA1:=hh9 (HA.out.below hb)
     have HG1:=hh9 (za4 HG.out hb)
     clear hb
     go_wp2_with fail
     refine (yat0 HA1.out hs (by omega) _ HZ.out).mono ?_
     rintro e w2 ⟨rfl,hb⟩
     have HA2:=hh9 (HA1.out.below hb)
     have HG2:=hh9 (za4 HG1.out hb)
     clear hb
     go_wp2_with fail
     refine (zc7 _ _).mono ?_
     rw [HB0.out]
     rintro e w' ⟨rfl,rfl⟩
     go_wp2_with fail
     refine (zb7 HA2.out hs (by omega) k (by omega) _ (by omega) _ rfl).mono ?_
     rintro e w3 ⟨rfl,hb⟩
     have HA3:=hh9 (HA2.out.below hb)
     have HG3:=hh9 (za4 HG2.out hb)
     obtain ⟨d0,d1,d2,y0,y1,y2⟩:=HA3.out.cells
     clear hb c0 c1 c2 z0 z1 z2
     go_wp2_with fail
     refine (zc7 _ _).mono ?_
     rw [HE.out]
     rintro e w' ⟨rfl,rfl⟩
     go_wp2_with fail
     go_ret
     exact ⟨q,HF.out,hpq,hqs,by simp,HA3.out,HG3.out⟩
    ·clear hZ hLn hlen hy hb
     go_wp2_with fail
     refine (zd7 HA.out hs (by omega)).mono ?_
     rw [HLN.out]
     rintro e w1 ⟨rfl,hb⟩
     have HA1:=hh9 (HA.out.below hb)
     have HG1:=hh9 (za4 HG.out hb)
     clear hb
     go_wp2_with fail
     refine (yat0 HA1.out hs (by omega) _ HZ.out).mono ?_
     rintro e w2 ⟨rfl,hb⟩
     have HA2:=hh9 (HA1.out.below hb)
     have HG2:=hh9 (za4 HG1.out hb)
     obtain ⟨d0,d1,d2,y0,y1,y2⟩:=HA2.out.cells
     clear hb c0 c1 c2 z0 z1 z2
     go_wp2_with fail
     refine (zc7 _ _).mono ?_
     rw [HB0.out]
     rintro e w' ⟨rfl,rfl⟩
     go_wp2_with fail
     go_ret
     exact ⟨q,HF.out,hpq,hqs,by simp,HA2.out,HG2.out⟩
  ·have HB0:=hh9 hb
   have hlt:q<s.size:=by
    by_cases g:q<s.size
    ·exact g
    ·rw [zbz g] at hZ;subst hZ;simp [isBl] at hb
   have HNX:Hid (∀ z,Skip (rd s) (q+1) z->Skip (rd s) p z):=fun z hz=>HL.out z (.blank (by rw [hZ];exact hb) hz)
   clear hZ hLn hlen hb
   go_wp2_with fail
   refine (zd7 HA.out hs (by omega)).mono ?_
   rw [HLN.out]
   rintro e w1 ⟨rfl,hb⟩
   have HA1:=hh9 (HA.out.below hb)
   have HG1:=hh9 (za4 HG.out hb)
   clear hb
   go_wp2_with fail
   refine (yat0 HA1.out hs (by omega) _ HZ.out).mono ?_
   rintro e w2 ⟨rfl,hb⟩
   have HA2:=hh9 (HA1.out.below hb)
   have HG2:=hh9 (za4 HG1.out hb)
   obtain ⟨d0,d1,d2,y0,y1,y2⟩:=HA2.out.cells
   clear hb c0 c1 c2 z0 z1 z2
   go_wp2_with fail
   refine (zc7 _ _).mono ?_
   rw [HB0.out]
   rintro e w' ⟨rfl,rfl⟩
   go_wp2_with fail
   go_roundw
   case rel=>exact ⟨q+1,HA2.out.step,zah HG2.out _ _,by omega,by omega,HNX.out⟩
   case measure =>
    rw [HM.out,HA2.out.step.pos]
    omega
def NumY (b lim:Int) (R:Nat) (s:ByteArray) (p:Nat) (w:World) (e:Ending) (w':World):Prop :=
 (isDg b (rd s p)=false/\GivesY R s (.int .i64 (-1)) p 0 w e w') \/
 (∃ v q,zbl b lim (rd s) p=.ok v q/\GivesY R s (.int .i64 v) q 0 w e w') \/
 (isDg b (rd s p)=true/\zbl b lim (rd s) p=.err 2/\∃ q,q<=s.size/\GivesY R s (.int .i64 (-1)) q 2 w e w')
def orv (c:Int):Int:=if c / 32%2=1 then c else c+32
theorem qcd (c:Int) (h0:0<=c) (h1:c<=255):bits .or .i64 c 32=orv c:=by
 have key:∀ i:Fin 256,bits .or .i64 ((i.val:Nat):Int) 32=orv ((i.val:Nat):Int):=by decide +kernel
 have:=key ⟨c.toNat,by omega⟩
 simp only [show ((c.toNat:Nat):Int)=c by omega] at this
 exact this
theorem or32 (c:Int) (h:isAl c=true):bits .or .i64 c 32=low c:=by
 have hc:=zgf.1 h
 rw [qcd c (by omega) (by omega)]
 unfold orv low
 split<;>split<;>omega
theorem zs2 {b:Int} (hb:1<=b) (f:Nat->Int) (p m:Nat) (h0:2<=b):∀ k,val b f p m<=val b f p (m+k)
 | 0=>Int.le_refl _
 | k+1=>by
  have h1:=zs2 hb f p m h0 k
  have h2:=zg1 h0 f p (m+k)
  have h3:=(zjv (f (p+(m+k)))).1
  have h4:val b f p (m+k)<=val b f p (m+k)*b:=by
   have:=Int.mul_le_mul_of_nonneg_left hb h2
   omega
  show _<=val b f p (m+k)*b+dig (f (p+(m+k)))
  omega
theorem qa0 {b lim:Int} (hb:2<=b) (hb16:b<=16) {s:ByteArray} {p q:Nat} (hp:p<=s.size) (hpq:p<q) (hall:∀ i,p<=i->i<q->isDg b (rd s i)=true) (hv:lim<val b (rd s) p (q-p)):zbl b lim (rd s) p=.err 2:=by
 obtain ⟨hr,hq⟩:=zg0 (P:=isDg b) (zrg hb16) hp
 have hle:q<=zbp (isDg b) (rd s) p:=by
  by_cases g:q<=zbp (isDg b) (rd s) p
  ·exact g
  ·have:=hall _ hr.le (by omega)
   rw [hr.stop] at this
   cases this
 have hm:=zs2 (by omega) (rd s) p (q-p) hb (zbp (isDg b) (rd s) p-q)
 rw [show q-p+(zbp (isDg b) (rd s) p-q)=zbp (isDg b) (rd s) p-p by omega] at hm
 rw [zjy hr (by omega),if_pos (by omega)]
def qdm (b lim:Int) (R:Nat) (s:ByteArray) (p:Nat) (w wr:World) (N:Int) (q:Nat) (c:Int):Prop :=
 AtY wr R s q c/\w.grownBy wr (some R)/\p<=q/\q<=s.size/\(∀ i,p<=i->i<q->isDg b (rd s i)=true) /\
  ((c=0/\val b (rd s) p (q-p)<=lim/\max N 0=val b (rd s) p (q-p)/\((q=p/\N=-1)\/(p<q/\N=val b (rd s) p (q-p))))\/(c=2/\p<q/\lim<val b (rd s) p (q-p)))
theorem zkm {R p:Nat} {s:ByteArray} {w:World} (b lim:Int) (hb:b=2\/b=10\/b=16) (hl:0<=lim) (hl2:lim<=2000000) (h:AtY w R s p 0) (hs:s.size<=50000) (hp:p<=s.size) :
  Calls Tryz.prog 95 #[.pointer (some ⟨R,0,none⟩),.int .i64 b,.int .i64 lim] w (NumY b lim R s p w):=by
 have hb16:b<=16:=by omega
 have hb2:2<=b:=by omega
 have H:=hh9 h
 have HBB:=hh9 hb
 clear h hb
 go_enter Tryz.func95,Tryz.ntmps95
 go_wp2_with fail
 go_loopw [7] (fun v wr=>∃ N:Int,∃ q:Nat,∃ c:Int,v=.int .i64 N/\qdm b lim R s p w wr N q c) (fun _ wr=>s.size-zf4 R wr)
 case atStart=>exact ⟨-1,p,0,rfl,H.out,zak _ _,Nat.le_refl _,hp,fun i h1 h2=>absurd h1 (by omega),.inl ⟨rfl,by rw [Nat.sub_self];unfold val;exact hl,by rw [Nat.sub_self];rfl,.inl ⟨rfl,rfl⟩⟩⟩
 case round =>
  obtain ⟨N,q,c,rfl,ha,hg,hpq,hqs,hall,hst⟩:=hrel
  have HA:=hh9 ha
  have HG:=hh9 hg
  have HL:=hh9 hall
  have HM:=hh9 ha.pos
  obtain ⟨c0,c1,c2,z0,z1,z2⟩:=ha.cells
  clear ha hg hall
  rcases hst with ⟨rfl,hvl,hmax,hN⟩ | ⟨rfl,hlt,hov⟩
  ·have hv:=zg1 hb2 (rd s) p (q-p)
   obtain ⟨V,hV⟩:∃ x,x=val b (rd s) p (q-p):=⟨_,rfl⟩
   rw [<- hV] at hv hvl hmax hN
   obtain ⟨Z,hZ⟩:∃ x,rd s q=x:=⟨_,rfl⟩
   have HZ:=hh9 hZ
   have HV:=hh9 hV
   have HN:=hh9 hN
   have hm0:0<=V*b:=Int.mul_nonneg hv (by omega)
   have hm1:V*b<=40000000:=by rcases HBB.out with g | g | g<;>rw [g]<;>omega
   have hN2:-1<=N/\N<=2000000:=by omega
   have HDall:isDg b Z=true->Hid (q<s.size/\∀ i,p<=i->i<q+1->isDg b (rd s i)=true):=fun hd=>⟨zvn hb16 (by rw [hZ];exact hd),ze9 (P:=isDg b) HL.out (by rw [hZ];exact hd)⟩
   have HST:Hid (V*b+dig Z=val b (rd s) p (q+1-p)):=by
    have e1:q+1-p=(q-p)+1:=by omega
    have e2:p+(q-p)=q:=by omega
    rw [e1]
    show _=val b (rd s) p (q-p)*b+dig (rd s (p+(q-p)))
    rw [e2,hZ,<- HV.out]
   have HFIN:isDg b Z=false->Hid (∀ W,AtY W R s q 0->w.grownBy W (some R)->NumY b lim R s p w (.returned (.int .i64 N)) W):=by
    intro hd W ha hg
    rcases HN.out with ⟨h1,h2⟩ | ⟨h1,h2⟩
    ·subst h1 h2
     exact .inl ⟨by rw [hZ];exact hd,rfl,ha,hg⟩
    ·have hrun:IsRun (isDg b) (rd s) p q:=⟨hpq,HL.out,by rw [hZ];exact hd⟩
     refine .inr (.inl ⟨N,q,?_,rfl,ha,hg⟩)
     rw [zjy hrun h1,<- HV.out,if_neg (by omega),h2]
   clear hZ hV hN
   cases hdc:isDc Z
   ·cases hal:isAl Z
    ·have hd:isDg b Z=false:=by
      unfold isDg
      have:dig Z=16:=by
       unfold isDc at hdc
       unfold isAl at hal
       simp at hdc hal
       unfold dig
       rw [if_neg (by omega),if_neg (by omega),if_neg (by omega)]
      rw [this]
      simp
      exact hb16
     have HFIN:=HFIN hd
     have HDC:=hh9 hdc
     have HAL:=hh9 hal
     have q99:b<=99:=by omega
     clear hd hdc hal HST
     go_wp2_with fail
     refine (yat0 HA.out hs (by omega) _ HZ.out).mono ?_
     rintro e w1 ⟨rfl,hbw⟩
     have HA1:=hh9 (HA.out.below hbw)
     have HG1:=hh9 (za4 HG.out hbw)
     clear hbw c0 c1 c2 z0 z1 z2
     go_wp2_with fail
     refine (zc8 _ _).mono ?_
     rw [HDC.out]
     rintro e w' ⟨rfl,rfl⟩
     go_wp2_with fail
     refine (zby _ _).mono ?_
     rw [HAL.out]
     rintro e w' ⟨rfl,rfl⟩
     go_wp2_with fail
     go_ret
     exact HFIN.out _ HA1.out HG1.out
    ·have hor:=or32 Z hal
     obtain ⟨M,hM⟩:∃ x,x=low Z:=⟨_,rfl⟩
     rw [<- hM] at hor
     have hMr:97<=M/\M<=122:=by
      have:=zgf.1 hal
      rw [hM]
      unfold low
      split<;>omega
     have hdm:dig Z=if M<=102 then M-87 else 16:=by
      have:=zgf.1 hal
      rw [hM]
      unfold dig low
      split<;>split<;>(try split)<;>(try split)<;>omega
     have HDC:=hh9 hdc
     have HAL:=hh9 hal
     have HMM:=hh9 hM
     clear hdc hal hM
     have q99:b<=99:=by omega
     have hZr:65<=Z/\Z<=122:=by have:=zgf.1 HAL.out;omega
     by_cases hm:M<=102
     ·rw [if_pos hm] at hdm
      rw [hdm] at HST
      by_cases hge:b<=M-87
      ·have HFIN:=HFIN (by unfold isDg;rw [hdm];simp;omega)
       clear hdm HST
       go_wp2_with fail
       refine (yat0 HA.out hs (by omega) _ HZ.out).mono ?_
       rintro e w1 ⟨rfl,hbw⟩
       have HA1:=hh9 (HA.out.below hbw)
       have HG1:=hh9 (za4 HG.out hbw)
       clear hbw c0 c1 c2 z0 z1 z2
       go_wp2_with fail
       refine (zc8 _ _).mono ?_
       rw [HDC.out]
       rintro e w' ⟨rfl,rfl⟩
       go_wp2_with fail
       refine (zby _ _).mono ?_
       rw [HAL.out]
       rintro e w' ⟨rfl,rfl⟩
       go_wp2_with fail
       go_ret
       exact HFIN.out _ HA1.out HG1.out
      ·obtain ⟨hqlt,hda⟩:=HDall (by unfold isDg;rw [hdm];simp;omega)
       have HDall:=hh9 hda
       clear hdm hda
       go_wp2_with fail
       refine (yat0 HA.out hs (by omega) _ HZ.out).mono ?_
       rintro e w1 ⟨rfl,hbw⟩
       have HA1:=hh9 (HA.out.below hbw)
       have HG1:=hh9 (za4 HG.out hbw)
       clear hbw c0 c1 c2 z0 z1 z2
       go_wp2_with fail
       refine (zc8 _ _).mono ?_
       rw [HDC.out]
       rintro e w' ⟨rfl,rfl⟩
       go_wp2_with fail
       refine (zby _ _).mono ?_
       rw [HAL.out]
       rintro e w' ⟨rfl,rfl⟩
       by_cases hov:lim<V*b+(M-87)
       ·go_wp2_with fail
        refine (zba HA1.out 2).mono ?_
        rintro e w2 ⟨rfl,ha,hg⟩
        have HA2:=hh9 ha
        have HG2:=hh9 (HG1.out.trans hg)
        obtain ⟨d0,d1,d2,y0,y1,y2⟩:=ha.cells
        clear ha hg
        go_wp2_with fail
        go_roundw
        case rel=>exact ⟨_,q+1,2,rfl,HA2.out.step,zah HG2.out _ _,by omega,by omega,HDall.out,.inr ⟨rfl,by omega,by rw [<- HST.out];exact hov⟩⟩
        case measure =>
         rw [HM.out,HA2.out.step.pos]
         omega
       ·obtain ⟨d0,d1,d2,y0,y1,y2⟩:=HA1.out.cells
        go_wp2_with fail
        go_roundw
        case rel=>exact ⟨_,q+1,0,rfl,HA1.out.step,zah HG1.out _ _,by omega,by omega,HDall.out,.inl ⟨rfl,by rw [<- HST.out];omega,by rw [<- HST.out];omega,.inr ⟨by omega,HST.out⟩⟩⟩
        case measure =>
         rw [HM.out,HA1.out.step.pos]
         omega
     ·rw [if_neg hm] at hdm
      have HFIN:=HFIN (by unfold isDg;rw [hdm];simp;omega)
      clear hdm HST
      go_wp2_with fail
      refine (yat0 HA.out hs (by omega) _ HZ.out).mono ?_
      rintro e w1 ⟨rfl,hbw⟩
      have HA1:=hh9 (HA.out.below hbw)
      have HG1:=hh9 (za4 HG.out hbw)
      clear hbw c0 c1 c2 z0 z1 z2
      go_wp2_with fail
      refine (zc8 _ _).mono ?_
      rw [HDC.out]
      rintro e w' ⟨rfl,rfl⟩
      go_wp2_with fail
      refine (zby _ _).mono ?_
      rw [HAL.out]
      rintro e w' ⟨rfl,rfl⟩
      go_wp2_with fail
      go_ret
      exact HFIN.out _ HA1.out HG1.out
   ·have hZr:48<=Z/\Z<=57:=by unfold isDc at hdc;simp at hdc;omega
    have hdm:dig Z=Z-48:=by unfold dig;rw [if_pos hZr]
    have HDC:=hh9 hdc
    clear hdc
    rw [hdm] at HST
    by_cases hge:b<=Z-48
    ·have HFIN:=HFIN (by unfold isDg;rw [hdm];simp;omega)
     clear hdm HST
     go_wp2_with fail
     refine (yat0 HA.out hs (by omega) _ HZ.out).mono ?_
     rintro e w1 ⟨rfl,hbw⟩
     have HA1:=hh9 (HA.out.below hbw)
     have HG1:=hh9 (za4 HG.out hbw)
     clear hbw c0 c1 c2 z0 z1 z2
     go_wp2_with fail
     refine (zc8 _ _).mono ?_
     rw [HDC.out]
     rintro e w' ⟨rfl,rfl⟩
     go_wp2_with fail
     go_ret
     exact HFIN.out _ HA1.out HG1.out
    ·obtain ⟨hqlt,hda⟩:=HDall (by unfold isDg;rw [hdm];simp;omega)
     have HDall:=hh9 hda
     clear hdm hda
     go_wp2_with fail
     refine (yat0 HA.out hs (by omega) _ HZ.out).mono ?_
     rintro e w1 ⟨rfl,hbw⟩
     have HA1:=hh9 (HA.out.below hbw)
     have HG1:=hh9 (za4 HG.out hbw)
     clear hbw c0 c1 c2 z0 z1 z2
     go_wp2_with fail
     refine (zc8 _ _).mono ?_
     rw [HDC.out]
     rintro e w' ⟨rfl,rfl⟩
     by_cases hov:lim<V*b+(Z-48)
     ·go_wp2_with fail
      refine (zba HA1.out 2).mono ?_
      rintro e w2 ⟨rfl,ha,hg⟩
      have HA2:=hh9 ha
      have HG2:=hh9 (HG1.out.trans hg)
      obtain ⟨d0,d1,d2,y0,y1,y2⟩:=ha.cells
      clear ha hg
      go_wp2_with fail
      go_roundw
      case rel=>exact ⟨_,q+1,2,rfl,HA2.out.step,zah HG2.out _ _,by omega,by omega,HDall.out,.inr ⟨rfl,by omega,by rw [<- HST.out];exact hov⟩⟩
      case measure =>
       rw [HM.out,HA2.out.step.pos]
       omega
     ·obtain ⟨d0,d1,d2,y0,y1,y2⟩:=HA1.out.cells
      go_wp2_with fail
      go_roundw
      case rel=>exact ⟨_,q+1,0,rfl,HA1.out.step,zah HG1.out _ _,by omega,by omega,HDall.out,.inl ⟨rfl,by rw [<- HST.out];omega,by rw [<- HST.out];omega,.inr ⟨by omega,HST.out⟩⟩⟩
      case measure =>
       rw [HM.out,HA1.out.step.pos]
       omega
  ·have HE:=hh9 (qa0 hb2 hb16 (by omega) hlt HL.out hov)
   have HD:=hh9 (HL.out p (Nat.le_refl _) hlt)
   clear hov
   go_wp2_with fail
   go_ret
   exact .inr (.inr ⟨HD.out,HE.out,q,hqs,rfl,HA.out,HG.out⟩)
theorem zhj {R p:Nat} {c:Int} {s:ByteArray} {w:World} (b lim:Int) (h:AtY w R s p c) (hc:c≠0) :
  Calls Tryz.prog 95 #[.pointer (some ⟨R,0,none⟩),.int .i64 b,.int .i64 lim] w (GivesY R s (.int .i64 (-1)) p c w):=by
 obtain ⟨c0,c1,c2,z0,z1,z2⟩:=h.cells
 have H:=hh9 h
 have q1:(c==0)=false:=by simpa using hc
 clear h
 go_enter Tryz.func95,Tryz.ntmps95
 go_wp2_with fail
 go_loopw [7] (fun _ wr=>wr=w) (fun _ wr=>0)
 case atStart=>rfl
 case round =>
  subst hrel
  go_wp2_with fail
  go_ret
  exact ⟨rfl,H.out,zak _ _⟩
end Go.Proofs.YtekjnfldgjcgeaaGreatDoor
