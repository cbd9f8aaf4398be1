/- Part 26 of what the laws of the grammar rest on. -/
import Derived.Test.YtdgcmiecgnmdjaaGreatDoorA21
import Derived.Test.YtdgcmiecgnmdjaaGreatDoorA23
import Derived.Test.YtdgcmiecgnmdjaaGreatDoorA25
import Derived.Shelf.Strings.OnBuilder
import Derived.Laws.BytesString
import Derived.Laws.IdiomStrings
import Derived.MapKept
set_option linter.all false
set_option maxRecDepth 100000
set_option maxHeartbeats 8000000
namespace Go.Proofs.YtdgcmiecgnmdjaaGreatDoor
open Go.RowKit
def qd3 (R:Nat) (s:ByteArray) (p:Nat) (w:World) (e:Ending) (w':World):Prop :=
 ∃ q,Skip (rd s) p q/\p<=q/\q<=s.size/\GivesY R s (.bool (decide (p<q))) q 0 w e w'
def qbv (R:Nat) (s:ByteArray) (p:Nat) (w wr:World) (q:Nat):Prop :=
 AtY wr R s q 0/\w.grownBy wr (some R)/\p<=q/\q<=s.size/\∀ z,Skip (rd s) q z->Skip (rd s) p z
theorem zwn {s:ByteArray} {q:Nat}:zd1 (rd s) q=-1/\zas (rd s) q=none\/∃ e,zas (rd s) q=some e/\zd1 (rd s) q=(e:Int)-q:=by
 cases h:zas (rd s) q with
 | none=>exact .inl ⟨zd9 h,rfl⟩
 | some e=>exact .inr ⟨e,rfl,zca h⟩
theorem zfm {R p:Nat} {c:Int} {s:ByteArray} {w:World} (h:AtY w R s p c) (hc:c≠0) (hs:s.size<=50000) :
  Calls Tryz.prog 66 #[.pointer (some ⟨R,0,none⟩)] w (GivesY R s (.bool false) p c w):=by
 obtain ⟨c0,c1,c2,z0,z1,z2⟩:=h.cells
 have H:=hh9 h
 have q1:(c==0)=false:=by simpa using hc
 clear h
 go_enter Tryz.func66,Tryz.ntmps66
 go_wp2_with fail
 go_loopw [] (fun wr=>wr=w) (fun wr=>0)
 case atStart=>rfl
 case round =>
  subst hrel
  go_wp2_with fail
  go_ret
  exact ⟨rfl,H.out,zam _ _⟩
theorem zfe {R p:Nat} {s:ByteArray} {w:World} (h:AtY w R s p 0) (hs:s.size<=50000) (hp:p<=s.size) :
  Calls Tryz.prog 66 #[.pointer (some ⟨R,0,none⟩)] w (qd3 R s p w):=by
 obtain ⟨c0,c1,c2,z0,z1,z2⟩:=h.cells
 have H:=hh9 h
 clear h
 go_enter Tryz.func66,Tryz.ntmps66
 go_wp2_with fail
 clear c0 c1 c2 z0 z1 z2
 go_loopw [] (fun wr=>∃ q:Nat,qbv R s p w wr q) (fun wr=>s.size-zf6 R wr)
 case atStart=>exact ⟨p,H.out,zam _ _,Nat.le_refl _,hp,fun z hz=>hz⟩
 case round =>
  obtain ⟨q,ha,hg,hpq,hqs,hall⟩:=hrel
  have HA:=hh9 ha
  have HG:=hh9 hg
  have HL:=hh9 hall
  have HM:=hh9 ha.pos
  obtain ⟨c0,c1,c2,z0,z1,z2⟩:=ha.cells
  obtain ⟨Z,hZ⟩:∃ x,rd s q=x:=⟨_,rfl⟩
  have HZ:=hh9 hZ
  obtain ⟨L,hLn⟩:∃ x,zd1 (rd s) q=x:=⟨_,rfl⟩
  have HLN:=hh9 hLn
  have hlen:=zwn (s:=s) (q:=q)
  rw [hLn] at hlen
  clear ha hg hall
  cases hb:isBl Z
  ·have HB0:=hh9 hb
   by_cases hy:∃ e,zas (rd s) q=some e/\isBl (rd s e)=true
   ·obtain ⟨e0,hl,hbe⟩:=hy
    have hes:e0<s.size:=by
     by_cases g:e0<s.size
     ·exact g
     ·rw [zbz g] at hbe;simp [isBl] at hbe
    obtain ⟨k,hk⟩:∃ k:Nat,L=(k:Int)/\q+k=e0/\0<k:=by
     rcases hlen with ⟨_,g⟩ | ⟨e1,g1,g2⟩
     ·rw [hl] at g;cases g
     ·obtain rfl:e0=e1:=by rw [hl] at g1;cases g1;rfl
      have hqe:q<e0:=by
       have hqe':=(zda hqs hl).1
       rcases Nat.lt_or_ge q e0 with g | g
       ·exact g
       ·obtain rfl:q=e0:=by omega
        rw [hZ,hb] at hbe;cases hbe
      exact ⟨e0-q,by omega,by omega,by omega⟩
    obtain ⟨rfl,hke,hk0⟩:=hk
    have HE:Hid (isBl (rd s (q+k))=true):=by rw [hke];exact hbe
    have HNX:Hid (∀ z,Skip (rd s) (q+k) z->Skip (rd s) p z):=by
     intro z hz
     cases hz with
     | blank _ hz=>exact HL.out z (.line (by rw [hZ];exact hb) hl hbe (by rw [<- hke];exact hz))
     | line g=>rw [HE.out] at g;cases g
     | here g=>rw [HE.out] at g;cases g
    have hk3:q+k<=s.size:=by omega
    clear hZ hLn hlen hl hbe hb hke hes
    go_wp2_with fail
    refine (zd7 HA.out hs (by omega)).mono ?_
    rw [HLN.out]
    rintro e w1 ⟨rfl,hb⟩
    have HA1:=hh9 (HA.out.below hb)
    have HG1:=hh9 (za4 HG.out hb)
    clear hb
    go_wp2_with fail
    refine (yat0 HA1.out hs (by omega) _ HZ.out).mono ?_
    rintro e w2 ⟨rfl,hb⟩
    have HA2:=hh9 (HA1.out.below hb)
    have HG2:=hh9 (za4 HG1.out hb)
    clear hb
    go_wp2_with fail
    refine (zc7 _ _).mono ?_
    rw [HB0.out]
    rintro e w' ⟨rfl,rfl⟩
    go_wp2_with fail
    refine (zb7 HA2.out hs (by omega) k (by omega) _ (by omega) _ rfl).mono ?_
    rintro e w3 ⟨rfl,hb⟩
    have HA3:=hh9 (HA2.out.below hb)
    have HG3:=hh9 (za4 HG2.out hb)
    obtain ⟨d0,d1,d2,y0,y1,y2⟩:=HA3.out.cells
    clear hb c0 c1 c2 z0 z1 z2
    go_wp2_with fail
    refine (zc7 _ _).mono ?_
    rw [HE.out]
    rintro e w' ⟨rfl,rfl⟩
    go_wp2_with fail
    go_roundw
    case rel=>exact ⟨q+k,HA3.out.put (by omega),zah HG3.out _ _,by omega,by omega,HNX.out⟩
    case measure =>
     rw [HM.out,(HA3.out.put (x:=(q:Int)+(k:Int)) (q:=q+k) (by omega)).pos]
     omega
   ·have HF:Hid (Skip (rd s) p q):=HL.out q (.here (by rw [hZ];exact hb) (fun e g=>by cases hx:isBl (rd s e) with | true=>exact absurd ⟨e,g,hx⟩ hy | false=>rfl))
    by_cases hL:0<L
    ·obtain ⟨k,hk,hne⟩:∃ k:Nat,L=(k:Int)/\isBl (rd s (q+k))=false:=by
      rcases hlen with ⟨g,_⟩ | ⟨e1,g1,g2⟩
      ·omega
      ·refine ⟨e1-q,by omega,?_⟩
       rw [show q+(e1-q)=e1 by omega]
       cases hx:isBl (rd s e1) with
       | true=>exact absurd ⟨e1,g1,hx⟩ hy
       | false=>rfl
     subst hk
     have HE:=hh9 hne
     have hk2:k<=60000:=by
      rcases hlen with ⟨g,_⟩ | ⟨e1,g1,g2⟩
      ·omega
      ·have:=(zda hqs g1).2
       omega
     clear hZ hLn hlen hy hb hne
     go_wp2_with fail
     refine (zd7 HA.out hs (by omega)).mono ?_
     rw [HLN.out]
     rintro e w1 ⟨rfl,hb⟩
     have HA1:=hh9 (HA.out.below hb)
     have HG1:=hh9 (za4 HG.out hb)
     clear hb
     go_wp2_with fail
     refine (yat0 HA1.out hs (by omega) _ HZ.out).mono ?_
     rintro e w2 ⟨rfl,hb⟩
     have HA2:=hh9 (HA1.out.below hb)
     have HG2:=hh9 (za4 HG1.out hb)
     clear hb
     go_wp2_with fail
     refine (zc7 _ _).mono ?_
     rw [HB0.out]
     rintro e w' ⟨rfl,rfl⟩
     go_wp2_with fail
     refine (zb7 HA2.out hs (by omega) k (by omega) _ (by omega) _ rfl).mono ?_
     rintro e w3 ⟨rfl,hb⟩
     have HA3:=hh9 (HA2.out.below hb)
     have HG3:=hh9 (za4 HG2.out hb)
     obtain ⟨d0,d1,d2,y0,y1,y2⟩:=HA3.out.cells
     clear hb c0 c1 c2 z0 z1 z2
     go_wp2_with fail
     refine (zc7 _ _).mono ?_
     rw [HE.out]
     rintro e w' ⟨rfl,rfl⟩
     go_wp2_with fail
     go_ret
     exact ⟨q,HF.out,hpq,hqs,by simp,HA3.out,HG3.out⟩
    ·clear hZ hLn hlen hy hb
     go_wp2_with fail
     refine (zd7 HA.out hs (by omega)).mono ?_
     rw [HLN.out]
     rintro e w1 ⟨rfl,hb⟩
     have HA1:=hh9 (HA.out.below hb)
     have HG1:=hh9 (za4 HG.out hb)
     clear hb
     go_wp2_with fail
     refine (yat0 HA1.out hs (by omega) _ HZ.out).mono ?_
     rintro e w2 ⟨rfl,hb⟩
     have HA2:=hh9 (HA1.out.below hb)
     have HG2:=hh9 (za4 HG1.out hb)
     obtain ⟨d0,d1,d2,y0,y1,y2⟩:=HA2.out.cells
     clear hb c0 c1 c2 z0 z1 z2
     go_wp2_with fail
     refine (zc7 _ _).mono ?_
     rw [HB0.out]
     rintro e w' ⟨rfl,rfl⟩
     go_wp2_with fail
     go_ret
     exact ⟨q,HF.out,hpq,hqs,by simp,HA2.out,HG2.out⟩
  ·have HB0:=hh9 hb
   have hlt:q<s.size:=by
    by_cases g:q<s.size
    ·exact g
    ·rw [zbz g] at hZ;subst hZ;simp [isBl] at hb
   have HNX:Hid (∀ z,Skip (rd s) (q+1) z->Skip (rd s) p z):=fun z hz=>HL.out z (.blank (by rw [hZ];exact hb) hz)
   clear hZ hLn hlen hb
   go_wp2_with fail
   refine (zd7 HA.out hs (by omega)).mono ?_
   rw [HLN.out]
   rintro e w1 ⟨rfl,hb⟩
   have HA1:=hh9 (HA.out.below hb)
   have HG1:=hh9 (za4 HG.out hb)
   clear hb
   go_wp2_with fail
   refine (yat0 HA1.out hs (by omega) _ HZ.out).mono ?_
   rintro e w2 ⟨rfl,hb⟩
   have HA2:=hh9 (HA1.out.below hb)
   have HG2:=hh9 (za4 HG1.out hb)
   obtain ⟨d0,d1,d2,y0,y1,y2⟩:=HA2.out.cells
   clear hb c0 c1 c2 z0 z1 z2
   go_wp2_with fail
   refine (zc7 _ _).mono ?_
   rw [HB0.out]
   rintro e w' ⟨rfl,rfl⟩
   go_wp2_with fail
   go_roundw
   case rel=>exact ⟨q+1,HA2.out.step,zah HG2.out _ _,by omega,by omega,HNX.out⟩
   case measure =>
    rw [HM.out,HA2.out.step.pos]
    omega
def NumY (b lim:Int) (R:Nat) (s:ByteArray) (p:Nat) (w:World) (e:Ending) (w':World):Prop :=
 (isDg b (rd s p)=false/\GivesY R s (.int .i64 (-1)) p 0 w e w') \/
 (∃ v q,zbl b lim (rd s) p=.ok v q/\GivesY R s (.int .i64 v) q 0 w e w') \/
 (isDg b (rd s p)=true/\zbl b lim (rd s) p=.err 2/\∃ q,q<=s.size/\GivesY R s (.int .i64 (-1)) q 2 w e w')
def orv (c:Int):Int:=if c / 32%2=1 then c else c+32
theorem qbw (c:Int) (h0:0<=c) (h1:c<=255):bits .or .i64 c 32=orv c:=by
 have key:∀ i:Fin 256,bits .or .i64 ((i.val:Nat):Int) 32=orv ((i.val:Nat):Int):=by decide +kernel
 have:=key ⟨c.toNat,by omega⟩
 simp only [show ((c.toNat:Nat):Int)=c by omega] at this
 exact this
theorem or32 (c:Int) (h:isAl c=true):bits .or .i64 c 32=low c:=by
 have hc:=zgg.1 h
 rw [qbw c (by omega) (by omega)]
 unfold orv low
 split<;>split<;>omega
theorem zry {b:Int} (hb:1<=b) (f:Nat->Int) (p m:Nat) (h0:2<=b):∀ k,val b f p m<=val b f p (m+k)
 | 0=>Int.le_refl _
 | k+1=>by
  have h1:=zry hb f p m h0 k
  have h2:=zg2 h0 f p (m+k)
  have h3:=(zjz (f (p+(m+k)))).1
  have h4:val b f p (m+k)<=val b f p (m+k)*b:=by
   have:=Int.mul_le_mul_of_nonneg_left hb h2
   omega
  show _<=val b f p (m+k)*b+dig (f (p+(m+k)))
  omega
theorem zzl {b lim:Int} (hb:2<=b) (hb16:b<=16) {s:ByteArray} {p q:Nat} (hp:p<=s.size) (hpq:p<q) (hall:∀ i,p<=i->i<q->isDg b (rd s i)=true) (hv:lim<val b (rd s) p (q-p)):zbl b lim (rd s) p=.err 2:=by
 obtain ⟨hr,hq⟩:=zg1 (P:=isDg b) (zrj hb16) hp
 have hle:q<=zbq (isDg b) (rd s) p:=by
  by_cases g:q<=zbq (isDg b) (rd s) p
  ·exact g
  ·have:=hall _ hr.le (by omega)
   rw [hr.stop] at this
   cases this
 have hm:=zry (by omega) (rd s) p (q-p) hb (zbq (isDg b) (rd s) p-q)
 rw [show q-p+(zbq (isDg b) (rd s) p-q)=zbq (isDg b) (rd s) p-p by omega] at hm
 rw [zk2 hr (by omega),if_pos (by omega)]
def qd4 (b lim:Int) (R:Nat) (s:ByteArray) (p:Nat) (w wr:World) (N:Int) (q:Nat) (c:Int):Prop :=
 AtY wr R s q c/\w.grownBy wr (some R)/\p<=q/\q<=s.size/\(∀ i,p<=i->i<q->isDg b (rd s i)=true) /\
  ((c=0/\val b (rd s) p (q-p)<=lim/\max N 0=val b (rd s) p (q-p)/\((q=p/\N=-1)\/(p<q/\N=val b (rd s) p (q-p))))\/(c=2/\p<q/\lim<val b (rd s) p (q-p)))
theorem zkl {R p:Nat} {s:ByteArray} {w:World} (b lim:Int) (hb:b=2\/b=10\/b=16) (hl:0<=lim) (hl2:lim<=2000000) (h:AtY w R s p 0) (hs:s.size<=50000) (hp:p<=s.size) :
  Calls Tryz.prog 138 #[.pointer (some ⟨R,0,none⟩),.int .i64 b,.int .i64 lim] w (NumY b lim R s p w):=by
 have hb16:b<=16:=by omega
 have hb2:2<=b:=by omega
 have H:=hh9 h
 have HBB:=hh9 hb
 clear h hb
 go_enter Tryz.func138,Tryz.ntmps138
 go_wp2_with fail
 go_loopw [7] (fun v wr=>∃ N:Int,∃ q:Nat,∃ c:Int,v=.int .i64 N/\qd4 b lim R s p w wr N q c) (fun _ wr=>s.size-zf6 R wr)
 case atStart=>exact ⟨-1,p,0,rfl,H.out,zam _ _,Nat.le_refl _,hp,fun i h1 h2=>absurd h1 (by omega),.inl ⟨rfl,by rw [Nat.sub_self];unfold val;exact hl,by rw [Nat.sub_self];rfl,.inl ⟨rfl,rfl⟩⟩⟩
 case round =>
  obtain ⟨N,q,c,rfl,ha,hg,hpq,hqs,hall,hst⟩:=hrel
  have HA:=hh9 ha
  have HG:=hh9 hg
  have HL:=hh9 hall
  have HM:=hh9 ha.pos
  obtain ⟨c0,c1,c2,z0,z1,z2⟩:=ha.cells
  clear ha hg hall
  rcases hst with ⟨rfl,hvl,hmax,hN⟩ | ⟨rfl,hlt,hov⟩
  ·have hv:=zg2 hb2 (rd s) p (q-p)
   obtain ⟨V,hV⟩:∃ x,x=val b (rd s) p (q-p):=⟨_,rfl⟩
   rw [<- hV] at hv hvl hmax hN
   obtain ⟨Z,hZ⟩:∃ x,rd s q=x:=⟨_,rfl⟩
   have HZ:=hh9 hZ
   have HV:=hh9 hV
   have HN:=hh9 hN
   have hm0:0<=V*b:=Int.mul_nonneg hv (by omega)
   have hm1:V*b<=40000000:=by rcases HBB.out with g | g | g<;>rw [g]<;>omega
   have hN2:-1<=N/\N<=2000000:=by omega
   have HDall:isDg b Z=true->Hid (q<s.size/\∀ i,p<=i->i<q+1->isDg b (rd s i)=true):=fun hd=>⟨zvn hb16 (by rw [hZ];exact hd),ze8 (P:=isDg b) HL.out (by rw [hZ];exact hd)⟩
   have HST:Hid (V*b+dig Z=val b (rd s) p (q+1-p)):=by
    have e1:q+1-p=(q-p)+1:=by omega
    have e2:p+(q-p)=q:=by omega
    rw [e1]
    show _=val b (rd s) p (q-p)*b+dig (rd s (p+(q-p)))
    rw [e2,hZ,<- HV.out]
   have HFIN:isDg b Z=false->Hid (∀ W,AtY W R s q 0->w.grownBy W (some R)->NumY b lim R s p w (.returned (.int .i64 N)) W):=by
    intro hd W ha hg
    rcases HN.out with ⟨h1,h2⟩ | ⟨h1,h2⟩
    ·subst h1 h2
     exact .inl ⟨by rw [hZ];exact hd,rfl,ha,hg⟩
    ·have hrun:IsRun (isDg b) (rd s) p q:=⟨hpq,HL.out,by rw [hZ];exact hd⟩
     refine .inr (.inl ⟨N,q,?_,rfl,ha,hg⟩)
     rw [zk2 hrun h1,<- HV.out,if_neg (by omega),h2]
   clear hZ hV hN
   cases hdc:isDc Z
   ·cases hal:isAl Z
    ·have hd:isDg b Z=false:=by
      unfold isDg
      have:dig Z=16:=by
       unfold isDc at hdc
       unfold isAl at hal
       simp at hdc hal
       unfold dig
       rw [if_neg (by omega),if_neg (by omega),if_neg (by omega)]
      rw [this]
      simp
      exact hb16
     have HFIN:=HFIN hd
     have HDC:=hh9 hdc
     have HAL:=hh9 hal
     have q99:b<=99:=by omega
     clear hd hdc hal HST
     go_wp2_with fail
     refine (yat0 HA.out hs (by omega) _ HZ.out).mono ?_
     rintro e w1 ⟨rfl,hbw⟩
     have HA1:=hh9 (HA.out.below hbw)
     have HG1:=hh9 (za4 HG.out hbw)
     clear hbw c0 c1 c2 z0 z1 z2
     go_wp2_with fail
     refine (zc8 _ _).mono ?_
     rw [HDC.out]
     rintro e w' ⟨rfl,rfl⟩
     go_wp2_with fail
     refine (zby _ _).mono ?_
     rw [HAL.out]
     rintro e w' ⟨rfl,rfl⟩
     go_wp2_with fail
     go_ret
     exact HFIN.out _ HA1.out HG1.out
    ·have hor:=or32 Z hal
     obtain ⟨M,hM⟩:∃ x,x=low Z:=⟨_,rfl⟩
     rw [<- hM] at hor
     have hMr:97<=M/\M<=122:=by
      have:=zgg.1 hal
      rw [hM]
      unfold low
      split<;>omega
     have hdm:dig Z=if M<=102 then M-87 else 16:=by
      have:=zgg.1 hal
      rw [hM]
      unfold dig low
      split<;>split<;>(try split)<;>(try split)<;>omega
     have HDC:=hh9 hdc
     have HAL:=hh9 hal
     have HMM:=hh9 hM
     clear hdc hal hM
     have q99:b<=99:=by omega
     have hZr:65<=Z/\Z<=122:=by have:=zgg.1 HAL.out;omega
     by_cases hm:M<=102
     ·rw [if_pos hm] at hdm
      rw [hdm] at HST
      by_cases hge:b<=M-87
      ·have HFIN:=HFIN (by unfold isDg;rw [hdm];simp;omega)
       clear hdm HST
       go_wp2_with fail
       refine (yat0 HA.out hs (by omega) _ HZ.out).mono ?_
       rintro e w1 ⟨rfl,hbw⟩
       have HA1:=hh9 (HA.out.below hbw)
       have HG1:=hh9 (za4 HG.out hbw)
       clear hbw c0 c1 c2 z0 z1 z2
       go_wp2_with fail
       refine (zc8 _ _).mono ?_
       rw [HDC.out]
       rintro e w' ⟨rfl,rfl⟩
       go_wp2_with fail
       refine (zby _ _).mono ?_
       rw [HAL.out]
       rintro e w' ⟨rfl,rfl⟩
       go_wp2_with fail
       go_ret
       exact HFIN.out _ HA1.out HG1.out
      ·obtain ⟨hqlt,hda⟩:=HDall (by unfold isDg;rw [hdm];simp;omega)
       have HDall:=hh9 hda
       clear hdm hda
       go_wp2_with fail
       refine (yat0 HA.out hs (by omega) _ HZ.out).mono ?_
       rintro e w1 ⟨rfl,hbw⟩
       have HA1:=hh9 (HA.out.below hbw)
       have HG1:=hh9 (za4 HG.out hbw)
       clear hbw c0 c1 c2 z0 z1 z2
       go_wp2_with fail
       refine (zc8 _ _).mono ?_
       rw [HDC.out]
       rintro e w' ⟨rfl,rfl⟩
       go_wp2_with fail
       refine (zby _ _).mono ?_
       rw [HAL.out]
       rintro e w' ⟨rfl,rfl⟩
       by_cases hov:lim<V*b+(M-87)
       ·go_wp2_with fail
        refine (zba HA1.out 2).mono ?_
        rintro e w2 ⟨rfl,ha,hg⟩
        have HA2:=hh9 ha
        have HG2:=hh9 (HG1.out.trans hg)
        obtain ⟨d0,d1,d2,y0,y1,y2⟩:=ha.cells
        clear ha hg
        go_wp2_with fail
        go_roundw
        case rel=>exact ⟨_,q+1,2,rfl,HA2.out.step,zah HG2.out _ _,by omega,by omega,HDall.out,.inr ⟨rfl,by omega,by rw [<- HST.out];exact hov⟩⟩
        case measure =>
         rw [HM.out,HA2.out.step.pos]
         omega
       ·obtain ⟨d0,d1,d2,y0,y1,y2⟩:=HA1.out.cells
        go_wp2_with fail
        go_roundw
        case rel=>exact ⟨_,q+1,0,rfl,HA1.out.step,zah HG1.out _ _,by omega,by omega,HDall.out,.inl ⟨rfl,by rw [<- HST.out];omega,by rw [<- HST.out];omega,.inr ⟨by omega,HST.out⟩⟩⟩
        case measure =>
         rw [HM.out,HA1.out.step.pos]
         omega
     ·rw [if_neg hm] at hdm
      have HFIN:=HFIN (by unfold isDg;rw [hdm];simp;omega)
      clear hdm HST
      go_wp2_with fail
      refine (yat0 HA.out hs (by omega) _ HZ.out).mono ?_
      rintro e w1 ⟨rfl,hbw⟩
      have HA1:=hh9 (HA.out.below hbw)
      have HG1:=hh9 (za4 HG.out hbw)
      clear hbw c0 c1 c2 z0 z1 z2
      go_wp2_with fail
      refine (zc8 _ _).mono ?_
      rw [HDC.out]
      rintro e w' ⟨rfl,rfl⟩
      go_wp2_with fail
      refine (zby _ _).mono ?_
      rw [HAL.out]
      rintro e w' ⟨rfl,rfl⟩
      go_wp2_with fail
      go_ret
      exact HFIN.out _ HA1.out HG1.out
   ·have hZr:48<=Z/\Z<=57:=by unfold isDc at hdc;simp at hdc;omega
    have hdm:dig Z=Z-48:=by unfold dig;rw [if_pos hZr]
    have HDC:=hh9 hdc
    clear hdc
    rw [hdm] at HST
    by_cases hge:b<=Z-48
    ·have HFIN:=HFIN (by unfold isDg;rw [hdm];simp;omega)
     clear hdm HST
     go_wp2_with fail
     refine (yat0 HA.out hs (by omega) _ HZ.out).mono ?_
     rintro e w1 ⟨rfl,hbw⟩
     have HA1:=hh9 (HA.out.below hbw)
     have HG1:=hh9 (za4 HG.out hbw)
     clear hbw c0 c1 c2 z0 z1 z2
     go_wp2_with fail
     refine (zc8 _ _).mono ?_
     rw [HDC.out]
     rintro e w' ⟨rfl,rfl⟩
     go_wp2_with fail
     go_ret
     exact HFIN.out _ HA1.out HG1.out
    ·obtain ⟨hqlt,hda⟩:=HDall (by unfold isDg;rw [hdm];simp;omega)
     have HDall:=hh9 hda
     clear hdm hda
     go_wp2_with fail
     refine (yat0 HA.out hs (by omega) _ HZ.out).mono ?_
     rintro e w1 ⟨rfl,hbw⟩
     have HA1:=hh9 (HA.out.below hbw)
     have HG1:=hh9 (za4 HG.out hbw)
     clear hbw c0 c1 c2 z0 z1 z2
     go_wp2_with fail
     refine (zc8 _ _).mono ?_
     rw [HDC.out]
     rintro e w' ⟨rfl,rfl⟩
     by_cases hov:lim<V*b+(Z-48)
     ·go_wp2_with fail
      refine (zba HA1.out 2).mono ?_
      rintro e w2 ⟨rfl,ha,hg⟩
      have HA2:=hh9 ha
      have HG2:=hh9 (HG1.out.trans hg)
      obtain ⟨d0,d1,d2,y0,y1,y2⟩:=ha.cells
      clear ha hg
      go_wp2_with fail
      go_roundw
      case rel=>exact ⟨_,q+1,2,rfl,HA2.out.step,zah HG2.out _ _,by omega,by omega,HDall.out,.inr ⟨rfl,by omega,by rw [<- HST.out];exact hov⟩⟩
      case measure =>
       rw [HM.out,HA2.out.step.pos]
       omega
     ·obtain ⟨d0,d1,d2,y0,y1,y2⟩:=HA1.out.cells
      go_wp2_with fail
      go_roundw
      case rel=>exact ⟨_,q+1,0,rfl,HA1.out.step,zah HG1.out _ _,by omega,by omega,HDall.out,.inl ⟨rfl,by rw [<- HST.out];omega,by rw [<- HST.out];omega,.inr ⟨by omega,HST.out⟩⟩⟩
      case measure =>
       rw [HM.out,HA1.out.step.pos]
       omega
  ·have HE:=hh9 (zzl hb2 hb16 (by omega) hlt HL.out hov)
   have HD:=hh9 (HL.out p (Nat.le_refl _) hlt)
   clear hov
   go_wp2_with fail
   go_ret
   exact .inr (.inr ⟨HD.out,HE.out,q,hqs,rfl,HA.out,HG.out⟩)
theorem zhg {R p:Nat} {c:Int} {s:ByteArray} {w:World} (b lim:Int) (h:AtY w R s p c) (hc:c≠0) :
  Calls Tryz.prog 138 #[.pointer (some ⟨R,0,none⟩),.int .i64 b,.int .i64 lim] w (GivesY R s (.int .i64 (-1)) p c w):=by
 obtain ⟨c0,c1,c2,z0,z1,z2⟩:=h.cells
 have H:=hh9 h
 have q1:(c==0)=false:=by simpa using hc
 clear h
 go_enter Tryz.func138,Tryz.ntmps138
 go_wp2_with fail
 go_loopw [7] (fun _ wr=>wr=w) (fun _ wr=>0)
 case atStart=>rfl
 case round =>
  subst hrel
  go_wp2_with fail
  go_ret
  exact ⟨rfl,H.out,zam _ _⟩
theorem znc (W:World) (c:Int) (h0:0<=c) (h1:c<=255) :
  (convert 40 9 (.slice (some ⟨W.heap.size,0,none⟩) 1 1)).run Tryz.prog (W.alloc (.cells #[.int .u8 c] 5))=.ok (.string (za3 [c])) (W.alloc (.cells #[.int .u8 c] 5)):=by
 have h:=run_convert_bytes_back (P:=Tryz.prog) (W.alloc (.cells #[.int .u8 c] 5)) 40 9 5 ⟨W.heap.size,0,none⟩ 1 [byt c] Tryz.underlying40 Tryz.underlying5 Tryz.underlying9 (fun j hj=>by
  have hj0:j=0:=by simp at hj;exact hj
  subst hj0
  have e:((byt c).toNat:Int)=c:=by unfold byt;simp;omega
  show World.cell? _ ⟨W.heap.size,0,none⟩=some (.int .u8 ((byt c).toNat:Int))
  rw [e]
  unfold World.cell?
  show (match (W.alloc _).heap[W.heap.size]? with | some (.cells c elem frozen)=>c[0]? | x=>none)=_
  rw [heap_alloc_new]
  rfl)
 exact h
theorem znd (x y:List Int):za3 x++za3 y=za3 (x++y):=by
 apply ByteArray.ext
 unfold za3
 simp
theorem qaq {x:List Int} (h:0<x.length):za3 x≠⟨#[]⟩:=by
 intro g
 have:=congrArg ByteArray.size g
 rw [zab] at this
 have e:(⟨#[]⟩:ByteArray).size=0:=rfl
 omega
theorem zne {s:ByteArray} (h:0<s.size):s.toList.isEmpty=false:=by
 rw [Lib.toList_data]
 cases g:s.data.toList with
 | nil =>
  have:s.size=0:=by
   show s.data.size=0
   rw [<- Array.length_toList,g];rfl
  omega
 | cons a l=>rfl
theorem zhh {c:Int} (h0:0<=c) (h1:c<=255):0<=low c/\low c<=255:=by unfold low;split<;>omega
theorem zzm (f:Nat->Int) (p n:Nat):cut f p (n+1)=cut f p n++[f (p+n)]:=by unfold cut;rw [List.range_succ];simp
def NameY (R:Nat) (s:ByteArray) (p:Nat) (w:World) (e:Ending) (w':World):Prop :=
 (isAl (rd s p)=false/\GivesY R s (.string (za3 [])) p 20 w e w') \/
 (isAl (rd s p)=true/\∃ x q,zcb (rd s) p=.ok x q/\GivesY R s (.string (za3 x)) q 0 w e w') \/
 (isAl (rd s p)=true/\zcb (rd s) p=.err 2/\∃ x q,q<=s.size/\GivesY R s (.string (za3 x)) q 2 w e w')
def qbx (R:Nat) (s:ByteArray) (p:Nat) (w wr:World) (x:List Int) (q:Nat):Prop :=
 AtY wr R s q 0/\w.grownBy wr (some R)/\p<=q/\q<=s.size/\x=(cut (rd s) p (q-p)).map low/\(∀ i,p<=i->i<q->isNm (rd s i)=true)/\(p<q->isAl (rd s p)=true)
theorem zox {R p:Nat} {s:ByteArray} {w:World} (h:AtY w R s p 0) (hs:s.size<=50000) (hp:p<=s.size) :
  Calls Tryz.prog 65 #[.pointer (some ⟨R,0,none⟩)] w (NameY R s p w):=by
 have H:=hh9 h
 clear h
 go_enter Tryz.func65,Tryz.ntmps65
 go_wp2_with fail
 refine (yat0 H.out hs (by omega) _ rfl).mono ?_
 rintro e w0 ⟨rfl,hbw⟩
 have HA0:=hh9 (H.out.below hbw)
 have HG0:=hh9 (za4 (zam w (some R)) hbw)
 clear hbw
 go_wp2_with fail
 go_loopw [3,4] (fun v u wr=>∃ x:List Int,∃ q:Nat,v=.string (za3 x)/\u=.int .i64 (rd s q)/\qbx R s p w wr x q) (fun _ _ wr=>s.size-zf6 R wr)
 case atStart=>exact ⟨[],p,rfl,rfl,HA0.out,HG0.out,Nat.le_refl _,hp,by rw [Nat.sub_self];rfl,fun i h1 h2=>absurd h1 (by omega),fun g=>absurd g (by omega)⟩
 case round =>
  obtain ⟨x,q,rfl,rfl,ha,hg,hpq,hqs,hx,hall,hal0⟩:=hrel
  have hxl:x.length=q-p:=by rw [hx,List.length_map,zk5]
  have HA:=hh9 ha
  have HG:=hh9 hg
  have HM:=hh9 ha.pos
  have HX:=hh9 hx
  have HL:=hh9 hall
  obtain ⟨c0,c1,c2,z0,z1,z2⟩:=ha.cells
  obtain ⟨Z,hZ⟩:∃ y,rd s q=y:=⟨_,rfl⟩
  rw [hZ]
  have hZr:=zgf s q
  rw [hZ] at hZr
  obtain ⟨T,hT⟩:∃ T,T=za3 x:=⟨_,rfl⟩
  have hTs:T.size=q-p:=by rw [hT,zab,hxl]
  rw [<- hT]
  have HT:=hh9 hT
  have HZ:=hh9 hZ
  cases hnm:(isAl Z||(decide (p<q)&&isNm Z))
  ·obtain ⟨g1,g2⟩:isAl Z=false/\(p<q->isNm Z=false):=by
    simp at hnm
    exact hnm
   have G1:=hh9 g1
   by_cases hlt:p<q
   ·have g3:=g2 hlt
    obtain ⟨g4,g5⟩:isDc Z=false/\Z≠45:=by
     unfold isNm at g3
     rw [g1] at g3
     simpa using g3
    have G4:=hh9 g4
    have q45:(Z==45)=false:=by simpa using g5
    have hne:T≠⟨#[]⟩:=by rw [hT];exact qaq (by omega)
    have hemp:T.toList.isEmpty=false:=zne (by omega)
    have hrun:IsRun isNm (rd s) p q:=⟨hpq,hall,by rw [hZ];exact g3⟩
    have HAL0:=hh9 (hal0 hlt)
    have HN:Hid (zcb (rd s) p=if 40<q-p then .err 2 else .ok x q):=by unfold zcb;rw [hrun.eq,hx];exact rfl
    clear hZ hT hx hall hal0 hnm g1 g2 g3 g4 hrun hne
    by_cases hlong:40<q-p
    ·have hts:40<T.size:=by omega
     have HN2:Hid (zcb (rd s) p=.err 2):=by rw [HN.out,if_pos hlong];exact rfl
     clear hTs
     go_wp2_with fail
     refine (zby _ _).mono ?_
     rw [G1.out]
     rintro e w' ⟨rfl,rfl⟩
     go_wp2_with fail
     refine (zc8 _ _).mono ?_
     rw [G4.out]
     rintro e w' ⟨rfl,rfl⟩
     go_wp2_with fail
     refine (zba HA.out 2).mono ?_
     rintro e w2 ⟨rfl,ha,hg⟩
     have HA2:=hh9 ha
     have HG2:=hh9 (HG.out.trans hg)
     clear ha hg c0 c1 c2 z0 z1 z2
     go_wp2_with fail
     go_ret
     rw [HT.out]
     exact .inr (.inr ⟨HAL0.out,HN2.out,x,q,hqs,rfl,HA2.out,HG2.out⟩)
    ·have hts:T.size<=40:=by omega
     have HN2:Hid (zcb (rd s) p=.ok x q):=by rw [HN.out,if_neg hlong];exact rfl
     clear hTs
     go_wp2_with fail
     refine (zby _ _).mono ?_
     rw [G1.out]
     rintro e w' ⟨rfl,rfl⟩
     go_wp2_with fail
     refine (zc8 _ _).mono ?_
     rw [G4.out]
     rintro e w' ⟨rfl,rfl⟩
     go_wp2_with fail
     go_ret
     rw [HT.out]
     exact .inr (.inl ⟨HAL0.out,x,q,HN2.out,rfl,HA.out,HG.out⟩)
   ·obtain rfl:p=q:=by omega
    obtain rfl:x=[]:=List.length_eq_zero_iff.1 (by omega)
    have hT0:T=⟨#[]⟩:=hT
    clear hT HT hTs
    subst hT0
    have G1':Hid (isAl (rd s p)=false):=by rw [hZ];exact g1
    clear hZ hx hall hal0 hnm g1 g2 HL HX
    go_wp2_with fail
    refine (zby _ _).mono ?_
    rw [G1.out]
    rintro e w' ⟨rfl,rfl⟩
    go_wp2_with fail
    refine (zba HA.out 20).mono ?_
    rintro e w2 ⟨rfl,ha,hg⟩
    have HA2:=hh9 ha
    have HG2:=hh9 (HG.out.trans hg)
    clear ha hg c0 c1 c2 z0 z1 z2
    go_wp2_with fail
    go_ret
    exact .inl ⟨G1'.out,rfl,HA2.out,HG2.out⟩
  ·have hnm2:isNm Z=true:=by
    unfold isNm at hnm ⊢
    cases ha:isAl Z
    ·rw [ha] at hnm
     simp at hnm ⊢
     exact hnm.2
    ·rfl
   have hZ0:0<=Z:=(zn3 Z hnm2).1
   have hZ1:Z<=255:=by have:=(zn3 Z hnm2).2;omega
   have hlt:q<s.size:=zbu hZ0 hZ
   have HNX:Hid (∀ i,p<=i->i<q+1->isNm (rd s i)=true):=ze8 (P:=isNm) hall (by rw [hZ];exact hnm2)
   have HXN:Hid (x++[low Z]=(cut (rd s) p (q+1-p)).map low):=by
    rw [show q+1-p=(q-p)+1 by omega,zzm,List.map_append,<- hx,show p+(q-p)=q by omega,hZ]
    exact rfl
   have hR:=ha.lt
   have hT2:T.size<=50000:=by omega
   have hT3:(za3 [low Z]).size=1:=rfl
   have kc:=fun (W:World)=>znc W (low Z) (zhh hZ0 hZ1).1 (zhh hZ0 hZ1).2
   have HAL0:Hid (isAl (rd s p)=true):=by
    by_cases g:p<q
    ·exact hal0 g
    ·obtain rfl:p=q:=by omega
     rw [hZ]
     have:isAl Z=true:=by simpa using hnm
     exact this
   cases g1:isAl Z
   ·obtain ⟨g2,g3⟩:p<q/\(isDc Z=true\/Z=45):=by
     rw [g1] at hnm
     simp at hnm
     refine ⟨hnm.1,?_⟩
     have:=hnm.2
     unfold isNm at this
     rw [g1] at this
     simpa using this
    have hne:T≠⟨#[]⟩:=by rw [hT];exact qaq (by omega)
    have hemp:T.toList.isEmpty=false:=zne (by omega)
    have G1:=hh9 g1
    clear hZ hT hx hall hal0 hnm hnm2 g1 hTs
    cases g4:isDc Z
    ·have q45:Z=45:=by
      rcases g3 with g | g
      ·rw [g4] at g;cases g
      ·exact g
     have q45b:(Z==45)=true:=by simpa using q45
     have G4:=hh9 g4
     clear g3 g4 q45
     go_wp2_with fail
     refine (zby _ _).mono ?_
     rw [G1.out]
     rintro e w' ⟨rfl,rfl⟩
     go_wp2_with fail
     refine (zc8 _ _).mono ?_
     rw [G4.out]
     rintro e w' ⟨rfl,rfl⟩
     go_wp2_with fail
     refine (zgj _ hZ0 hZ1 _).mono ?_
     rintro e w' ⟨rfl,rfl⟩
     go_wp2_with fail
     have HA2:=hh9 (HA.out.step.alloc (.cells #[.int .u8 (low Z)] 5))
     have HG2:=hh9 (zao (zah HG.out 1 (.int .i64 ((q:Int)+1))) (.cells #[.int .u8 (low Z)] 5))
     refine (yat0 HA2.out hs (by omega) _ rfl).mono ?_
     rintro e w3 ⟨rfl,hbw⟩
     have HA3:=hh9 (HA2.out.below hbw)
     have HG3:=hh9 (za4 HG2.out hbw)
     clear hbw
     go_wp2_with fail
     go_roundw
     case rel=>exact ⟨x++[low Z],q+1,by rw [<- znd,<- HT.out],rfl,HA3.out,HG3.out,by omega,by omega,HXN.out,HNX.out,fun _=>HAL0.out⟩
     case measure =>
      rw [HM.out,HA3.out.pos]
      omega
    ·have G4:=hh9 g4
     clear g3 g4
     go_wp2_with fail
     refine (zby _ _).mono ?_
     rw [G1.out]
     rintro e w' ⟨rfl,rfl⟩
     go_wp2_with fail
     refine (zc8 _ _).mono ?_
     rw [G4.out]
     rintro e w' ⟨rfl,rfl⟩
     go_wp2_with fail
     refine (zgj _ hZ0 hZ1 _).mono ?_
     rintro e w' ⟨rfl,rfl⟩
     go_wp2_with fail
     have HA2:=hh9 (HA.out.step.alloc (.cells #[.int .u8 (low Z)] 5))
     have HG2:=hh9 (zao (zah HG.out 1 (.int .i64 ((q:Int)+1))) (.cells #[.int .u8 (low Z)] 5))
     refine (yat0 HA2.out hs (by omega) _ rfl).mono ?_
     rintro e w3 ⟨rfl,hbw⟩
     have HA3:=hh9 (HA2.out.below hbw)
     have HG3:=hh9 (za4 HG2.out hbw)
     clear hbw
     go_wp2_with fail
     go_roundw
     case rel=>exact ⟨x++[low Z],q+1,by rw [<- znd,<- HT.out],rfl,HA3.out,HG3.out,by omega,by omega,HXN.out,HNX.out,fun _=>HAL0.out⟩
     case measure =>
      rw [HM.out,HA3.out.pos]
      omega
   ·have G1:=hh9 g1
    clear hZ hT hx hall hal0 hnm hnm2 g1 hTs
    go_wp2_with fail
    refine (zby _ _).mono ?_
    rw [G1.out]
    rintro e w' ⟨rfl,rfl⟩
    go_wp2_with fail
    refine (zgj _ hZ0 hZ1 _).mono ?_
    rintro e w' ⟨rfl,rfl⟩
    go_wp2_with fail
    have HA2:=hh9 (HA.out.step.alloc (.cells #[.int .u8 (low Z)] 5))
    have HG2:=hh9 (zao (zah HG.out 1 (.int .i64 ((q:Int)+1))) (.cells #[.int .u8 (low Z)] 5))
    refine (yat0 HA2.out hs (by omega) _ rfl).mono ?_
    rintro e w3 ⟨rfl,hbw⟩
    have HA3:=hh9 (HA2.out.below hbw)
    have HG3:=hh9 (za4 HG2.out hbw)
    clear hbw
    go_wp2_with fail
    go_roundw
    case rel=>exact ⟨x++[low Z],q+1,by rw [<- znd,<- HT.out],rfl,HA3.out,HG3.out,by omega,by omega,HXN.out,HNX.out,fun _=>HAL0.out⟩
    case measure =>
     rw [HM.out,HA3.out.pos]
     omega
theorem ETP.under {W W':World} {X:XV} {t:Tree} (h:ETP W (fun _=>True) X t) (hb:Below W.heap.size W W'):ETP W' (fun _=>True) X t:=h.kept (M:=fun _=>False) (zap.below hb) (fun b _ _=>⟨id,trivial⟩)
def zkm (W:World) (y:RV) (r:GR):Prop:=y.name=za3 r.name/\zar r.name/\ETP W (fun _=>True) y.expr r.expr
theorem zkm.under {W W':World} {y:RV} {r:GR} (h:zkm W y r) (hb:Below W.heap.size W W'):zkm W' y r:=⟨h.1,h.2.1,h.2.2.under hb⟩
def zoy (t:Tree) (w:World) (e:Ending) (w':World):Prop:=∃ k tx lo hi a1 n1 c1 a2 n2 c2,e=.returned (.agg #[.int .i64 k,.string tx,.slice a1 n1 c1,.int .i64 lo,.int .i64 hi,.slice a2 n2 c2])/\ETP w' (fun _=>True) ⟨k,tx,.slice a1 n1 c1,lo,hi,.slice a2 n2 c2⟩ t/\Below w.heap.size w w'
theorem zhj {w:World} {g:Nat} (hg:w.heap.size<=g) {W:World} (hb:Below w.heap.size w W) (X:XV):Below w.heap.size w (W.setRow g (XV.arr X)) :=
 ⟨hb.os,hb.tape,hb.output,by have:=hb.size;simp [World.setRow];omega,fun k hk=>(setRow_other _ _ _ _ (by omega)).trans (hb.block k hk)⟩
theorem zkn {W:World} {k:Int} {x:List Int} (h:zar x):ETP W (fun _=>True) ⟨k,za3 x,.slice none 0 0,0,0,.slice none 0 0⟩ (.mk k x [] 0 0 []) :=
 ETP.mk (nums:=[]) (kids:=[]) [] h.1 h.2 (.inl ⟨rfl,_,_,rfl⟩) (.inl ⟨rfl,_,_,rfl⟩) rfl (fun i y t h=>by simp at h)
theorem zrz {w:World} {S:ByteArray} {x:List Int} (hS:S=za3 x) (hx:zar x):Calls Tryz.prog 28 #[.string S] w (zoy (rfT x) w):=by
 have HRES:=hh9 (zav w)
 have HB:=hh9 (zhj (Nat.le_refl _) ((Below.refl w.heap.size w).alloc (Nat.le_refl _) (.cells #[.int .i64 0,.string ⟨#[]⟩,.slice none 0 0,.int .i64 0,.int .i64 0,.slice none 0 0] 27)) ⟨4,S,.slice none 0 0,0,0,.slice none 0 0⟩)
 have HS:=hh9 hS
 clear hS
 go_enter Tryz.func28,Tryz.ntmps28
 go_wp2_with (refine za6 rfl _ _ rfl w.heap.size ⟨4,S,.slice none 0 0,0,0,.slice none 0 0⟩ rfl rfl HRES.out rfl rfl ?_)
 exact bodyPost_ret_by (zaj rfl _ _ w.heap.size ⟨4,S,.slice none 0 0,0,0,.slice none 0 0⟩ rfl HRES.out) rfl ⟨_,_,_,_,_,_,_,_,_,_,rfl,by rw [HS.out];exact zkn hx,HB.out⟩
theorem zoz {W:World} {k:Int} {b:Nat} {cs:Array Value} {ns:List Int} (h:W.heap[b]?=some (.cells cs 3 (0,0))) (hc:cs.toList=zat ns) (hn:ns.length<=1000):ETP W (fun _=>True) ⟨k,⟨#[]⟩,.slice (some ⟨b,0,none⟩) ns.length ns.length,0,0,.slice none 0 0⟩ (.mk k [] ns 0 0 []):=by
 refine ETP.mk (x:=[]) (kids:=[]) [] (by simp) (by simp) (.inr ⟨b,0,ns.length,rfl,Nat.le_refl _,by unfold maxLen;omega,⟨_,_,by unfold KT;decide,h⟩,trivial,fun j u hj=>?_⟩) (.inl ⟨rfl,_,_,rfl⟩) rfl (fun i y t h=>by simp at h)
 unfold World.cell?
 simp only [h,Nat.zero_add]
 rw [<- hc] at hj
 simpa using hj
theorem zzn {w:World} {n:Int}:Calls Tryz.prog 31 #[.int .i64 n] w (zoy (nuT n) w):=by
 have HRES:=hh9 ((zav w).kept (Below.heap_alloc (w.alloc (.cells #[.int .i64 0,.string ⟨#[]⟩,.slice none 0 0,.int .i64 0,.int .i64 0,.slice none 0 0] 27)) (.cells #[.int .i64 n] 3) w.heap.size (by simp)))
 have hb:Below w.heap.size w ((w.alloc (.cells #[.int .i64 0,.string ⟨#[]⟩,.slice none 0 0,.int .i64 0,.int .i64 0,.slice none 0 0] 27)).alloc (.cells #[.int .i64 n] 3)):=((Below.refl _ _).alloc (Nat.le_refl _) _).alloc (by simp) _
 have hn:=heap_alloc_new (w.alloc (.cells #[.int .i64 0,.string ⟨#[]⟩,.slice none 0 0,.int .i64 0,.int .i64 0,.slice none 0 0] 27)) (.cells #[.int .i64 n] 3)
 rw [World.size_alloc] at hn
 have HB:=hh9 (zhj (Nat.le_refl _) hb ⟨6,⟨#[]⟩,.slice (some ⟨w.heap.size+1,0,none⟩) 1 1,0,0,.slice none 0 0⟩)
 have HT:=hh9 (zoz (W:=(((w.alloc (.cells #[.int .i64 0,.string ⟨#[]⟩,.slice none 0 0,.int .i64 0,.int .i64 0,.slice none 0 0] 27)).alloc (.cells #[.int .i64 n] 3)).setRow w.heap.size (XV.arr ⟨6,⟨#[]⟩,.slice (some ⟨w.heap.size+1,0,none⟩) 1 1,0,0,.slice none 0 0⟩))) (k:=6) (ns:=[n]) ((setRow_other _ _ _ _ (by omega)).trans hn) rfl (by simp))
 clear hb hn
 go_enter Tryz.func31,Tryz.ntmps31
 go_wp2_with (refine za6 rfl _ _ rfl w.heap.size ⟨6,⟨#[]⟩,.slice (some ⟨w.heap.size+1,0,none⟩) 1 1,0,0,.slice none 0 0⟩ rfl rfl HRES.out rfl rfl ?_)
 exact bodyPost_ret_by (zaj rfl _ _ w.heap.size ⟨6,⟨#[]⟩,.slice (some ⟨w.heap.size+1,0,none⟩) 1 1,0,0,.slice none 0 0⟩ rfl HRES.out) rfl ⟨_,_,_,_,_,_,_,_,_,_,rfl,HT.out,HB.out⟩
theorem zwo {w:World} {n m:Int}:Calls Tryz.prog 30 #[.int .i64 n,.int .i64 m] w (zoy (spT n m) w):=by
 have HRES:=hh9 ((zav w).kept (Below.heap_alloc (w.alloc (.cells #[.int .i64 0,.string ⟨#[]⟩,.slice none 0 0,.int .i64 0,.int .i64 0,.slice none 0 0] 27)) (.cells #[.int .i64 n,.int .i64 m] 3) w.heap.size (by simp)))
 have hb:Below w.heap.size w ((w.alloc (.cells #[.int .i64 0,.string ⟨#[]⟩,.slice none 0 0,.int .i64 0,.int .i64 0,.slice none 0 0] 27)).alloc (.cells #[.int .i64 n,.int .i64 m] 3)):=((Below.refl _ _).alloc (Nat.le_refl _) _).alloc (by simp) _
 have hn:=heap_alloc_new (w.alloc (.cells #[.int .i64 0,.string ⟨#[]⟩,.slice none 0 0,.int .i64 0,.int .i64 0,.slice none 0 0] 27)) (.cells #[.int .i64 n,.int .i64 m] 3)
 rw [World.size_alloc] at hn
 have HB:=hh9 (zhj (Nat.le_refl _) hb ⟨7,⟨#[]⟩,.slice (some ⟨w.heap.size+1,0,none⟩) 2 2,0,0,.slice none 0 0⟩)
 have HT:=hh9 (zoz (W:=(((w.alloc (.cells #[.int .i64 0,.string ⟨#[]⟩,.slice none 0 0,.int .i64 0,.int .i64 0,.slice none 0 0] 27)).alloc (.cells #[.int .i64 n,.int .i64 m] 3)).setRow w.heap.size (XV.arr ⟨7,⟨#[]⟩,.slice (some ⟨w.heap.size+1,0,none⟩) 2 2,0,0,.slice none 0 0⟩))) (k:=7) (ns:=[n,m]) ((setRow_other _ _ _ _ (by omega)).trans hn) rfl (by simp))
 clear hb hn
 go_enter Tryz.func30,Tryz.ntmps30
 go_wp2_with (refine za6 rfl _ _ rfl w.heap.size ⟨7,⟨#[]⟩,.slice (some ⟨w.heap.size+1,0,none⟩) 2 2,0,0,.slice none 0 0⟩ rfl rfl HRES.out rfl rfl ?_)
 exact bodyPost_ret_by (zaj rfl _ _ w.heap.size ⟨7,⟨#[]⟩,.slice (some ⟨w.heap.size+1,0,none⟩) 2 2,0,0,.slice none 0 0⟩ rfl HRES.out) rfl ⟨_,_,_,_,_,_,_,_,_,_,rfl,HT.out,HB.out⟩
def zg5 (W:World) (v:Value) (vs:List XV) (l:List Tree):Prop:=RowP W (fun _=>True) v l.length (vs.flatMap XV.cells)/\vs.length=l.length/\∀ (i:Nat) (y:XV) (t:Tree),vs[i]?=some y->l[i]?=some t->ETP W (fun _=>True) y t
theorem zg5.under {W W':World} {v:Value} {vs:List XV} {l:List Tree} (h:zg5 W v vs l) (hb:Below W.heap.size W W'):zg5 W' v vs l:=⟨h.1.kept (M:=fun _=>False) (zap.below hb) (fun b _ _=>⟨id,trivial⟩),h.2.1,fun i y t hy ht=>(h.2.2 i y t hy ht).under hb⟩
theorem zg5.tree {W:World} {v:Value} {vs:List XV} {l:List Tree} (h:zg5 W v vs l) (k lo hi:Int):ETP W (fun _=>True) ⟨k,⟨#[]⟩,.slice none 0 0,lo,hi,v⟩ (.mk k [] [] lo hi l) :=
 ETP.mk (x:=[]) (nums:=[]) vs (by simp) (by simp) (.inl ⟨rfl,_,_,rfl⟩) h.1 h.2.1 h.2.2
theorem zp0 {w:World} {a:Option Addr} {n c:Nat} {vs:List XV} {l:List Tree} (h:zg5 w (.slice a n c) vs l):Calls Tryz.prog 29 #[.slice a n c] w (zoy (alT l) w) :=
 zrp.mono fun e w' ⟨he,hb⟩=>⟨_,_,_,_,_,_,_,_,_,_,he,(h.under hb).tree 1 0 0,hb⟩
def zqf (c:Int):XV:=⟨5,za3 [c],.slice none 0 0,0,0,.slice none 0 0⟩
def hexX (X:XV) (i:Nat):List XV:=X::(List.range i).map fun (j:Nat)=>zqf (97+(j:Int))
def hexL (i:Nat):List Tree:=rfT zbb::(List.range i).map fun (j:Nat)=>foT [97+(j:Int)]
theorem zwp (X:XV) (i:Nat):hexX X (i+1)=hexX X i++[zqf (97+(i:Int))]:=by
 unfold hexX
 rw [List.range_succ,List.map_append,List.cons_append]
 rfl
theorem zs0 (i:Nat):(hexL i).length=i+1:=by simp [hexL]
theorem zjc (X:XV) (i:Nat):(hexX X i).length=i+1:=by simp [hexX]
theorem zzo {W:World} {X:XV} {v:Value} {base i:Nat} (hi:i<=20) (hX:ETP W (fun _=>True) X (rfT zbb)) (hr:W.ownsRow base 27 6 v (i+1) ((hexX X i).flatMap XV.cells)):zg5 W v (hexX X i) (hexL i):=by
 refine ⟨by rw [zs0];exact RowP.of_own (by unfold KT;decide) hr (fun _ _=>trivial),by rw [zjc,zs0],fun j y t hy ht=>?_⟩
 cases j with
 | zero =>
  simp [hexX,hexL] at hy ht
  subst hy ht
  exact hX
 | succ j =>
  simp only [hexX,hexL,List.getElem?_cons_succ,List.getElem?_map] at hy ht
  cases hj:(List.range i)[j]? with
  | none=>rw [hj] at hy;cases hy
  | some q =>
   rw [hj] at hy ht
   have e1:=Option.some.inj hy
   have e2:=Option.some.inj ht
   subst e1 e2
   have hq:=List.mem_of_getElem? hj
   rw [List.mem_range] at hq
   exact zkn ⟨fun c hc=>by simp at hc;subst hc;omega,by simp⟩
theorem qd5 {W W':World} {X:XV} {x:List Int} (h:ETP W (fun _=>True) X (rfT x)):ETP W' (fun _=>True) X (rfT x):=by
 unfold rfT at h ⊢
 generalize ht:Tree.mk 4 x [] 0 0 []=t at h
 cases h with
 | mk vs h0 hl h1 h2 h3 h4 =>
  simp only [Tree.mk.injEq] at ht
  obtain ⟨rfl,rfl,rfl,rfl,rfl,rfl⟩:=ht
  refine .mk vs h0 hl ?_ ?_ h3 (fun i y t hy ht=>by simp at ht)
  ·rcases h1 with h | ⟨g,off,cap,e,_⟩
   ·exact .inl h
   ·exact .inl ⟨rfl,_,_,e⟩
  ·rcases h2 with h | ⟨g,off,cap,e,_⟩
   ·exact .inl h
   ·exact .inl ⟨rfl,_,_,e⟩
end Go.Proofs.YtdgcmiecgnmdjaaGreatDoor
