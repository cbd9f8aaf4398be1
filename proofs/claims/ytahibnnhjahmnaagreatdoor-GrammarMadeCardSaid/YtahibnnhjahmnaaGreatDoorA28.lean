/- Part 28 of what the laws of the grammar rest on. -/
import Derived.Test.YtahibnnhjahmnaaGreatDoorA27
set_option linter.all false
set_option maxRecDepth 100000
set_option maxHeartbeats 8000000
namespace Go.Proofs.YtahibnnhjahmnaaGreatDoor
open Go.RowKit
def qev(R:Nat)(s:ByteArray)(p:Nat)(w:World)(e:Ending)(w':World):Prop :=
 ∃ q,Skip (rd s) p q/\p<=q/\q<=s.size/\aW R s (.bool (decide (p<q))) q 0 w e w'
def qdk(R:Nat)(s:ByteArray)(p:Nat)(w wr:World)(q:Nat):Prop :=
 bL wr R s q 0/\w.grownBy wr (some R)/\p<=q/\q<=s.size/\∀ z,Skip (rd s) q z->Skip (rd s) p z
theorem zy7{s:ByteArray}{q:Nat}:pQ (rd s) q=-1/\eH (rd s) q=none\/∃ e,eH (rd s) q=some e/\pQ (rd s) q=(e:Int)-q:=by
 cases h:eH (rd s) q with
 |none=>exact .inl ⟨FI h,rfl⟩
 |some e=>exact .inr ⟨e,rfl,zI h⟩
theorem OW{R p:Nat}{c:Int}{s:ByteArray}{w:World}(h:bL w R s p c)(hc:c≠0)(hs:s.size<=50000) :
  Calls Tryz.prog 42 #[.pointer (some ⟨R,0,none⟩)] w (aW R s (.bool false) p c w):=by
 obtain⟨c0,c1,c2,z0,z1,z2⟩:=h.cells;have H:=hh9 h;have q1:(c==0)=false:=by simpa using hc
 clear h;go_enter Tryz.func42,Tryz.ntmps42;go_wp2_with fail
 go_loopw [] (fun wr=>wr=w) (fun wr=>0)
 case atStart=>rfl
 case round =>
  subst hrel;go_wp2_with fail
  go_ret;exact⟨rfl,H.out,iq _ _⟩
theorem Iw{R p:Nat}{s:ByteArray}{w:World}(h:bL w R s p 0)(hs:s.size<=50000)(hp:p<=s.size) :
  Calls Tryz.prog 42 #[.pointer (some ⟨R,0,none⟩)] w (qev R s p w):=by
 obtain⟨c0,c1,c2,z0,z1,z2⟩:=h.cells;have H:=hh9 h;clear h;go_enter Tryz.func42,Tryz.ntmps42;go_wp2_with fail
 clear c0 c1 c2 z0 z1 z2;go_loopw [] (fun wr=>∃ q:Nat,qdk R s p w wr q) (fun wr=>s.size-qH R wr)
 case atStart=>exact⟨p,H.out,iq _ _,zbA _,hp,fun z hz=>hz⟩
 case round =>
  obtain⟨q,ha,hg,hpq,aR,hall⟩:=hrel;have HA:=hh9 ha;have HG:=hh9 hg;have HL:=hh9 hall;have HM:=hh9 ha.pos;obtain⟨c0,c1,c2,z0,z1,z2⟩:=ha.cells;obtain⟨Z,hZ⟩:∃ x,rd s q=x:=⟨_,rfl⟩
  have HZ:=hh9 hZ;obtain⟨L,hLn⟩:∃ x,pQ (rd s) q=x:=⟨_,rfl⟩
  have Iy:=hh9 hLn;have hlen:=zy7 (s:=s) (q:=q);rw[hLn]at hlen;clear ha hg hall
  cases hb:aZ Z
  ·have HB0:=hh9 hb;by_cases hy:∃ e,eH (rd s) q=some e/\aZ (rd s e)=true
   ·obtain⟨e0,hl,hbe⟩:=hy
    have hes:e0<s.size:=by
     by_cases g:e0<s.size
     ·exact g
     ·rw[kL g]at hbe;simp[aZ]at hbe
    obtain⟨k,hk⟩:∃ k:Nat,L=(k:Int)/\q+k=e0/\0<k:=by
     rcases hlen with ⟨_,g⟩|⟨e1,g1,g2⟩
     ·rw[hl]at g;cases g
     ·obtain rfl:e0=e1:=by rw[hl]at g1;cases g1;rfl
      have hqe:q<e0:=by
       have zaJ:=(qI aR hl).1;rcases Nat.lt_or_ge q e0 with g|g
       ·exact g
       ·obtain rfl:q=e0:=by omega
        rw[hZ,hb]at hbe;cases hbe
      exact⟨e0-q,by omega,by omega,by omega⟩
    obtain⟨rfl,hke,hk0⟩:=hk;have HE:Hid (aZ (rd s (q+k))=true):=by rw[hke];exact hbe
    have bT:Hid (∀ z,Skip (rd s) (q+k) z->Skip (rd s) p z):=by
     intro z hz
     cases hz with
     |blank _ hz=>exact HL.out z (.line (by rw[hZ];exact hb) hl hbe (by rw[<- hke];exact hz))
     |line g=>rw[HE.out]at g;cases g
     |here g=>rw[HE.out]at g;cases g
    have hk3:q+k<=s.size:=by omega
    clear hZ hLn hlen hl hbe hb hke hes;go_wp2_with fail
    refine(A9 HA.out hs (by omega)).mono ?_;rw[Iy.out];rintro e w1 ⟨rfl,hb⟩;have HA1:=hh9 (HA.out.below hb);have aT:=hh9 (dw HG.out hb);clear hb;go_wp2_with fail
    refine(aQ HA1.out hs (by omega) _ HZ.out).mono ?_;rintro e w2 ⟨rfl,hb⟩;have HA2:=hh9 (HA1.out.below hb);have HG2:=hh9 (dw aT.out hb);clear hb;go_wp2_with fail
    refine(xD _ _).mono ?_;rw[HB0.out];rintro e w' ⟨rfl,rfl⟩;go_wp2_with fail
    refine(iI HA2.out hs (by omega) k (by omega) _ (by omega) _ rfl).mono ?_;rintro e w3 ⟨rfl,hb⟩;have aC:=hh9 (HA2.out.below hb);have aG:=hh9 (dw HG2.out hb);obtain⟨d0,d1,d2,y0,y1,y2⟩:=aC.out.cells;clear hb c0 c1 c2 z0 z1 z2;go_wp2_with fail
    refine(xD _ _).mono ?_;rw[HE.out];rintro e w' ⟨rfl,rfl⟩;go_wp2_with fail
    go_roundw
    case rel=>exact⟨q+k,aC.out.put (by omega),fu aG.out _ _,by omega,by omega,bT.out⟩
    case measure =>
     rw[HM.out,(aC.out.put (x:=(q:Int)+(k:Int)) (q:=q+k) (by omega)).pos];omega
   ·have HF:Hid (Skip (rd s) p q):=HL.out q (.here (by rw[hZ];exact hb) (fun e g=>by cases hx:aZ (rd s e) with|true=>exact absurd ⟨e,g,hx⟩ hy|false=>rfl));by_cases hL:0<L
    ·obtain⟨k,hk,hne⟩:∃ k:Nat,L=(k:Int)/\aZ (rd s (q+k))=false:=by
      rcases hlen with ⟨g,_⟩|⟨e1,g1,g2⟩
      ·omega
      ·refine⟨e1-q,by omega,?_⟩;rw[show q+(e1-q)=e1 by omega]
       cases hx:aZ (rd s e1) with
       |true=>exact absurd ⟨e1,g1,hx⟩ hy
       |false=>rfl
     subst hk;have HE:=hh9 hne
     have hk2:k<=60000:=by
      rcases hlen with ⟨g,_⟩|⟨e1,g1,g2⟩
      ·omega
      ·have:=(qI aR g1).2;omega
     clear hZ hLn hlen hy hb hne;go_wp2_with fail
     refine(A9 HA.out hs (by omega)).mono ?_;rw[Iy.out];rintro e w1 ⟨rfl,hb⟩;have HA1:=hh9 (HA.out.below hb);have aT:=hh9 (dw HG.out hb);clear hb;go_wp2_with fail
     refine(aQ HA1.out hs (by omega) _ HZ.out).mono ?_;rintro e w2 ⟨rfl,hb⟩;have HA2:=hh9 (HA1.out.below hb);have HG2:=hh9 (dw aT.out hb);clear hb;go_wp2_with fail
     refine(xD _ _).mono ?_;rw[HB0.out];rintro e w' ⟨rfl,rfl⟩;go_wp2_with fail
     refine(iI HA2.out hs (by omega) k (by omega) _ (by omega) _ rfl).mono ?_;rintro e w3 ⟨rfl,hb⟩;have aC:=hh9 (HA2.out.below hb);have aG:=hh9 (dw HG2.out hb);obtain⟨d0,d1,d2,y0,y1,y2⟩:=aC.out.cells;clear hb c0 c1 c2 z0 z1 z2;go_wp2_with fail
     refine(xD _ _).mono ?_;rw[HE.out];rintro e w' ⟨rfl,rfl⟩;go_wp2_with fail
     go_ret;exact⟨q,HF.out,hpq,aR,by simp,aC.out,aG.out⟩
    ·clear hZ hLn hlen hy hb;go_wp2_with fail
     refine(A9 HA.out hs (by omega)).mono ?_;rw[Iy.out];rintro e w1 ⟨rfl,hb⟩;have HA1:=hh9 (HA.out.below hb);have aT:=hh9 (dw HG.out hb);clear hb;go_wp2_with fail
     refine(aQ HA1.out hs (by omega) _ HZ.out).mono ?_;rintro e w2 ⟨rfl,hb⟩;have HA2:=hh9 (HA1.out.below hb);have HG2:=hh9 (dw aT.out hb);obtain⟨d0,d1,d2,y0,y1,y2⟩:=HA2.out.cells;clear hb c0 c1 c2 z0 z1 z2;go_wp2_with fail
     refine(xD _ _).mono ?_;rw[HB0.out];rintro e w' ⟨rfl,rfl⟩;go_wp2_with fail
     go_ret;exact⟨q,HF.out,hpq,aR,by simp,HA2.out,HG2.out⟩
  ·have HB0:=hh9 hb
   have hlt:q<s.size:=by
    by_cases g:q<s.size
    ·exact g
    ·rw[kL g]at hZ;subst hZ;simp[aZ]at hb
   have bT:Hid (∀ z,Skip (rd s) (q+1) z->Skip (rd s) p z):=fun z hz=>HL.out z (.blank (by rw[hZ];exact hb) hz)
   clear hZ hLn hlen hb;go_wp2_with fail
   refine(A9 HA.out hs (by omega)).mono ?_;rw[Iy.out];rintro e w1 ⟨rfl,hb⟩;have HA1:=hh9 (HA.out.below hb);have aT:=hh9 (dw HG.out hb);clear hb;go_wp2_with fail
   refine(aQ HA1.out hs (by omega) _ HZ.out).mono ?_;rintro e w2 ⟨rfl,hb⟩;have HA2:=hh9 (HA1.out.below hb);have HG2:=hh9 (dw aT.out hb);obtain⟨d0,d1,d2,y0,y1,y2⟩:=HA2.out.cells;clear hb c0 c1 c2 z0 z1 z2;go_wp2_with fail
   refine(xD _ _).mono ?_;rw[HB0.out];rintro e w' ⟨rfl,rfl⟩;go_wp2_with fail
   go_roundw
   case rel=>exact⟨q+1,HA2.out.step,fu HG2.out _ _,by omega,by omega,bT.out⟩
   case measure =>
    rw[HM.out,HA2.out.step.pos];omega
def Lp(b lim:Int)(R:Nat)(s:ByteArray)(p:Nat)(w:World)(e:Ending)(w':World):Prop :=
 (bC b (rd s p)=false/\aW R s (.int .i64 (-1)) p 0 w e w') \/
 (∃ v q,fC b lim (rd s) p=.ok v q/\aW R s (.int .i64 v) q 0 w e w') \/
 (bC b (rd s p)=true/\fC b lim (rd s) p=.err 2/\∃ q,q<=s.size/\aW R s (.int .i64 (-1)) q 2 w e w')
def oz(c:Int):Int:=if c / 32%2=1 then c else c+32
theorem Uc(c:Int)(h0:0<=c)(h1:c<=255):bits .or .i64 c 32=oz c:=by
 have key:∀ i:Fin 256,bits .or .i64 ((i.val:Nat):Int) 32=oz ((i.val:Nat):Int):=by decide +kernel
 have:=key ⟨c.toNat,by omega⟩;simp only[show ((c.toNat:Nat):Int)=c by omega]at this;exact this
theorem Ud(c:Int)(h:aH c=true):bits .or .i64 c 32=low c:=by
 have hc:=H7.1 h;rw[Uc c (by omega) (by omega)];unfold oz low;split<;>split<;>omega
theorem Z9{b:Int}(hb:1<=b)(f:Nat->Int)(p m:Nat)(h0:2<=b):∀ k,val b f p m<=val b f p (m+k)
 |0=>Int.le_refl _
 |k+1=>by
  have h1:=Z9 hb f p m h0 k;have h2:=Kl h0 f p (m+k);have h3:=(R4 (f (p+(m+k)))).1
  have h4:val b f p (m+k)<=val b f p (m+k)*b:=by
   have:=Int.mul_le_mul_of_nonneg_left hb h2;omega
  show _<=val b f p (m+k)*b+iN (f (p+(m+k)))
  omega
theorem qb8{b lim:Int}(hb:2<=b)(oL:b<=16){s:ByteArray}{p q:Nat}(hp:p<=s.size)(hpq:p<q)(hall:∀ i,p<=i->i<q->bC b (rd s i)=true)(hv:lim<val b (rd s) p (q-p)):fC b lim (rd s) p=.err 2:=by
 obtain⟨hr,hq⟩:=yT (P:=bC b) (Yn oL) hp
 have hle:q<=jC (bC b) (rd s) p:=by
  by_cases g:q<=jC (bC b) (rd s) p
  ·exact g
  ·have:=hall _ hr.le (by omega);rw[hr.stop]at this
   cases this
 have hm:=Z9 (by omega) (rd s) p (q-p) hb (jC (bC b) (rd s) p-q);rw[show q-p+(jC (bC b) (rd s) p-q)=jC (bC b) (rd s) p-p by omega]at hm;rw[R8 hr (by omega),if_pos (by omega)]
def qew(b lim:Int)(R:Nat)(s:ByteArray)(p:Nat)(w wr:World)(N:Int)(q:Nat)(c:Int):Prop :=
 bL wr R s q c/\w.grownBy wr (some R)/\p<=q/\q<=s.size/\(∀ i,p<=i->i<q->bC b (rd s i)=true) /\
  ((c=0/\val b (rd s) p (q-p)<=lim/\max N 0=val b (rd s) p (q-p)/\((q=p/\N=-1)\/(p<q/\N=val b (rd s) p (q-p))))\/(c=2/\p<q/\lim<val b (rd s) p (q-p)))
theorem zle{R p:Nat}{s:ByteArray}{w:World}(b lim:Int)(hb:b=2\/b=10\/b=16)(hl:0<=lim)(hl2:lim<=2000000)(h:bL w R s p 0)(hs:s.size<=50000)(hp:p<=s.size) :
  Calls Tryz.prog 97 #[.pointer (some ⟨R,0,none⟩),.int .i64 b,.int .i64 lim] w (Lp b lim R s p w):=by
 have oL:b<=16:=by omega
 have hb2:2<=b:=by omega
 have H:=hh9 h;have jX:=hh9 hb;clear h hb;go_enter Tryz.func97,Tryz.ntmps97;go_wp2_with fail
 go_loopw [7] (fun v wr=>∃ N:Int,∃ q:Nat,∃ c:Int,v=.int .i64 N/\qew b lim R s p w wr N q c) (fun _ wr=>s.size-qH R wr)
 case atStart=>exact⟨-1,p,0,rfl,H.out,iq _ _,zbA _,hp,fun i h1 h2=>absurd h1 (by omega),.inl ⟨rfl,by rw[Nat.sub_self];unfold val;exact hl,by rw[Nat.sub_self];rfl,.inl ⟨rfl,rfl⟩⟩⟩
 case round =>
  obtain⟨N,q,c,rfl,ha,hg,hpq,aR,hall,hst⟩:=hrel;have HA:=hh9 ha;have HG:=hh9 hg;have HL:=hh9 hall;have HM:=hh9 ha.pos;obtain⟨c0,c1,c2,z0,z1,z2⟩:=ha.cells;clear ha hg hall;rcases hst with ⟨rfl,hvl,hmax,hN⟩|⟨rfl,hlt,hov⟩
  ·have hv:=Kl hb2 (rd s) p (q-p);obtain⟨V,hV⟩:∃ x,x=val b (rd s) p (q-p):=⟨_,rfl⟩
   rw[<- hV]at hv hvl hmax hN;obtain⟨Z,hZ⟩:∃ x,rd s q=x:=⟨_,rfl⟩
   have HZ:=hh9 hZ;have HV:=hh9 hV;have HN:=hh9 hN;have hm0:0<=V*b:=Int.mul_nonneg hv (by omega);have hm1:V*b<=40000000:=by rcases jX.out with g|g|g<;>rw[g]<;>omega
   have hN2:-1<=N/\N<=2000000:=by omega
   have kW:bC b Z=true->Hid (q<s.size/\∀ i,p<=i->i<q+1->bC b (rd s i)=true):=fun hd=>⟨Yi oL (by rw[hZ];exact hd),Cc (P:=bC b) HL.out (by rw[hZ];exact hd)⟩
   have HST:Hid (V*b+iN Z=val b (rd s) p (q+1-p)):=by
    have e1:q+1-p=(q-p)+1:=by omega
    have e2:p+(q-p)=q:=by omega
    rw[e1];show _=val b (rd s) p (q-p)*b+iN (rd s (p+(q-p)))
    rw[e2,hZ,<- HV.out]
   have ay:bC b Z=false->Hid (∀ W,bL W R s q 0->w.grownBy W (some R)->Lp b lim R s p w (.returned (.int .i64 N)) W):=by
    intro hd W ha hg;rcases HN.out with ⟨h1,h2⟩|⟨h1,h2⟩
    ·subst h1 h2;exact .inl ⟨by rw[hZ];exact hd,rfl,ha,hg⟩
    ·have hrun:eG (bC b) (rd s) p q:=⟨hpq,HL.out,by rw[hZ];exact hd⟩
     refine .inr (.inl ⟨N,q,?_,rfl,ha,hg⟩);rw[R8 hrun h1,<- HV.out,if_neg (by omega),h2]
   clear hZ hV hN
   cases hdc:aS Z
   ·cases hal:aH Z
    ·have hd:bC b Z=false:=by
      unfold bC
      have:iN Z=16:=by
       unfold aS at hdc;unfold aH at hal;simp at hdc hal;unfold iN;rw[if_neg (by omega),if_neg (by omega),if_neg (by omega)]
      rw[this];simp;exact oL
     have ay:=ay hd;have D8:=hh9 hdc;have rE:=hh9 hal;have q99:b<=99:=by omega
     clear hd hdc hal HST;go_wp2_with fail
     refine(aQ HA.out hs (by omega) _ HZ.out).mono ?_;rintro e w1 ⟨rfl,hbw⟩;have HA1:=hh9 (HA.out.below hbw);have aT:=hh9 (dw HG.out hbw);clear hbw c0 c1 c2 z0 z1 z2;go_wp2_with fail
     refine(xE _ _).mono ?_;rw[D8.out];rintro e w' ⟨rfl,rfl⟩;go_wp2_with fail
     refine(wh _ _).mono ?_;rw[rE.out];rintro e w' ⟨rfl,rfl⟩;go_wp2_with fail
     go_ret;exact ay.out _ HA1.out aT.out
    ·have hor:=Ud Z hal;obtain⟨M,hM⟩:∃ x,x=low Z:=⟨_,rfl⟩
     rw[<- hM]at hor
     have hMr:97<=M/\M<=122:=by
      have:=H7.1 hal;rw[hM];unfold low;split<;>omega
     have vE:iN Z=if M<=102 then M-87 else 16:=by
      have:=H7.1 hal;rw[hM];unfold iN low;split<;>split<;>(try split)<;>(try split)<;>omega
     have D8:=hh9 hdc;have rE:=hh9 hal;have ng:=hh9 hM;clear hdc hal hM;have q99:b<=99:=by omega
     have rV:65<=Z/\Z<=122:=by have:=H7.1 rE.out;omega
     by_cases hm:M<=102
     ·rw[if_pos hm]at vE;rw[vE]at HST;by_cases hge:b<=M-87
      ·have ay:=ay (by unfold bC;rw[vE];simp;omega);clear vE HST;go_wp2_with fail
       refine(aQ HA.out hs (by omega) _ HZ.out).mono ?_;rintro e w1 ⟨rfl,hbw⟩;have HA1:=hh9 (HA.out.below hbw);have aT:=hh9 (dw HG.out hbw);clear hbw c0 c1 c2 z0 z1 z2;go_wp2_with fail
       refine(xE _ _).mono ?_;rw[D8.out];rintro e w' ⟨rfl,rfl⟩;go_wp2_with fail
       refine(wh _ _).mono ?_;rw[rE.out];rintro e w' ⟨rfl,rfl⟩;go_wp2_with fail
       go_ret;exact ay.out _ HA1.out aT.out
      ·obtain⟨Ue,hda⟩:=kW (by unfold bC;rw[vE];simp;omega);have kW:=hh9 hda;clear vE hda;go_wp2_with fail
       refine(aQ HA.out hs (by omega) _ HZ.out).mono ?_;rintro e w1 ⟨rfl,hbw⟩;have HA1:=hh9 (HA.out.below hbw);have aT:=hh9 (dw HG.out hbw);clear hbw c0 c1 c2 z0 z1 z2;go_wp2_with fail
       refine(xE _ _).mono ?_;rw[D8.out];rintro e w' ⟨rfl,rfl⟩;go_wp2_with fail
       refine(wh _ _).mono ?_;rw[rE.out];rintro e w' ⟨rfl,rfl⟩;by_cases hov:lim<V*b+(M-87)
       ·go_wp2_with fail
        refine(tZ HA1.out 2).mono ?_;rintro e w2 ⟨rfl,ha,hg⟩;have HA2:=hh9 ha;have HG2:=hh9 (aT.out.trans hg);obtain⟨d0,d1,d2,y0,y1,y2⟩:=ha.cells;clear ha hg;go_wp2_with fail
        go_roundw
        case rel=>exact⟨_,q+1,2,rfl,HA2.out.step,fu HG2.out _ _,by omega,by omega,kW.out,.inr ⟨rfl,by omega,by rw[<- HST.out];exact hov⟩⟩
        case measure =>
         rw[HM.out,HA2.out.step.pos];omega
       ·obtain⟨d0,d1,d2,y0,y1,y2⟩:=HA1.out.cells;go_wp2_with fail
        go_roundw
        case rel=>exact⟨_,q+1,0,rfl,HA1.out.step,fu aT.out _ _,by omega,by omega,kW.out,.inl ⟨rfl,by rw[<- HST.out];omega,by rw[<- HST.out];omega,.inr ⟨by omega,HST.out⟩⟩⟩
        case measure =>
         rw[HM.out,HA1.out.step.pos];omega
     ·rw[if_neg hm]at vE;have ay:=ay (by unfold bC;rw[vE];simp;omega);clear vE HST;go_wp2_with fail
      refine(aQ HA.out hs (by omega) _ HZ.out).mono ?_;rintro e w1 ⟨rfl,hbw⟩;have HA1:=hh9 (HA.out.below hbw);have aT:=hh9 (dw HG.out hbw);clear hbw c0 c1 c2 z0 z1 z2;go_wp2_with fail
      refine(xE _ _).mono ?_;rw[D8.out];rintro e w' ⟨rfl,rfl⟩;go_wp2_with fail
      refine(wh _ _).mono ?_;rw[rE.out];rintro e w' ⟨rfl,rfl⟩;go_wp2_with fail
      go_ret;exact ay.out _ HA1.out aT.out
   ·have rV:48<=Z/\Z<=57:=by unfold aS at hdc;simp at hdc;omega
    have vE:iN Z=Z-48:=by unfold iN;rw[if_pos rV]
    have D8:=hh9 hdc;clear hdc;rw[vE]at HST;by_cases hge:b<=Z-48
    ·have ay:=ay (by unfold bC;rw[vE];simp;omega);clear vE HST;go_wp2_with fail
     refine(aQ HA.out hs (by omega) _ HZ.out).mono ?_;rintro e w1 ⟨rfl,hbw⟩;have HA1:=hh9 (HA.out.below hbw);have aT:=hh9 (dw HG.out hbw);clear hbw c0 c1 c2 z0 z1 z2;go_wp2_with fail
     refine(xE _ _).mono ?_;rw[D8.out];rintro e w' ⟨rfl,rfl⟩;go_wp2_with fail
     go_ret;exact ay.out _ HA1.out aT.out
    ·obtain⟨Ue,hda⟩:=kW (by unfold bC;rw[vE];simp;omega);have kW:=hh9 hda;clear vE hda;go_wp2_with fail
     refine(aQ HA.out hs (by omega) _ HZ.out).mono ?_;rintro e w1 ⟨rfl,hbw⟩;have HA1:=hh9 (HA.out.below hbw);have aT:=hh9 (dw HG.out hbw);clear hbw c0 c1 c2 z0 z1 z2;go_wp2_with fail
     refine(xE _ _).mono ?_;rw[D8.out];rintro e w' ⟨rfl,rfl⟩;by_cases hov:lim<V*b+(Z-48)
     ·go_wp2_with fail
      refine(tZ HA1.out 2).mono ?_;rintro e w2 ⟨rfl,ha,hg⟩;have HA2:=hh9 ha;have HG2:=hh9 (aT.out.trans hg);obtain⟨d0,d1,d2,y0,y1,y2⟩:=ha.cells;clear ha hg;go_wp2_with fail
      go_roundw
      case rel=>exact⟨_,q+1,2,rfl,HA2.out.step,fu HG2.out _ _,by omega,by omega,kW.out,.inr ⟨rfl,by omega,by rw[<- HST.out];exact hov⟩⟩
      case measure =>
       rw[HM.out,HA2.out.step.pos];omega
     ·obtain⟨d0,d1,d2,y0,y1,y2⟩:=HA1.out.cells;go_wp2_with fail
      go_roundw
      case rel=>exact⟨_,q+1,0,rfl,HA1.out.step,fu aT.out _ _,by omega,by omega,kW.out,.inl ⟨rfl,by rw[<- HST.out];omega,by rw[<- HST.out];omega,.inr ⟨by omega,HST.out⟩⟩⟩
      case measure =>
       rw[HM.out,HA1.out.step.pos];omega
  ·have HE:=hh9 (qb8 hb2 oL (by omega) hlt HL.out hov);have HD:=hh9 (HL.out p (zbA _) hlt);clear hov;go_wp2_with fail
   go_ret;exact .inr (.inr ⟨HD.out,HE.out,q,aR,rfl,HA.out,HG.out⟩)
theorem zi7{R p:Nat}{c:Int}{s:ByteArray}{w:World}(b lim:Int)(h:bL w R s p c)(hc:c≠0) :
  Calls Tryz.prog 97 #[.pointer (some ⟨R,0,none⟩),.int .i64 b,.int .i64 lim] w (aW R s (.int .i64 (-1)) p c w):=by
 obtain⟨c0,c1,c2,z0,z1,z2⟩:=h.cells;have H:=hh9 h;have q1:(c==0)=false:=by simpa using hc
 clear h;go_enter Tryz.func97,Tryz.ntmps97;go_wp2_with fail
 go_loopw [7] (fun _ wr=>wr=w) (fun _ wr=>0)
 case atStart=>rfl
 case round =>
  subst hrel;go_wp2_with fail
  go_ret;exact⟨rfl,H.out,iq _ _⟩
theorem Uf(W:World)(c:Int)(h0:0<=c)(h1:c<=255) :
  (convert 22 9 (.slice (some ⟨W.heap.size,0,none⟩) 1 1)).run Tryz.prog (W.alloc (.cells #[.int .u8 c] 5))=.ok (.string (ak [c])) (W.alloc (.cells #[.int .u8 c] 5)):=by
 have h:=run_convert_bytes_back (P:=Tryz.prog) (W.alloc (.cells #[.int .u8 c] 5)) 22 9 5 ⟨W.heap.size,0,none⟩ 1 [ig c] Tryz.underlying22 Tryz.underlying5 Tryz.underlying9 (fun j hj=>by
  have hj0:j=0:=by simp at hj;exact hj
  subst hj0;have e:((ig c).toNat:Int)=c:=by unfold ig;simp;omega
  show World.cell? _ ⟨W.heap.size,0,none⟩=some (.int .u8 ((ig c).toNat:Int))
  rw[e];unfold World.cell?;show (match (W.alloc _).heap[W.heap.size]? with|some (.cells c elem frozen)=>c[0]?|x=>none)=_
  rw[zbO];rfl)
 exact h
theorem OX(x y:List Int):ak x++ak y=ak (x++y):=by
 apply ByteArray.ext;unfold ak;simp
theorem qcg{x:List Int}(h:0<x.length):ak x≠⟨#[]⟩:=by
 intro g;have:=congrArg ByteArray.size g;rw[eP]at this;have e:(⟨#[]⟩:ByteArray).size=0:=rfl;omega
theorem Ug{s:ByteArray}(h:0<s.size):s.toList.isEmpty=false:=by
 rw[Lib.toList_data]
 cases g:s.data.toList with
 |nil =>
  have:s.size=0:=by
   show s.data.size=0
   rw[<- Array.length_toList,g];rfl
  omega
 |cons a l=>rfl
theorem OY{c:Int}(h0:0<=c)(h1:c<=255):0<=low c/\low c<=255:=by unfold low;split<;>omega
theorem qb9(f:Nat->Int)(p n:Nat):cut f p (n+1)=cut f p n++[f (p+n)]:=by unfold cut;rw[List.range_succ];simp
def Lr(R:Nat)(s:ByteArray)(p:Nat)(w:World)(e:Ending)(w':World):Prop :=
 (aH (rd s p)=false/\aW R s (.string (ak [])) p 20 w e w') \/
 (aH (rd s p)=true/\∃ x q,lU (rd s) p=.ok x q/\aW R s (.string (ak x)) q 0 w e w') \/
 (aH (rd s p)=true/\lU (rd s) p=.err 2/\∃ x q,q<=s.size/\aW R s (.string (ak x)) q 2 w e w')
def qdm(R:Nat)(s:ByteArray)(p:Nat)(w wr:World)(x:List Int)(q:Nat):Prop :=
 bL wr R s q 0/\w.grownBy wr (some R)/\p<=q/\q<=s.size/\x=(cut (rd s) p (q-p)).map low/\(∀ i,p<=i->i<q->dM (rd s i)=true)/\(p<q->aH (rd s p)=true)
theorem zpw{R p:Nat}{s:ByteArray}{w:World}(h:bL w R s p 0)(hs:s.size<=50000)(hp:p<=s.size) :
  Calls Tryz.prog 41 #[.pointer (some ⟨R,0,none⟩)] w (Lr R s p w):=by
 have H:=hh9 h;clear h;go_enter Tryz.func41,Tryz.ntmps41;go_wp2_with fail
 refine(aQ H.out hs (by omega) _ rfl).mono ?_;rintro e w0 ⟨rfl,hbw⟩;have jO:=hh9 (H.out.below hbw);have Ba:=hh9 (dw (iq w (some R)) hbw);clear hbw;go_wp2_with fail
 go_loopw [3,4] (fun v u wr=>∃ x:List Int,∃ q:Nat,v=.string (ak x)/\u=.int .i64 (rd s q)/\qdm R s p w wr x q) (fun _ _ wr=>s.size-qH R wr)
 case atStart=>exact⟨[],p,rfl,rfl,jO.out,Ba.out,zbA _,hp,by rw[Nat.sub_self];rfl,fun i h1 h2=>absurd h1 (by omega),fun g=>absurd g (by omega)⟩
 case round =>
  obtain⟨x,q,rfl,rfl,ha,hg,hpq,aR,hx,hall,xG⟩:=hrel;have hxl:x.length=q-p:=by rw[hx,List.length_map,Kn]
  have HA:=hh9 ha;have HG:=hh9 hg;have HM:=hh9 ha.pos;have HX:=hh9 hx;have HL:=hh9 hall;obtain⟨c0,c1,c2,z0,z1,z2⟩:=ha.cells;obtain⟨Z,hZ⟩:∃ y,rd s q=y:=⟨_,rfl⟩
  rw[hZ];have rV:=H6 s q;rw[hZ]at rV;obtain⟨T,hT⟩:∃ T,T=ak x:=⟨_,rfl⟩
  have hTs:T.size=q-p:=by rw[hT,eP,hxl]
  rw[<- hT];have HT:=hh9 hT;have HZ:=hh9 hZ
  cases hnm:(aH Z||(decide (p<q)&&dM Z))
  ·obtain⟨g1,g2⟩:aH Z=false/\(p<q->dM Z=false):=by
    simp at hnm;exact hnm
   have G1:=hh9 g1;by_cases hlt:p<q
   ·have g3:=g2 hlt
    obtain⟨g4,g5⟩:aS Z=false/\Z≠45:=by
     unfold dM at g3;rw[g1]at g3;simpa using g3
    have G4:=hh9 g4;have JA:(Z==45)=false:=by simpa using g5
    have hne:T≠⟨#[]⟩:=by rw[hT];exact qcg (by omega)
    have hemp:T.toList.isEmpty=false:=Ug (by omega);have hrun:eG dM (rd s) p q:=⟨hpq,hall,by rw[hZ];exact g3⟩
    have kN:=hh9 (xG hlt);have HN:Hid (lU (rd s) p=if 40<q-p then .err 2 else .ok x q):=by unfold lU;rw[hrun.eq,hx];exact rfl
    clear hZ hT hx hall xG hnm g1 g2 g3 g4 hrun hne;by_cases hlong:40<q-p
    ·have hts:40<T.size:=by omega
     have gY:Hid (lU (rd s) p=.err 2):=by rw[HN.out,if_pos hlong];exact rfl
     clear hTs;go_wp2_with fail
     refine(wh _ _).mono ?_;rw[G1.out];rintro e w' ⟨rfl,rfl⟩;go_wp2_with fail
     refine(xE _ _).mono ?_;rw[G4.out];rintro e w' ⟨rfl,rfl⟩;go_wp2_with fail
     refine(tZ HA.out 2).mono ?_;rintro e w2 ⟨rfl,ha,hg⟩;have HA2:=hh9 ha;have HG2:=hh9 (HG.out.trans hg);clear ha hg c0 c1 c2 z0 z1 z2;go_wp2_with fail
     go_ret;rw[HT.out];exact .inr (.inr ⟨kN.out,gY.out,x,q,aR,rfl,HA2.out,HG2.out⟩)
    ·have hts:T.size<=40:=by omega
     have gY:Hid (lU (rd s) p=.ok x q):=by rw[HN.out,if_neg hlong];exact rfl
     clear hTs;go_wp2_with fail
     refine(wh _ _).mono ?_;rw[G1.out];rintro e w' ⟨rfl,rfl⟩;go_wp2_with fail
     refine(xE _ _).mono ?_;rw[G4.out];rintro e w' ⟨rfl,rfl⟩;go_wp2_with fail
     go_ret;rw[HT.out];exact .inr (.inl ⟨kN.out,x,q,gY.out,rfl,HA.out,HG.out⟩)
   ·obtain rfl:p=q:=by omega
    obtain rfl:x=[]:=List.length_eq_zero_iff.1 (by omega);have hT0:T=⟨#[]⟩:=hT;clear hT HT hTs;subst hT0;have G1':Hid (aH (rd s p)=false):=by rw[hZ];exact g1
    clear hZ hx hall xG hnm g1 g2 HL HX;go_wp2_with fail
    refine(wh _ _).mono ?_;rw[G1.out];rintro e w' ⟨rfl,rfl⟩;go_wp2_with fail
    refine(tZ HA.out 20).mono ?_;rintro e w2 ⟨rfl,ha,hg⟩;have HA2:=hh9 ha;have HG2:=hh9 (HG.out.trans hg);clear ha hg c0 c1 c2 z0 z1 z2;go_wp2_with fail
    go_ret;exact .inl ⟨G1'.out,rfl,HA2.out,HG2.out⟩
  ·have zJ:dM Z=true:=by
    unfold dM at hnm ⊢
    cases ha:aH Z
    ·rw[ha]at hnm;simp at hnm ⊢;exact hnm.2
    ·rfl
   have xW:0<=Z:=(Sk Z zJ).1;have hZ1:Z<=255:=by have:=(Sk Z zJ).2;omega
   have hlt:q<s.size:=fP xW hZ;have bT:Hid (∀ i,p<=i->i<q+1->dM (rd s i)=true):=Cc (P:=dM) hall (by rw[hZ];exact zJ)
   have Uh:Hid (x++[low Z]=(cut (rd s) p (q+1-p)).map low):=by
    rw[show q+1-p=(q-p)+1 by omega,qb9,List.map_append,<- hx,show p+(q-p)=q by omega,hZ];exact rfl
   have hR:=ha.lt;have Ak:T.size<=50000:=by omega
   have Qy:(ak [low Z]).size=1:=rfl;have kc:=fun (W:World)=>Uf W (low Z) (OY xW hZ1).1 (OY xW hZ1).2
   have kN:Hid (aH (rd s p)=true):=by
    by_cases g:p<q
    ·exact xG g
    ·obtain rfl:p=q:=by omega
     rw[hZ];have:aH Z=true:=by simpa using hnm
     exact this
   cases g1:aH Z
   ·obtain⟨g2,g3⟩:p<q/\(aS Z=true\/Z=45):=by
     rw[g1]at hnm;simp at hnm;refine⟨hnm.1,?_⟩;have:=hnm.2;unfold dM at this;rw[g1]at this;simpa using this
    have hne:T≠⟨#[]⟩:=by rw[hT];exact qcg (by omega)
    have hemp:T.toList.isEmpty=false:=Ug (by omega);have G1:=hh9 g1;clear hZ hT hx hall xG hnm zJ g1 hTs
    cases g4:aS Z
    ·have JA:Z=45:=by
      rcases g3 with g|g
      ·rw[g4]at g;cases g
      ·exact g
     have zaK:(Z==45)=true:=by simpa using JA
     have G4:=hh9 g4;clear g3 g4 JA;go_wp2_with fail
     refine(wh _ _).mono ?_;rw[G1.out];rintro e w' ⟨rfl,rfl⟩;go_wp2_with fail
     refine(xE _ _).mono ?_;rw[G4.out];rintro e w' ⟨rfl,rfl⟩;go_wp2_with fail
     refine(OV _ xW hZ1 _).mono ?_;rintro e w' ⟨rfl,rfl⟩;go_wp2_with fail
     have HA2:=hh9 (HA.out.step.alloc (.cells #[.int .u8 (low Z)] 5));have HG2:=hh9 (dn (fu HG.out 1 (.int .i64 ((q:Int)+1))) (.cells #[.int .u8 (low Z)] 5));refine(aQ HA2.out hs (by omega) _ rfl).mono ?_;rintro e w3 ⟨rfl,hbw⟩;have aC:=hh9 (HA2.out.below hbw);have aG:=hh9 (dw HG2.out hbw);clear hbw;go_wp2_with fail
     go_roundw
     case rel=>exact⟨x++[low Z],q+1,by rw[<- OX,<- HT.out],rfl,aC.out,aG.out,by omega,by omega,Uh.out,bT.out,fun _=>kN.out⟩
     case measure =>
      rw[HM.out,aC.out.pos];omega
    ·have G4:=hh9 g4;clear g3 g4;go_wp2_with fail
     refine(wh _ _).mono ?_;rw[G1.out];rintro e w' ⟨rfl,rfl⟩;go_wp2_with fail
     refine(xE _ _).mono ?_;rw[G4.out];rintro e w' ⟨rfl,rfl⟩;go_wp2_with fail
     refine(OV _ xW hZ1 _).mono ?_;rintro e w' ⟨rfl,rfl⟩;go_wp2_with fail
     have HA2:=hh9 (HA.out.step.alloc (.cells #[.int .u8 (low Z)] 5));have HG2:=hh9 (dn (fu HG.out 1 (.int .i64 ((q:Int)+1))) (.cells #[.int .u8 (low Z)] 5));refine(aQ HA2.out hs (by omega) _ rfl).mono ?_;rintro e w3 ⟨rfl,hbw⟩;have aC:=hh9 (HA2.out.below hbw);have aG:=hh9 (dw HG2.out hbw);clear hbw;go_wp2_with fail
     go_roundw
     case rel=>exact⟨x++[low Z],q+1,by rw[<- OX,<- HT.out],rfl,aC.out,aG.out,by omega,by omega,Uh.out,bT.out,fun _=>kN.out⟩
     case measure =>
      rw[HM.out,aC.out.pos];omega
   ·have G1:=hh9 g1;clear hZ hT hx hall xG hnm zJ g1 hTs;go_wp2_with fail
    refine(wh _ _).mono ?_;rw[G1.out];rintro e w' ⟨rfl,rfl⟩;go_wp2_with fail
    refine(OV _ xW hZ1 _).mono ?_;rintro e w' ⟨rfl,rfl⟩;go_wp2_with fail
    have HA2:=hh9 (HA.out.step.alloc (.cells #[.int .u8 (low Z)] 5));have HG2:=hh9 (dn (fu HG.out 1 (.int .i64 ((q:Int)+1))) (.cells #[.int .u8 (low Z)] 5));refine(aQ HA2.out hs (by omega) _ rfl).mono ?_;rintro e w3 ⟨rfl,hbw⟩;have aC:=hh9 (HA2.out.below hbw);have aG:=hh9 (dw HG2.out hbw);clear hbw;go_wp2_with fail
    go_roundw
    case rel=>exact⟨x++[low Z],q+1,by rw[<- OX,<- HT.out],rfl,aC.out,aG.out,by omega,by omega,Uh.out,bT.out,fun _=>kN.out⟩
    case measure =>
     rw[HM.out,aC.out.pos];omega
theorem dX.under{W W':World}{X:XV}{t:Tree}(h:dX W (fun _=>True) X t)(hb:Below W.heap.size W W'):dX W' (fun _=>True) X t:=h.kept (M:=fun _=>False) (zap.below hb) (fun b _ _=>⟨id,trivial⟩)
def FK(W:World)(y:RV)(r:GR):Prop:=y.name=ak r.name/\bJ r.name/\dX W (fun _=>True) y.expr r.expr
theorem FK.under{W W':World}{y:RV}{r:GR}(h:FK W y r)(hb:Below W.heap.size W W'):FK W' y r:=⟨h.1,h.2.1,h.2.2.under hb⟩
def Ls(t:Tree)(w:World)(e:Ending)(w':World):Prop:=∃ k tx lo hi a1 n1 c1 a2 n2 c2,e=.returned (.agg #[.int .i64 k,.string tx,.slice a1 n1 c1,.int .i64 lo,.int .i64 hi,.slice a2 n2 c2])/\dX w' (fun _=>True) ⟨k,tx,.slice a1 n1 c1,lo,hi,.slice a2 n2 c2⟩ t/\Below w.heap.size w w'
theorem OZ{w:World}{g:Nat}(hg:w.heap.size<=g){W:World}(hb:Below w.heap.size w W)(X:XV):Below w.heap.size w (W.setRow g (XV.arr X)) :=
 ⟨hb.os,hb.tape,hb.output,by have:=hb.size;simp[World.setRow];omega,fun k hk=>(setRow_other _ _ _ _ (by omega)).trans (hb.block k hk)⟩
theorem Ui{W:World}{k:Int}{x:List Int}(h:bJ x):dX W (fun _=>True) ⟨k,ak x,.slice none 0 0,0,0,.slice none 0 0⟩ (.mk k x [] 0 0 []) :=
 dX.mk (nums:=[]) (kids:=[]) [] h.1 h.2 (.inl ⟨rfl,_,_,rfl⟩) (.inl ⟨rfl,_,_,rfl⟩) rfl (fun i y t h=>by simp at h)
theorem zt6{w:World}{S:ByteArray}{x:List Int}(hS:S=ak x)(hx:bJ x):Calls Tryz.prog 56 #[.string S] w (Ls (bZ x) w):=by
 have aV:=hh9 (fG w);have HB:=hh9 (OZ (zbA _) ((zbE w.heap.size w).alloc (zbA _) (.cells #[.int .i64 0,.string ⟨#[]⟩,.slice none 0 0,.int .i64 0,.int .i64 0,.slice none 0 0] 29)) ⟨4,S,.slice none 0 0,0,0,.slice none 0 0⟩);have HS:=hh9 hS;clear hS;go_enter Tryz.func56,Tryz.ntmps56;go_wp2_with (refine bA rfl _ _ rfl w.heap.size ⟨4,S,.slice none 0 0,0,0,.slice none 0 0⟩ rfl rfl aV.out rfl rfl ?_)
 exact bodyPost_ret_by (zag rfl _ _ w.heap.size ⟨4,S,.slice none 0 0,0,0,.slice none 0 0⟩ rfl aV.out) rfl ⟨_,_,_,_,_,_,_,_,_,_,rfl,by rw[HS.out];exact Ui hx,HB.out⟩
theorem zpy{W:World}{k:Int}{b:Nat}{cs:Array Value}{ns:List Int}(h:W.heap[b]?=some (.cells cs 3 (0,0)))(hc:cs.toList=dA ns)(hn:ns.length<=1000):dX W (fun _=>True) ⟨k,⟨#[]⟩,.slice (some ⟨b,0,none⟩) ns.length ns.length,0,0,.slice none 0 0⟩ (.mk k [] ns 0 0 []):=by
 refine dX.mk (x:=[]) (kids:=[]) [] (by simp) (by simp) (.inr ⟨b,0,ns.length,rfl,zbA _,by unfold maxLen;omega,⟨_,_,by unfold KT;decide,h⟩,trivial,fun j u hj=>?_⟩) (.inl ⟨rfl,_,_,rfl⟩) rfl (fun i y t h=>by simp at h);unfold World.cell?;simp only[h,Nat.zero_add];rw[<- hc]at hj;simpa using hj
theorem qba{w:World}{n:Int}:Calls Tryz.prog 58 #[.int .i64 n] w (Ls (mX n) w):=by
 have aV:=hh9 ((fG w).kept (zbP (w.alloc (.cells #[.int .i64 0,.string ⟨#[]⟩,.slice none 0 0,.int .i64 0,.int .i64 0,.slice none 0 0] 29)) (.cells #[.int .i64 n] 3) w.heap.size (by simp)));have hb:Below w.heap.size w ((w.alloc (.cells #[.int .i64 0,.string ⟨#[]⟩,.slice none 0 0,.int .i64 0,.int .i64 0,.slice none 0 0] 29)).alloc (.cells #[.int .i64 n] 3)):=((zbE _ _).alloc (zbA _) _).alloc (by simp) _;have hn:=zbO (w.alloc (.cells #[.int .i64 0,.string ⟨#[]⟩,.slice none 0 0,.int .i64 0,.int .i64 0,.slice none 0 0] 29)) (.cells #[.int .i64 n] 3);rw[World.size_alloc]at hn;have HB:=hh9 (OZ (zbA _) hb ⟨6,⟨#[]⟩,.slice (some ⟨w.heap.size+1,0,none⟩) 1 1,0,0,.slice none 0 0⟩);have HT:=hh9 (zpy (W:=(((w.alloc (.cells #[.int .i64 0,.string ⟨#[]⟩,.slice none 0 0,.int .i64 0,.int .i64 0,.slice none 0 0] 29)).alloc (.cells #[.int .i64 n] 3)).setRow w.heap.size (XV.arr ⟨6,⟨#[]⟩,.slice (some ⟨w.heap.size+1,0,none⟩) 1 1,0,0,.slice none 0 0⟩))) (k:=6) (ns:=[n]) ((setRow_other _ _ _ _ (by omega)).trans hn) rfl (by simp));clear hb hn;go_enter Tryz.func58,Tryz.ntmps58;go_wp2_with (refine bA rfl _ _ rfl w.heap.size ⟨6,⟨#[]⟩,.slice (some ⟨w.heap.size+1,0,none⟩) 1 1,0,0,.slice none 0 0⟩ rfl rfl aV.out rfl rfl ?_)
 exact bodyPost_ret_by (zag rfl _ _ w.heap.size ⟨6,⟨#[]⟩,.slice (some ⟨w.heap.size+1,0,none⟩) 1 1,0,0,.slice none 0 0⟩ rfl aV.out) rfl ⟨_,_,_,_,_,_,_,_,_,_,rfl,HT.out,HB.out⟩
theorem zy8{w:World}{n m:Int}:Calls Tryz.prog 57 #[.int .i64 n,.int .i64 m] w (Ls (jK n m) w):=by
 have aV:=hh9 ((fG w).kept (zbP (w.alloc (.cells #[.int .i64 0,.string ⟨#[]⟩,.slice none 0 0,.int .i64 0,.int .i64 0,.slice none 0 0] 29)) (.cells #[.int .i64 n,.int .i64 m] 3) w.heap.size (by simp)));have hb:Below w.heap.size w ((w.alloc (.cells #[.int .i64 0,.string ⟨#[]⟩,.slice none 0 0,.int .i64 0,.int .i64 0,.slice none 0 0] 29)).alloc (.cells #[.int .i64 n,.int .i64 m] 3)):=((zbE _ _).alloc (zbA _) _).alloc (by simp) _;have hn:=zbO (w.alloc (.cells #[.int .i64 0,.string ⟨#[]⟩,.slice none 0 0,.int .i64 0,.int .i64 0,.slice none 0 0] 29)) (.cells #[.int .i64 n,.int .i64 m] 3);rw[World.size_alloc]at hn;have HB:=hh9 (OZ (zbA _) hb ⟨7,⟨#[]⟩,.slice (some ⟨w.heap.size+1,0,none⟩) 2 2,0,0,.slice none 0 0⟩);have HT:=hh9 (zpy (W:=(((w.alloc (.cells #[.int .i64 0,.string ⟨#[]⟩,.slice none 0 0,.int .i64 0,.int .i64 0,.slice none 0 0] 29)).alloc (.cells #[.int .i64 n,.int .i64 m] 3)).setRow w.heap.size (XV.arr ⟨7,⟨#[]⟩,.slice (some ⟨w.heap.size+1,0,none⟩) 2 2,0,0,.slice none 0 0⟩))) (k:=7) (ns:=[n,m]) ((setRow_other _ _ _ _ (by omega)).trans hn) rfl (by simp));clear hb hn;go_enter Tryz.func57,Tryz.ntmps57;go_wp2_with (refine bA rfl _ _ rfl w.heap.size ⟨7,⟨#[]⟩,.slice (some ⟨w.heap.size+1,0,none⟩) 2 2,0,0,.slice none 0 0⟩ rfl rfl aV.out rfl rfl ?_)
 exact bodyPost_ret_by (zag rfl _ _ w.heap.size ⟨7,⟨#[]⟩,.slice (some ⟨w.heap.size+1,0,none⟩) 2 2,0,0,.slice none 0 0⟩ rfl aV.out) rfl ⟨_,_,_,_,_,_,_,_,_,_,rfl,HT.out,HB.out⟩
def zK(W:World)(v:Value)(vs:List XV)(l:List Tree):Prop:=iL W (fun _=>True) v l.length (vs.flatMap XV.cells)/\vs.length=l.length/\∀ (i:Nat) (y:XV) (t:Tree),vs[i]?=some y->l[i]?=some t->dX W (fun _=>True) y t
theorem zK.under{W W':World}{v:Value}{vs:List XV}{l:List Tree}(h:zK W v vs l)(hb:Below W.heap.size W W'):zK W' v vs l:=⟨h.1.kept (M:=fun _=>False) (zap.below hb) (fun b _ _=>⟨id,trivial⟩),h.2.1,fun i y t hy ht=>(h.2.2 i y t hy ht).under hb⟩
theorem zK.tree{W:World}{v:Value}{vs:List XV}{l:List Tree}(h:zK W v vs l)(k lo hi:Int):dX W (fun _=>True) ⟨k,⟨#[]⟩,.slice none 0 0,lo,hi,v⟩ (.mk k [] [] lo hi l) :=
 dX.mk (x:=[]) (nums:=[]) vs (by simp) (by simp) (.inl ⟨rfl,_,_,rfl⟩) h.1 h.2.1 h.2.2
theorem zpz{w:World}{a:Option Addr}{n c:Nat}{vs:List XV}{l:List Tree}(h:zK w (.slice a n c) vs l):Calls Tryz.prog 55 #[.slice a n c] w (Ls (jh l) w) :=
 Y8.mono fun e w' ⟨he,hb⟩=>⟨_,_,_,_,_,_,_,_,_,_,he,(h.under hb).tree 1 0 0,hb⟩
def FL(c:Int):XV:=⟨5,ak [c],.slice none 0 0,0,0,.slice none 0 0⟩
def lG(X:XV)(i:Nat):List XV:=X::(List.range i).map fun (j:Nat)=>FL (97+(j:Int))
def zL(i:Nat):List Tree:=bZ iQ::(List.range i).map fun (j:Nat)=>dH [97+(j:Int)]
theorem zy9(X:XV)(i:Nat):lG X (i+1)=lG X i++[FL (97+(i:Int))]:=by
 unfold lG;rw[List.range_succ,List.map_append,List.cons_append];rfl
theorem zt7(i:Nat):(zL i).length=i+1:=by simp[zL]
theorem O1(X:XV)(i:Nat):(lG X i).length=i+1:=by simp[lG]
theorem qbb{W:World}{X:XV}{v:Value}{base i:Nat}(hi:i<=20)(hX:dX W (fun _=>True) X (bZ iQ))(hr:W.ownsRow base 29 6 v (i+1) ((lG X i).flatMap XV.cells)):zK W v (lG X i) (zL i):=by
 refine⟨by rw[zt7];exact iL.oI (by unfold KT;decide) hr (fun _ _=>trivial),by rw[O1,zt7],fun j y t hy ht=>?_⟩
 cases j with
 |zero =>
  simp[lG,zL]at hy ht;subst hy ht;exact hX
 |succ j =>
  simp only[lG,zL,List.getElem?_cons_succ,List.getElem?_map]at hy ht
  cases hj:(List.range i)[j]? with
  |none=>rw[hj]at hy;cases hy
  |some q =>
   rw[hj]at hy ht;have e1:=zbB hy;have e2:=zbB ht;subst e1 e2;have hq:=zbI hj;rw[List.mem_range]at hq;exact Ui ⟨fun c hc=>by simp at hc;subst hc;omega,by simp⟩
theorem qex{W W':World}{X:XV}{x:List Int}(h:dX W (fun _=>True) X (bZ x)):dX W' (fun _=>True) X (bZ x):=by
 unfold bZ at h ⊢;generalize ht:Tree.mk 4 x [] 0 0 []=t at h
 cases h with
 |mk vs h0 hl h1 h2 h3 h4 =>
  simp only[Tree.mk.injEq]at ht;obtain⟨rfl,rfl,rfl,rfl,rfl,rfl⟩:=ht;refine .mk vs h0 hl ?_ ?_ h3 (fun i y t hy ht=>by simp at ht)
  ·rcases h1 with h|⟨g,off,cap,e,_⟩
   ·exact .inl h
   ·exact .inl ⟨rfl,_,_,e⟩
  ·rcases h2 with h|⟨g,off,cap,e,_⟩
   ·exact .inl h
   ·exact .inl ⟨rfl,_,_,e⟩
end Go.Proofs.YtahibnnhjahmnaaGreatDoor
