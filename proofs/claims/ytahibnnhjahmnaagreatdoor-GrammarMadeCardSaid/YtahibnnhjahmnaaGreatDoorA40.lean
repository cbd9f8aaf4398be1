/- Part 40 of what the laws of the grammar rest on. -/
import Derived.Test.YtahibnnhjahmnaaGreatDoorA39
import Derived.Deep.CutBlock
set_option linter.all false
set_option maxRecDepth 100000
set_option maxHeartbeats 8000000
namespace Go.Proofs.YtahibnnhjahmnaaGreatDoor
open Go.RowKit
theorem qbw{Z:Int}(h0:0<=Z)(h1:Z<=255)(h:oz Z=98):kP Z=.base 2:=by
 have:Z=98\/Z=66:=by unfold oz at h;split at h<;>omega
 rcases this with rfl|rfl<;>rfl
theorem qbx{Z:Int}(h0:0<=Z)(h1:Z<=255)(h:oz Z=100):kP Z=.base 10:=by
 have:Z=100\/Z=68:=by unfold oz at h;split at h<;>omega
 rcases this with rfl|rfl<;>rfl
theorem qby{Z:Int}(h0:0<=Z)(h1:Z<=255)(h:oz Z=120):kP Z=.base 16:=by
 have:Z=120\/Z=88:=by unfold oz at h;split at h<;>omega
 rcases this with rfl|rfl<;>rfl
theorem qf9{Z:Int}(h0:0<=Z)(h1:Z<=255)(h:oz Z=105):kP Z=.text false:=by
 have:Z=105\/Z=73:=by unfold oz at h;split at h<;>omega
 rcases this with rfl|rfl<;>rfl
theorem qfa{Z:Int}(h0:0<=Z)(h1:Z<=255)(h:oz Z=115):kP Z=.text true:=by
 have:Z=115\/Z=83:=by unfold oz at h;split at h<;>omega
 rcases this with rfl|rfl<;>rfl
theorem zyx{Z:Int}(h:Z<0\/(0<=Z/\Z<=255/\oz Z≠98/\oz Z≠100/\oz Z≠120/\oz Z≠105/\oz Z≠115)):kP Z=.none:=by
 have hz:Z≠115/\Z≠83/\Z≠105/\Z≠73/\Z≠98/\Z≠66/\Z≠100/\Z≠68/\Z≠120/\Z≠88:=by
  rcases h with h|⟨h0,h1,h⟩
  ·omega
  ·unfold oz at h;split at h<;>omega
 obtain⟨a1,a2,a3,a4,a5,a6,a7,a8,a9,a10⟩:=hz;unfold kP;simp[a1,a2,a3,a4,a5,a6,a7,a8,a9,a10]
theorem zrt{R p:Nat}{c:Int}{s:ByteArray}{w:World}(b:Int)(h:bL w R s p c)(hc:c≠0) :
  Calls Tryz.prog 144 #[.pointer (some ⟨R,0,none⟩),.int .i64 b] w (aW R s (.int .i64 (-1)) p c w):=by
 have H:=hh9 h;clear h;go_enter Tryz.func144,Tryz.ntmps144;go_wp2_with fail
 refine(zi7 b 1114111 H.out hc).mono ?_;rintro e w1 ⟨rfl,ha,hg⟩;have HA:=hh9 ha;have HG:=hh9 hg;clear ha hg;go_wp2_with fail
 refine(FH HA.out hc 20).mono ?_;rintro e w2 ⟨rfl,ha,hg⟩;have HA2:=hh9 ha;have HG2:=hh9 (HG.out.trans hg);clear ha hg;go_wp2_with fail
 go_ret;exact⟨rfl,HA2.out,HG2.out⟩
def IJ(b c0:Int)(s:ByteArray)(p:Nat)(v:Int)(q:Nat)(c:Int):Prop :=
 (c0=0/\c=0/\p<q/\q<=s.size/\fC b 1114111 (rd s) p=.ok v q)\/(c0=0/\c≠0/\q<=s.size/\v=-1/\fC b 1114111 (rd s) p=.err c)\/(c0≠0/\c=c0/\q=p/\v=-1)
theorem Va{R p:Nat}{c0:Int}{s:ByteArray}{w:World}(b:Int)(hb:b=2\/b=10\/b=16)(h:bL w R s p c0)(hs:s.size<=50000)(hp:c0=0->p<=s.size) :
  Calls Tryz.prog 144 #[.pointer (some ⟨R,0,none⟩),.int .i64 b] w fun e w'=>∃ (v:Int) (q:Nat) (c:Int),aW R s (.int .i64 v) q c w e w'/\-1<=v/\v<=1114111/\IJ b c0 s p v q c:=by
 by_cases hc:c0=0
 ·subst hc;refine(zyq b hb h hs (hp rfl)).mono ?_;rintro e w' (⟨v,q,hn,hg⟩|⟨c,hc,hn,q,hq,hg⟩)
  ·have h1:=DR (by omega) (hp rfl) hn;have h2:=Oi (by omega) hn
   have h3:v<=1114111:=by
    unfold fC at hn;split at hn
    ·cases hn
    ·split at hn
     ·cases hn
     ·cases hn;omega
   exact⟨v,q,0,hg,by omega,h3,.inl ⟨rfl,rfl,h1.1,h1.2,hn⟩⟩
  ·exact⟨-1,q,c,hg,by omega,by omega,.inr (.inl ⟨rfl,hc,hq,rfl,hn⟩)⟩
 ·refine(zrt b h hc).mono ?_;intro e w' hg;exact⟨-1,p,c0,hg,by omega,by omega,.inr (.inr ⟨hc,rfl,rfl,rfl⟩)⟩
def qC(s:ByteArray)(p:Nat)(t:Tree)(q:Nat)(c:Int):Prop:=(c=0/\p<=q/\q<=s.size/\∀ d,aK (rd s) .elem d p (.ok t q))\/(c≠0/\q<=s.size+3/\∀ d,aK (rd s) .elem d p (.err c))
def vI(R:Nat)(s:ByteArray)(p:Nat)(w:World)(e:Ending)(w':World):Prop :=
 ∃ (x:XV) (t:Tree) (q:Nat) (c:Int),av w' (fun b=>w.heap.size<=b) x t/\aW R s x.val q c w e w'/\qC s p t q c
def aX(R:Nat)(s:ByteArray)(E:Nat)(k:Int)(w wr:World)(V:Value)(l:List Int)(q:Nat)(c:Int):Prop :=
 oh wr E k ⟨#[]⟩ V/\wr.ownsRow (w.heap.size+1) 3 1 V l.length (dA l)/\some E≠V.ownBlock/\bL wr R s q c/\w.grownBy wr (some R)/\bg wr w.heap.size/\w.heap.size+1<=E
theorem aX.grown{R:Nat}{s:ByteArray}{E:Nat}{k:Int}{w W W':World}{V:Value}{l:List Int}{q q':Nat}{c c':Int}(h:aX R s E k w W V l q c)(hg:W.grownBy W' (some R))(ha:bL W' R s q' c')(hR:R<w.heap.size):aX R s E k w W' V l q' c':=by
 obtain⟨h1,h2,h3,h4,h5,h6,h7⟩:=h;exact⟨h1.kept hg (fun e=>by have:=zbB e;omega),E5 h2 hg (by omega),h3,ha,h5.trans hg,bG h6 hg (by omega),h7⟩
theorem aX.below{R:Nat}{s:ByteArray}{E:Nat}{k:Int}{w W W':World}{V:Value}{l:List Int}{q:Nat}{c:Int}(h:aX R s E k w W V l q c)(hb:Below W.heap.size W W'):aX R s E k w W' V l q c:=by
 obtain⟨h1,h2,h3,h4,h5,h6,h7⟩:=h;exact⟨(hb.block E h1.lt).trans h1,zvm h2 hb,h3,h4.below hb,dw h5 hb,h6.kept (hb.block _ h6.lt),h7⟩
theorem aX.alloc{R:Nat}{s:ByteArray}{E:Nat}{k:Int}{w W:World}{V:Value}{l:List Int}{q:Nat}{c:Int}(h:aX R s E k w W V l q c)(o:Obj):aX R s E k w (W.alloc o) V l q c :=
 h.below ((zbE _ _).alloc (zbA _) _)
theorem aX.drew{R:Nat}{s:ByteArray}{E:Nat}{k:Int}{w W:World}{V:Value}{l:List Int}{q:Nat}{c:Int}(h:aX R s E k w W V l q c):aX R s E k w W.drew V l q c :=
 ⟨h.1,h.2.1.drew,h.2.2.1,h.2.2.2.1,bY h.2.2.2.2.1 1,h.2.2.2.2.2.1,h.2.2.2.2.2.2⟩
theorem aX.put{R:Nat}{s:ByteArray}{E:Nat}{k:Int}{w W:World}{V:Value}{l:List Int}{q q':Nat}{c:Int}(h:aX R s E k w W V l q c)(hR:R<w.heap.size){x:Int}(hx:x=q'):aX R s E k w (W.setCell ⟨R,1,none⟩ (.int .i64 x)) V l q' c :=
 h.grown (fu (iq W (some R)) 1 (.int .i64 x)) (h.2.2.2.1.put hx) hR
theorem aX.kind{R:Nat}{s:ByteArray}{E:Nat}{k:Int}{w W:World}{V:Value}{l:List Int}{q:Nat}{c:Int}(h:aX R s E k w W V l q c)(hR:R<w.heap.size)(k':Int):aX R s E k' w (W.setCell ⟨E,0,none⟩ (.int .i64 k')) V l q c:=by
 obtain⟨h1,h2,h3,h4,h5,h6,h7⟩:=h;refine⟨h1.kind k',?_,h3,h4.kI (by omega) _ _,II h5 (by omega) _ _,MF h6 (by omega) _ _,h7⟩;refine⟨h2.1,?_⟩;rcases h2.2 with h0|⟨g,cap,cur,hv,hg,hh,r⟩
 ·exact .inl h0
 ·refine .inr ⟨g,cap,cur,hv,hg,(zbQ _ _ _ _ (fun e=>h3 ?_)).trans hh,r⟩;rw[hv];simp only[Value.ownBlock];have e':g=E:=e;rw[e']
theorem aX.push{R:Nat}{s:ByteArray}{E:Nat}{k:Int}{w W W':World}{V:Value}{l:List Int}{q:Nat}{c:Int}(h:aX R s E k w W V l q c)(hR:R<w.heap.size){gg cap:Nat}{u:Int}
  (hown:W'.ownsRow (w.heap.size+1) 3 1 (.slice (some ⟨gg,0,none⟩) (l.length+1) cap) (l.length+1) (dA l++[.int .i64 u])) (hgrow:W.grownBy W' V.ownBlock) (hat:V.ownBlock=some gg\/gg=W.heap.size) :
  aX R s E k w (W'.setCell ⟨E,2,none⟩ (.slice (some ⟨gg,0,none⟩) (l.length+1) cap)) (.slice (some ⟨gg,0,none⟩) (l.length+1) cap) (l++[u]) q c:=by
 obtain⟨h1,h2,h3,h4,h5,h6,h7⟩:=h;have hlt:=h1.lt
 have OE:gg≠E:=by
  rcases hat with h|h
  ·exact fun e=>h3 (by rw[h,e])
  ·omega
 have h2':=Sm (W:=W') hown;refine⟨(h1.kept hgrow h3).nums _,?_,by simp only[Value.ownBlock];exact fun e=>OE (zbB e).symm,(h4.kept hgrow (Gh h2 (by omega))).kI (by omega) _ _,II (zif h5 h2 (by omega) hgrow) (by omega) _ _,MF (h6.kept (hgrow.block _ h6.lt (Gh h2 (by omega)))) (by omega) _ _,h7⟩
 have hb:(W'.setCell ⟨E,2,none⟩ (.slice (some ⟨gg,0,none⟩) (l.length+1) cap)).ownsRow (w.heap.size+1) 3 1 (.slice (some ⟨gg,0,none⟩) (l.length+1) cap) (l++[u]).length (dA (l++[u])):=by
  refine⟨h2'.1,?_⟩;rcases h2'.2 with h0|⟨g,cap,cur,hv,hg,hh,r⟩
  ·exact .inl h0
  ·refine .inr ⟨g,cap,cur,hv,hg,(zbQ _ _ _ _ ?_).trans hh,r⟩;simp at hv;show g≠E
   omega
 exact hb
theorem aX.drewN{R:Nat}{s:ByteArray}{E:Nat}{k:Int}{w W:World}{V:Value}{l:List Int}{q:Nat}{c:Int}(h:aX R s E k w W V l q c)(n:Nat):aX R s E k w (W.drewN n) V l q c :=
 ⟨h.1,V9 h.2.1 n,h.2.2.1,h.2.2.2.1,bY h.2.2.2.2.1 n,h.2.2.2.2.2.1,h.2.2.2.2.2.2⟩
theorem IK{R:Nat}{s:ByteArray}{E:Nat}{k:Int}{w W:World}{V:Value}{l:List Int}{p q:Nat}{c:Int}(h:aX R s E k w W V l q c)(hR:R<w.heap.size)(ho:qC s p (.mk k [] l 0 0 []) q c) :
  vI R s p w (.returned (XV.val ⟨k,⟨#[]⟩,V,0,0,.slice none 0 0⟩)) (W.setRow w.heap.size (XV.arr ⟨k,⟨#[]⟩,V,0,0,.slice none 0 0⟩)) :=
 ⟨_,.mk k [] l 0 0 [],q,c,((Jk (P:=fun b=>w.heap.size+1<=b) k h.2.1 (fun b hb=>hb)).aj (fun b hb=>by omega) _).weak (fun b hb _=>by omega),⟨rfl,h.2.2.2.1.aj (by omega) _,dY h.2.2.2.2.1 (zbA _) _⟩,ho⟩
theorem IL{W:World}{base size n:Nat}{e:TypeId}{v:Value}{xs:List Value}(h:W.ownsRow base e size v n xs):v.oneCell'=true:=by rcases fB h with ⟨rfl,_⟩|⟨g,cap,rfl⟩<;>rfl
def Vb(b:Int)(s:ByteArray)(p:Nat)(l:List Int)(q:Nat)(c:Int):Prop :=
 (c=0/\p<=q/\q<=s.size/\∀ d r,aK (rd s) (.dots b l) d q r->aK (rd s) .elem d p r)\/(c≠0/\q<=s.size+1/\∀ d,aK (rd s) .elem d p (.err c))
theorem zvd{b:Int}{s:ByteArray}{p p2 q:Nat}{v c:Int}(hV:∀ d r,aK (rd s) (.nums b) d p2 r->aK (rd s) .elem d p r)(hp:p<=p2)(h1:IJ b 0 s p2 v q c)(h45:rd s q≠45):Vb b s p [v] q c:=by
 rcases h1 with ⟨_,rfl,a1,a2,a3⟩|⟨_,a1,a2,a3,a4⟩|⟨a1,_⟩
 ·exact .inl ⟨rfl,by omega,a2,fun d r hr=>hV d r (.nums a3 h45 hr)⟩
 ·exact .inr ⟨a1,by omega,fun d=>hV d _ (.gF a4)⟩
 ·exact absurd rfl a1
theorem zyz{b:Int}{s:ByteArray}{p q q2:Nat}{l:List Int}{v c:Int}(hp:p<=q)(hall:∀ d r,aK (rd s) (.dots b l) d q r->aK (rd s) .elem d p r)(h46:rd s q=46)(h1:IJ b 0 s (q+1) v q2 c):Vb b s p (l++[v]) q2 c/\(c=0->q<q2)/\q2<=s.size:=by
 rcases h1 with ⟨_,rfl,a1,a2,a3⟩|⟨_,a1,a2,a3,a4⟩|⟨a1,_⟩
 ·exact⟨.inl ⟨rfl,by omega,a2,fun d r hr=>hall d r (.jV h46 a3 hr)⟩,fun _=>by omega,a2⟩
 ·exact⟨.inr ⟨a1,by omega,fun d=>hall d _ (.jm h46 a4)⟩,fun g=>absurd g a1,a2⟩
 ·exact absurd rfl a1
theorem qbz{b:Int}{s:ByteArray}{p p2 q1 q2:Nat}{v v2 c1 c2:Int}(hV:∀ d r,aK (rd s) (.nums b) d p2 r->aK (rd s) .elem d p r)(hp:p<=p2)(h1:IJ b 0 s p2 v q1 c1)(h45:rd s q1=45)(h2:IJ b c1 s (q1+1) v2 q2 c2)(t:Tree) :
  (c2=0->v2<v->qC s p t q2 20)/\(c2=0->¬ v2<v->qC s p (.mk 7 [] [v,v2] 0 0 []) q2 0)/\(c2≠0->qC s p t q2 c2):=by
 rcases h1 with ⟨_,rfl,a1,a2,a3⟩|⟨_,a1,a2,a3,a4⟩|⟨a1,_⟩
 ·rcases h2 with ⟨_,rfl,b1,b2,b3⟩|⟨_,b1,b2,b3,b4⟩|⟨b1,_⟩
  ·exact⟨fun _ g=>.inr ⟨by omega,by omega,fun d=>hV d _ (.fF a3 h45 b3 g)⟩,fun _ g=>.inl ⟨rfl,by omega,by omega,fun d=>hV d _ (.span a3 h45 b3 g)⟩,fun g=>absurd rfl g⟩
  ·exact⟨fun g=>absurd g b1,fun g=>absurd g b1,fun _=>.inr ⟨b1,by omega,fun d=>hV d _ (.gX a3 h45 b4)⟩⟩
  ·exact absurd rfl b1
 ·rcases h2 with ⟨b0,_⟩|⟨b0,_⟩|⟨b0,rfl,rfl,b3⟩
  ·exact absurd b0 a1
  ·exact absurd b0 a1
  ·exact⟨fun g=>absurd g a1,fun g=>absurd g a1,fun _=>.inr ⟨a1,by omega,fun d=>hV d _ (.gF a4)⟩⟩
 ·exact absurd rfl a1
theorem qe0{W:World}{base size n:Nat}{e:TypeId}{v:Value}{xs:List Value}(h:W.ownsRow base e size v n xs){E:Nat}(hE:some E≠v.ownBlock)(cs:Array Value):(W.setRow E cs).ownsRow base e size v n xs:=by
 refine⟨h.1,?_⟩;rcases h.2 with h0|⟨g,cap,cur,hv,hg,hh,r⟩
 ·exact .inl h0
 ·refine .inr ⟨g,cap,cur,hv,hg,(setRow_other _ _ _ _ (fun e=>hE ?_)).trans hh,r⟩;rw[hv];simp[Value.ownBlock,e]
theorem Vd{b C:Int}(MH:(C=98/\b=2)\/(C=100/\b=10)\/(C=120/\b=16)){R p:Nat}{s:ByteArray}{w:World}(h:bL w R s p 0)(hs:s.size<=50000)(h37:rd s p=37)(hC:oz (rd s (p+1))=C)(h0:0<=rd s (p+1)) :
  Calls Tryz.prog 119 #[.pointer (some ⟨R,0,none⟩)] w (vI R s p w):=by
 obtain⟨i0,hi0,hi1⟩:=Option.map_eq_some_iff.1 Om;obtain⟨hz0,MI,MJ⟩:i0.zero=some (.int .i64 0)/\i0.size=1/\i0.bytes=8:=by simpa using hi1
 clear hi1;have hR:=h.lt;have hlt:=fP (by omega) h37;obtain⟨p1,hp1⟩:∃ p1,p+1=p1:=⟨_,rfl⟩
 obtain⟨p2,hp2⟩:∃ p2,p1+1=p2:=⟨_,rfl⟩
 obtain⟨c0,c1,c2,z0,z1,z2⟩:=h.cells;have HA1:=hh9 ((h.put (x:=(p:Int)+1) (q:=p1) (by omega)).alloc (.cells #[.int .i64 0,.string ⟨#[]⟩,.slice none 0 0,.int .i64 0,.int .i64 0,.slice none 0 0] 29));have aT:=hh9 (dn (fu (iq w (some R)) 1 (.int .i64 ((p:Int)+1))) (.cells #[.int .i64 0,.string ⟨#[]⟩,.slice none 0 0,.int .i64 0,.int .i64 0,.slice none 0 0] 29))
 have HR1:Hid (bg ((w.setCell ⟨R,1,none⟩ (.int .i64 ((p:Int)+1))).alloc (.cells #[.int .i64 0,.string ⟨#[]⟩,.slice none 0 0,.int .i64 0,.int .i64 0,.slice none 0 0] 29)) w.heap.size):=by
  have g:=fG (w.setCell ⟨R,1,none⟩ (.int .i64 ((p:Int)+1)));rwa[show (w.setCell ⟨R,1,none⟩ (.int .i64 ((p:Int)+1))).heap.size=w.heap.size by simp]at g
 have hz1:w.heap.size+1<=((w.setCell ⟨R,1,none⟩ (.int .i64 ((p:Int)+1))).alloc (.cells #[.int .i64 0,.string ⟨#[]⟩,.slice none 0 0,.int .i64 0,.int .i64 0,.slice none 0 0] 29)).heap.size:=by simp
 have rV:=H6 s p1;obtain⟨Z,hZ⟩:∃ z,rd s p1=z:=⟨_,rfl⟩
 rw[hZ]at rV;have HZ:=hh9 hZ;have jB:=hh9 h37;have iJ:=hh9 hp1;have fZ:=hh9 hp2;have e1:p1+1<=p2/\p2<=p1+1/\p+1<=p1/\p1<=p+1/\p1<=s.size:=by omega
 obtain⟨e1,e2,e3,e4,e5⟩:=e1;have lq:Hid (kP Z=.none->∀ d,aK (rd s) .elem d p (.err 20)):=fun g d=>.kD h37 (by rw[hp1,hZ];exact g)
 clear h h37 hZ hp1 hp2;rw[iJ.out,HZ.out]at hC h0;have hlt1:p1<s.size:=fP h0 HZ.out;have vJ:=Uc Z (by omega) (by omega);have hor:bits .or .i64 Z 32=C:=by rw[vJ,hC]
 have zO:Hid (kP (rd s p1)=.base b):=by
  rw[HZ.out];rcases MH with ⟨rfl,rfl⟩|⟨rfl,rfl⟩|⟨rfl,rfl⟩
  ·exact qbw h0 (by omega) hC
  ·exact qbx h0 (by omega) hC
  ·exact qby h0 (by omega) hC
 have hbb:b=2\/b=10\/b=16:=by omega
 have jX:=hh9 hbb;have qb:(b==0)=false:=by simp;omega
 have HCB:=hh9 MH;clear hbb MH;have hle2:p2<=s.size:=by omega
 have hV2:Hid (∀ d r,aK (rd s) (.nums b) d p2 r->aK (rd s) .elem d p r):=by
  have g1:=iJ.out;have g2:=fZ.out;have e:p2=p+2:=by omega
  rw[e];exact fun d r hr=>.value jB.out (by rw[g1];exact zO.out) hr
 clear lq hC vJ;go_enter Tryz.func119,Tryz.ntmps119;go_wp2_with fail
 refine(aQ HA1.out hs (by omega) _ HZ.out).mono ?_;rintro e w2 ⟨rfl,hb⟩;have HA2:=hh9 (HA1.out.below hb);have HG2:=hh9 (dw aT.out hb);have HR2:=hh9 (HR1.out.kept (hb.block _ HR1.out.lt));have hz2:w.heap.size+1<=w2.heap.size:=zbH hz1 hb.size;clear hb;go_wp2_with fail
 refine(aQ HA2.out hs (by omega) _ HZ.out).mono ?_;rintro e w3 ⟨rfl,hb⟩;have aC:=hh9 (HA2.out.below hb);have aG:=hh9 (dw HG2.out hb);have HR3:=hh9 (HR2.out.kept (hb.block _ HR2.out.lt));have hz3:w.heap.size+1<=w3.heap.size:=zbH hz2 hb.size;obtain⟨d0,d1,d2,y0,y1,y2⟩:=aC.out.cells;clear hb HA1 aT HR1 HA2 HG2 HR2 hz1 hz2 c0 c1 c2 z0 z1 z2
 go_upto_block 0 with fail
 go_cut [4]from 20 to 42 (fun s4 W=>s4=.int .i64 b/\w3=W)
 case first =>
  have MH:=HCB.out;rcases MH with ⟨rfl,rfl⟩|⟨rfl,rfl⟩|⟨rfl,rfl⟩
  all_goals
   go_wp2_with fail
   go_meet;exact⟨rfl,rfl⟩
 obtain⟨rfl,rfl⟩:=hcut;clear HCB hor;have bf:=hh9 (aC.out.put (x:=(p1:Int)+1) (q:=p2) (by omega));have bD:=hh9 (fu aG.out 1 (.int .i64 ((p1:Int)+1)));have HR4:Hid (bg (w3.setCell ⟨R,1,none⟩ (.int .i64 ((p1:Int)+1))) w.heap.size):=zdt HR3.out (by omega);have dF:w.heap.size+1<=(w3.setCell ⟨R,1,none⟩ (.int .i64 ((p1:Int)+1))).heap.size:=by simpa using hz3
 clear aC aG HR3 hz3;go_wp2_with fail
 refine(Va b jX.out bf.out hs (fun _=>hle2)).mono ?_;rintro e w4 ⟨v,q1,c1,⟨rfl,ha,hg⟩,hv1,hv2,hout⟩;have tF:=hh9 hout
 have hq1:q1<=s.size/\(c1=0->p2<q1):=by
  rcases hout with ⟨_,g1,g2,g3,_⟩|⟨_,g1,g2,_⟩|⟨g1,_⟩
  ·exact⟨g3,fun _=>g2⟩
  ·exact⟨g2,fun g=>absurd g g1⟩
  ·exact absurd rfl g1
 obtain⟨Ve,Vf⟩:=hq1;have rT:w.heap.size+1<=w4.heap.size:=zbH dF hg.size;obtain⟨N,hN⟩:∃ N,w4.heap.size=N:=⟨_,rfl⟩
 have HN:=hh9 hN;have hA5:=(ha.alloc (.cells #[.int .i64 v] 3)).alloc (.cells #[.int .i64 0,.string ⟨#[]⟩,.slice none 0 0,.int .i64 0,.int .i64 0,.slice none 0 0] 29);have hG5:=dn (dn (bD.out.trans hg) (.cells #[.int .i64 v] 3)) (.cells #[.int .i64 0,.string ⟨#[]⟩,.slice none 0 0,.int .i64 0,.int .i64 0,.slice none 0 0] 29);have hR5:=lV (lV (bG HR4.out hg (by omega)) (.cells #[.int .i64 v] 3)) (.cells #[.int .i64 0,.string ⟨#[]⟩,.slice none 0 0,.int .i64 0,.int .i64 0,.slice none 0 0] 29);have hO5:=(Ym w4 (w.heap.size+1) rT v).alloc (.cells #[.int .i64 0,.string ⟨#[]⟩,.slice none 0 0,.int .i64 0,.int .i64 0,.slice none 0 0] 29)
 have vF:bg ((w4.alloc (.cells #[.int .i64 v] 3)).alloc (.cells #[.int .i64 0,.string ⟨#[]⟩,.slice none 0 0,.int .i64 0,.int .i64 0,.slice none 0 0] 29)) (w4.heap.size+1):=by
  have g:=fG (w4.alloc (.cells #[.int .i64 v] 3));rwa[show (w4.alloc (.cells #[.int .i64 v] 3)).heap.size=w4.heap.size+1 by simp]at g
 obtain⟨W,hW⟩:∃ W,W=((w4.alloc (.cells #[.int .i64 v] 3)).alloc (.cells #[.int .i64 0,.string ⟨#[]⟩,.slice none 0 0,.int .i64 0,.int .i64 0,.slice none 0 0] 29)).setRow (w4.heap.size+1) (XV.arr ⟨6,⟨#[]⟩,.slice (some ⟨w4.heap.size,0,none⟩) 1 1,0,0,.slice none 0 0⟩):=⟨_,rfl⟩
 have O8:=hh9 vF
 have H0:Hid (aX R s (N+1) 6 w W (.slice (some ⟨N,0,none⟩) 1 1) [v] q1 c1):=by
  rw[hW,<- hN];refine⟨wF vF _,qe0 hO5 (by simp[Value.ownBlock]) _,by simp[Value.ownBlock],hA5.aj (by omega) _,dY hG5 (by omega) _,Ai hR5 _ (by omega),by omega⟩
 have HW:=hh9 hW;have hNE:w.heap.size+1<=N:=by omega
 clear ha hg hout bf bD HR4 dF hN hA5 hG5 hR5 hO5 vF hW d0 d1 d2 y0 y1 y2;go_wp2_with (refine bA rfl _ _ rfl (w4.heap.size+1) ⟨6,⟨#[]⟩,.slice (some ⟨w4.heap.size,0,none⟩) 1 1,0,0,.slice none 0 0⟩ rfl rfl O8.out rfl rfl ?_)
 rw[<- HW.out,HN.out];clear rT O8 HW HN;obtain⟨E,hE⟩:∃ E,N+1=E:=⟨_,rfl⟩
 rw[hE]at H0 ⊢;obtain⟨V,hV⟩:∃ V,Value.slice (some ⟨N,0,none⟩) 1 1=V:=⟨_,rfl⟩
 rw[hV]at H0;have zaU:w.heap.size+1<=E:=by omega
 clear hE hV;by_cases h45:rd s q1=45
 ·have AV:=hh9 h45;have zaB:q1<s.size:=fP (by omega) h45;clear h45;go_wp2_with fail
  refine(aQ H0.out.2.2.2.1 hs (by omega) _ AV.out).mono ?_;rintro e w6 ⟨rfl,hb⟩;have pR:=hh9 (H0.out.below hb);clear hb H0;obtain⟨f0,f1,f2,g0,g1,g2⟩:=pR.out.1.cells;obtain⟨d0,d1,d2,y0,y1,y2⟩:=(pR.out.kind hR 7).2.2.2.1.cells;obtain⟨qx,MK⟩:∃ qx,q1+1=qx:=⟨_,rfl⟩
  have Gi:(q1:Int)+1=(qx:Int):=by omega
  obtain⟨WX,Gj⟩:∃ WX,WX=(w6.setCell ⟨E,0,none⟩ (.int .i64 7)).setCell ⟨R,1,none⟩ (.int .i64 (qx:Int)):=⟨_,rfl⟩
  have bT:Hid (aX R s E 7 w WX V [v] qx c1):=by rw[Gj];exact(pR.out.kind hR 7).put hR rfl
  have ML:=hh9 Gj;have MN:Hid (c1=0->qx<=s.size):=fun _=>by omega
  have nY:=hh9 MK;clear Gj MK;go_wp2_with fail
  rw[<- ML.out];clear f0 f1 f2 g0 g1 g2 d0 d1 d2 y0 y1 y2 pR ML Gi;obtain⟨l,hl⟩:∃ l,[v]=l:=⟨_,rfl⟩
  have hll:l.length<=60000:=by rw[<- hl];simp
  rw[hl]at bT;have HL:=hh9 hl;have yE:Hid (l.length+1<=maxLen):=(by unfold maxLen;omega:l.length+1<=maxLen)
  have HL2:Hid ((l.length+1)*8<=140737488355328):=(by omega:(l.length+1)*8<=140737488355328)
  obtain⟨kx,hkx⟩:∃ kx:Int,kx=7:=⟨_,rfl⟩
  obtain⟨cx,hcx⟩:∃ cx:Int,cx=c1:=⟨_,rfl⟩
  rw[<- hkx,<- hcx]at bT;rw[<- hcx]at MN;have PL:=hh9 hkx;have lF:=hh9 hcx;clear hl hkx hcx;go_cut [5]from 71 to 78 (fun s5 W7=>s5=.pointer (some ⟨E,0,none⟩)/\∃ (v2:Int) (q2:Nat) (c2:Int) (V2:Value),Hid (aX R s E kx w W7 V2 (l++[v2]) q2 c2)/\Hid (IJ b cx s qx v2 q2 c2)/\-1<=v2/\v2<=1114111)
  case first =>
   obtain⟨he,hrow,hne,ha,hg,hr,hle⟩:=bT.out;obtain⟨f0,f1,f2,g0,g1,g2⟩:=he.cells;have Vg:Hid (bL WX.drew R s qx cx):=ha;have Gl:Hid (aX R s E kx w WX.drew V l qx cx):=bT.out.drew;have Gm:w.heap.size+1<=WX.heap.size:=by have:=he.lt;omega
   have Vh:=he.lt;clear he hrow hne ha hg hr
   go_region_law (first
    |(refine step_append_lies _ (by rfl) _ _ _ (by rfl) (w.heap.size+1) 3 i0 _ 1 8 Tryz.underlying26 hi0 hz0 MI MJ rfl (by omega) V l.length (dA l) (by rfl) yw.out.2.1 ⟨w7.heap.size,0,none⟩ 1 1 [.int .i64 v2] (by rfl) (by rfl) (World.news_of_block (cs:=#[.int .i64 v2]) (t:=3) (fr:=(0,0)) (zbO w7 _)) (by simp[Value.oneCell']) (by omega) yE.out HL2.out Bo.out (w7.heap.size+1) (by simp) ?_;intro gg cap w8 hown1 hgrow hat Ey;have jI:=hh9 (yw.out.push hR hown1 hgrow (hat.elim (fun h=>.inl h) (fun h=>.inr (by rw[h];simp))));have he1:=yw.out.1.kept hgrow yw.out.2.2.1;obtain⟨v0,v1,v3,r0,r1,r2⟩:=he1.cells;clear he1 hown1 hgrow hat)
    |(go_simp;go_at_call 144;refine(Va b jX.out Vg.out hs MN.out).mono ?_;rintro e w7 ⟨v2,q2,c2,⟨rfl,MO,Gn⟩,Gp,Gq,hout2⟩;have o9:=hh9 hout2;have CO:=hh9 (Gl.out.grown Gn MO hR);have hw7:w.heap.size+1<=w7.heap.size:=zbH Gm Gn.size;have yw:=hh9 (CO.out.alloc (.cells #[.int .i64 v2] 3));have Bo:Hid (w.heap.size+1<=(w7.alloc (.cells #[.int .i64 v2] 3)).heap.size):=(by simp;omega:w.heap.size+1<=(w7.alloc (.cells #[.int .i64 v2] 3)).heap.size);obtain⟨k0,k1,k2,m0,m1,m2⟩:=CO.out.1.cells;obtain⟨n0,n1,n2,o0,o1,o2⟩:=yw.out.1.cells;clear MO Gn hout2))
   all_goals
    go_wp2_with fail
    go_meet;exact⟨rfl,v2,q2,c2,_,jI,o9,Gp,Gq⟩
  case rest =>
   obtain⟨rfl,v2,q2,c2,V2,CO,o9,Gp,Gq⟩:=hcut;obtain⟨h1,h2,h3⟩:=qbz (t:=.mk 7 [] [v,v2] 0 0 []) hV2.out (by omega) tF.out AV.out (by have:=o9.out;rw[lF.out,<- nY.out]at this;exact this);have IQ:aX R s E 7 w wc V2 [v,v2] q2 c2:=by have:=CO.out;rw[PL.out,<- HL.out]at this;exact this
   have hrow:wc.ownsRow (w.heap.size+1) 3 1 V2 2 [.int .i64 v,.int .i64 v2]:=IQ.2.1;obtain⟨g,cap,rfl⟩:=(fB hrow).resolve_left (fun h=>by have:=h.2;omega);have r0:=eZ hrow (j:=0) (u:=.int .i64 v) rfl;have r1:=eZ hrow (j:=1) (u:=.int .i64 v2) rfl;obtain⟨f0,f1,f2,g0,g1,g2⟩:=IQ.1.cells;have jH:=hh9 IQ;clear hrow IQ CO o9 lF PL HL tF hV2;by_cases hlt:v2<v
   ·have qd:decide (v2<v)=true:=zbN hlt;by_cases hc2:c2=0
    ·have ay:=hh9 (h1 hc2 hlt);subst hc2;clear h1 h2 h3 hlt;go_wp2_with fail
     go_loopw [] (fun wr=>wr=wc) (fun _=>0)
     case atStart=>exact rfl
     subst hrel;go_wp2_with fail
     go_quiet (fail)
     go_wp2_with fail
     refine(tZ (jH.out.drewN _).2.2.2.1 20).mono ?_;rintro e w9 ⟨rfl,ha,hg⟩;have jI:=hh9 ((jH.out.drewN _).grown hg ha hR);clear ha hg;have H2:=hh9 (IL jI.out.2.1);have HRR:=hh9 jI.out.2.2.2.2.2.1;have oD:=hh9 jI.out.1
     go_wp2_with (first
      |(refine mO rfl _ rfl E ⟨7,⟨#[]⟩,(.slice (some ⟨g,0,none⟩) 2 cap),0,0,.slice none 0 0⟩ rfl oD.out ?_)
      |(refine bA rfl _ _ rfl w.heap.size ⟨7,⟨#[]⟩,(.slice (some ⟨g,0,none⟩) 2 cap),0,0,.slice none 0 0⟩ rfl rfl HRR.out H2.out rfl ?_))
     exact bodyPost_ret_by (zag rfl _ _ w.heap.size ⟨7,⟨#[]⟩,(.slice (some ⟨g,0,none⟩) 2 cap),0,0,.slice none 0 0⟩ rfl HRR.out) rfl (IK jI.out hR ay.out)
    ·have ay:=hh9 (h3 hc2);clear h1 h2 h3 hlt;go_wp2_with fail
     go_loopw [] (fun wr=>wr=wc) (fun _=>0)
     case atStart=>exact rfl
     subst hrel;go_wp2_with fail
     go_quiet (fail)
     go_wp2_with fail
     refine(FH (jH.out.drewN _).2.2.2.1 hc2 20).mono ?_;rintro e w9 ⟨rfl,ha,hg⟩;have jI:=hh9 ((jH.out.drewN _).grown hg ha hR);clear ha hg;have H2:=hh9 (IL jI.out.2.1);have HRR:=hh9 jI.out.2.2.2.2.2.1;have oD:=hh9 jI.out.1
     go_wp2_with (first
      |(refine mO rfl _ rfl E ⟨7,⟨#[]⟩,(.slice (some ⟨g,0,none⟩) 2 cap),0,0,.slice none 0 0⟩ rfl oD.out ?_)
      |(refine bA rfl _ _ rfl w.heap.size ⟨7,⟨#[]⟩,(.slice (some ⟨g,0,none⟩) 2 cap),0,0,.slice none 0 0⟩ rfl rfl HRR.out H2.out rfl ?_))
     exact bodyPost_ret_by (zag rfl _ _ w.heap.size ⟨7,⟨#[]⟩,(.slice (some ⟨g,0,none⟩) 2 cap),0,0,.slice none 0 0⟩ rfl HRR.out) rfl (IK jI.out hR ay.out)
   ·have qd:decide (v2<v)=false:=zbM hlt
    have ay:Hid (qC s p (.mk 7 [] [v,v2] 0 0 []) q2 c2):=by
     by_cases hc2:c2=0
     ·rw[hc2];exact h2 hc2 hlt
     ·exact h3 hc2
    clear h1 h2 h3 hlt;go_wp2_with fail
    go_loopw [] (fun wr=>wr=wc) (fun _=>0)
    case atStart=>exact rfl
    case round =>
     subst hrel;go_wp2_with fail
     go_quiet (fail)
     have jI:=hh9 (jH.out.drewN nq);have H2:=hh9 (IL jI.out.2.1);have HRR:=hh9 jI.out.2.2.2.2.2.1;have oD:=hh9 jI.out.1
     go_wp2_with (first
      |(refine mO rfl _ rfl E ⟨7,⟨#[]⟩,(.slice (some ⟨g,0,none⟩) 2 cap),0,0,.slice none 0 0⟩ rfl oD.out ?_)
      |(refine bA rfl _ _ rfl w.heap.size ⟨7,⟨#[]⟩,(.slice (some ⟨g,0,none⟩) 2 cap),0,0,.slice none 0 0⟩ rfl rfl HRR.out H2.out rfl ?_))
     exact bodyPost_ret_by (zag rfl _ _ w.heap.size ⟨7,⟨#[]⟩,(.slice (some ⟨g,0,none⟩) 2 cap),0,0,.slice none 0 0⟩ rfl HRR.out) rfl (IK jI.out hR ay.out)
 ·have HD0:=hh9 (zvd hV2.out (by omega) tF.out h45);obtain⟨Y,hY⟩:∃ z,rd s q1=z:=⟨_,rfl⟩
  have qy:(Y==45)=false:=by rw[<- hY];simpa using h45
  have HY:=hh9 hY;clear hY h45 hV2 tF;go_wp2_with fail
  refine(aQ H0.out.2.2.2.1 hs (by omega) _ HY.out).mono ?_;rintro e w6 ⟨rfl,hb⟩;have pR:=hh9 (H0.out.below hb);clear hb H0 HY;go_wp2_with fail
  clear qy;go_loopw [] (fun wr=>∃ (V:Value) (l:List Int) (q:Nat) (c:Int),Hid (aX R s E 6 w wr V l q c)/\l.length<=60000/\(c=0->l.length<=q+1)/\q<=60000/\Hid (Vb b s p l q c)) (fun wr=>IG R s.size wr)
  case atStart=>exact⟨V,[v],q1,c1,pR,by simp,fun _=>by simp,by omega,HD0⟩
  case round =>
   clear pR HD0 Vf Ve;obtain⟨V,l,qc,cx,HN,uH,hlq,FZ,HD⟩:=hrel;have HM:=hh9 (HN.out.2.2.2.1.meas s.size);obtain⟨f0,f1,f2,g0,g1,g2⟩:=HN.out.1.cells;rcases HD.out with ⟨hc0,hpq,aR,hall⟩|⟨hc,qV,aD⟩
   ·subst hc0;have hlq:=hlq rfl;by_cases h46:rd s qc=46
    ·have Ci:=hh9 h46;have aF:=hh9 hall;have zaC:qc<s.size:=fP (by omega) h46;clear h46 hall HD;go_wp2_with fail
     refine(aQ HN.out.2.2.2.1 hs (by omega) _ Ci.out).mono ?_;rintro e w6 ⟨rfl,hb⟩;have pR:=hh9 (HN.out.below hb);clear hb HN f0 f1 f2 g0 g1 g2;obtain⟨f0,f1,f2,g0,g1,g2⟩:=pR.out.1.cells;obtain⟨d0,d1,d2,y0,y1,y2⟩:=pR.out.2.2.2.1.cells;obtain⟨qx,MK⟩:∃ qx,qc+1=qx:=⟨_,rfl⟩
     have Gi:(qc:Int)+1=(qx:Int):=by omega
     obtain⟨WX,Gj⟩:∃ WX,WX=w6.setCell ⟨R,1,none⟩ (.int .i64 (qx:Int)):=⟨_,rfl⟩
     have bT:Hid (aX R s E 6 w WX V l qx 0):=by rw[Gj];exact pR.out.put hR rfl
     have ML:=hh9 Gj;have MP:qx<=s.size:=by omega
     have MN:Hid ((0:Int)=0->qx<=s.size):=fun _=>MP
     have nY:=hh9 MK;clear Gj MK;go_wp2_with fail
     rw[<- ML.out];clear f0 f1 f2 g0 g1 g2 d0 d1 d2 y0 y1 y2 pR ML Gi;have hll:l.length<=60000:=by omega
     have yE:Hid (l.length+1<=maxLen):=(by unfold maxLen;omega:l.length+1<=maxLen)
     have HL2:Hid ((l.length+1)*8<=140737488355328):=(by omega:(l.length+1)*8<=140737488355328)
     obtain⟨kx,hkx⟩:∃ kx:Int,kx=6:=⟨_,rfl⟩
     obtain⟨cx,hcx⟩:∃ cx:Int,cx=0:=⟨_,rfl⟩
     rw[<- hkx,<- hcx]at bT;have MN:Hid (cx=0->qx<=s.size):=fun _=>MP
     have PL:=hh9 hkx;have lF:=hh9 hcx;clear hkx hcx;obtain⟨he,hrow,hne,ha,hg,hr,hle⟩:=bT.out;obtain⟨f0,f1,f2,g0,g1,g2⟩:=he.cells;have Vg:Hid (bL WX.drew R s qx cx):=ha;have Gl:Hid (aX R s E kx w WX.drew V l qx cx):=bT.out.drew;have Gm:w.heap.size+1<=WX.heap.size:=by have:=he.lt;omega
     have Vh:=he.lt;clear he hrow hne ha hg hr
     go_region_law (first
      |(refine step_append_lies _ (by rfl) _ _ _ (by rfl) (w.heap.size+1) 3 i0 _ 1 8 Tryz.underlying26 hi0 hz0 MI MJ rfl (by omega) V l.length (dA l) (by rfl) yw.out.2.1 ⟨w7.heap.size,0,none⟩ 1 1 [.int .i64 v2] (by rfl) (by rfl) (World.news_of_block (cs:=#[.int .i64 v2]) (t:=3) (fr:=(0,0)) (zbO w7 _)) (by simp[Value.oneCell']) (by omega) yE.out HL2.out Bo.out (w7.heap.size+1) (by simp) ?_;intro gg cap w8 hown1 hgrow hat Ey;have jI:=hh9 (yw.out.push hR hown1 hgrow (hat.elim (fun h=>.inl h) (fun h=>.inr (by rw[h];simp))));have he1:=yw.out.1.kept hgrow yw.out.2.2.1;obtain⟨v0,v1,v3,r0,r1,r2⟩:=he1.cells;clear he1 hown1 hgrow hat)
      |(go_simp;go_at_call 144;refine(Va b jX.out Vg.out hs MN.out).mono ?_;rintro e w7 ⟨v2,q2,c2,⟨rfl,MO,Gn⟩,Gp,Gq,hout2⟩;have o9:=hh9 hout2;have CO:=hh9 (Gl.out.grown Gn MO hR);have hw7:w.heap.size+1<=w7.heap.size:=zbH Gm Gn.size;have yw:=hh9 (CO.out.alloc (.cells #[.int .i64 v2] 3));have Bo:Hid (w.heap.size+1<=(w7.alloc (.cells #[.int .i64 v2] 3)).heap.size):=(by simp;omega:w.heap.size+1<=(w7.alloc (.cells #[.int .i64 v2] 3)).heap.size);obtain⟨k0,k1,k2,m0,m1,m2⟩:=CO.out.1.cells;obtain⟨n0,n1,n2,o0,o1,o2⟩:=yw.out.1.cells;clear MO Gn hout2))
     all_goals
      go_wp2_with fail
      have hst:=zyz (b:=b) hpq aF.out Ci.out (by have:=o9.out;rw[lF.out,<- nY.out]at this;exact this);have HST:=hh9 hst;rw[PL.out]at jI;have hLL:(l++[v2]).length=l.length+1:=by simp
      have Il:=hh9 hLL;clear hst hLL yw CO o9;go_roundw
      case rel=>exact⟨_,l++[v2],q2,c2,jI,by rw[Il.out];omega,fun g=>by have:=HST.out.2.1 g;rw[Il.out];omega,by have:=HST.out.2.2;omega,HST.out.1⟩
      case measure =>
       rw[HM.out,jI.out.2.2.2.1.meas];simp only[if_true];have:=HST.out.2;split
       ·rename_i g;have:=this.1 g;omega
       ·omega
    ·obtain⟨X,hX⟩:∃ z,rd s qc=z:=⟨_,rfl⟩
     have qx:(X==46)=false:=by rw[<- hX];simpa using h46
     have HX:=hh9 hX;have ay:Hid (qC s p (.mk 6 [] l 0 0 []) qc 0):=.inl ⟨rfl,hpq,aR,fun d=>hall d _ (.iP h46)⟩;clear hX h46 hall HD;go_wp2_with fail
     refine(aQ HN.out.2.2.2.1 hs (by omega) _ HX.out).mono ?_;rintro e w6 ⟨rfl,hb⟩;have pR:=hh9 (HN.out.below hb);clear hb HN f0 f1 f2 g0 g1 g2;obtain⟨f0,f1,f2,g0,g1,g2⟩:=pR.out.1.cells;go_wp2_with fail
     go_quiet (fail)
     have jI:=hh9 (pR.out.drewN nq);have H2:=hh9 (IL jI.out.2.1);have HRR:=hh9 jI.out.2.2.2.2.2.1;have oD:=hh9 jI.out.1
     go_wp2_with (first
      |(refine mO rfl _ rfl E ⟨6,⟨#[]⟩,V,0,0,.slice none 0 0⟩ rfl oD.out ?_)
      |(refine bA rfl _ _ rfl w.heap.size ⟨6,⟨#[]⟩,V,0,0,.slice none 0 0⟩ rfl rfl HRR.out H2.out rfl ?_))
     exact bodyPost_ret_by (zag rfl _ _ w.heap.size ⟨6,⟨#[]⟩,V,0,0,.slice none 0 0⟩ rfl HRR.out) rfl (IK jI.out hR ay.out)
   ·obtain⟨X,hX⟩:∃ z,rd s qc=z:=⟨_,rfl⟩
    have HX:=hh9 hX;have ay:Hid (qC s p (.mk 6 [] l 0 0 []) qc cx):=.inr ⟨hc,by omega,aD⟩;have qc0:(cx==0)=false:=by simpa using hc
    by_cases h46:X=46
    ·subst h46;clear hX aD HD;go_wp2_with fail
     refine(aQ HN.out.2.2.2.1 hs (by omega) _ HX.out).mono ?_;rintro e w6 ⟨rfl,hb⟩;have pR:=hh9 (HN.out.below hb);clear hb HN f0 f1 f2 g0 g1 g2;obtain⟨f0,f1,f2,g0,g1,g2⟩:=pR.out.1.cells;obtain⟨d0,d1,d2,y0,y1,y2⟩:=pR.out.2.2.2.1.cells;go_wp2_with fail
     go_quiet (fail)
     have jI:=hh9 (pR.out.drewN nq);have H2:=hh9 (IL jI.out.2.1);have HRR:=hh9 jI.out.2.2.2.2.2.1;have oD:=hh9 jI.out.1
     go_wp2_with (first
      |(refine mO rfl _ rfl E ⟨6,⟨#[]⟩,V,0,0,.slice none 0 0⟩ rfl oD.out ?_)
      |(refine bA rfl _ _ rfl w.heap.size ⟨6,⟨#[]⟩,V,0,0,.slice none 0 0⟩ rfl rfl HRR.out H2.out rfl ?_))
     exact bodyPost_ret_by (zag rfl _ _ w.heap.size ⟨6,⟨#[]⟩,V,0,0,.slice none 0 0⟩ rfl HRR.out) rfl (IK jI.out hR ay.out)
    ·have qx:(X==46)=false:=by simpa using h46
     clear hX h46 aD HD;go_wp2_with fail
     refine(aQ HN.out.2.2.2.1 hs (by omega) _ HX.out).mono ?_;rintro e w6 ⟨rfl,hb⟩;have pR:=hh9 (HN.out.below hb);clear hb HN f0 f1 f2 g0 g1 g2;obtain⟨f0,f1,f2,g0,g1,g2⟩:=pR.out.1.cells;go_wp2_with fail
     go_quiet (fail)
     have jI:=hh9 (pR.out.drewN nq);have H2:=hh9 (IL jI.out.2.1);have HRR:=hh9 jI.out.2.2.2.2.2.1;have oD:=hh9 jI.out.1
     go_wp2_with (first
      |(refine mO rfl _ rfl E ⟨6,⟨#[]⟩,V,0,0,.slice none 0 0⟩ rfl oD.out ?_)
      |(refine bA rfl _ _ rfl w.heap.size ⟨6,⟨#[]⟩,V,0,0,.slice none 0 0⟩ rfl rfl HRR.out H2.out rfl ?_))
     exact bodyPost_ret_by (zag rfl _ _ w.heap.size ⟨6,⟨#[]⟩,V,0,0,.slice none 0 0⟩ rfl HRR.out) rfl (IK jI.out hR ay.out)
end Go.Proofs.YtahibnnhjahmnaaGreatDoor
