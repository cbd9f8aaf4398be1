/- Part 34 of what the laws of the grammar rest on. -/
import Derived.Test.YtekjnfldgjcgeaaGreatDoorA33
import Derived.Deep.CutRange
import Derived.Deep.CutBlock
set_option linter.all false
set_option maxRecDepth 100000
set_option maxHeartbeats 8000000
namespace Go.Proofs.YtekjnfldgjcgeaaGreatDoor
open Go.RowKit
theorem qa8 {Z:Int} (h0:0<=Z) (h1:Z<=255) (h:orv Z=98):zc0 Z=.base 2:=by
 have:Z=98\/Z=66:=by unfold orv at h;split at h<;>omega
 rcases this with rfl | rfl<;>rfl
theorem qa9 {Z:Int} (h0:0<=Z) (h1:Z<=255) (h:orv Z=100):zc0 Z=.base 10:=by
 have:Z=100\/Z=68:=by unfold orv at h;split at h<;>omega
 rcases this with rfl | rfl<;>rfl
theorem qaa {Z:Int} (h0:0<=Z) (h1:Z<=255) (h:orv Z=120):zc0 Z=.base 16:=by
 have:Z=120\/Z=88:=by unfold orv at h;split at h<;>omega
 rcases this with rfl | rfl<;>rfl
theorem qdq {Z:Int} (h0:0<=Z) (h1:Z<=255) (h:orv Z=105):zc0 Z=.text false:=by
 have:Z=105\/Z=73:=by unfold orv at h;split at h<;>omega
 rcases this with rfl | rfl<;>rfl
theorem qdr {Z:Int} (h0:0<=Z) (h1:Z<=255) (h:orv Z=115):zc0 Z=.text true:=by
 have:Z=115\/Z=83:=by unfold orv at h;split at h<;>omega
 rcases this with rfl | rfl<;>rfl
theorem zx5 {Z:Int} (h:Z<0\/(0<=Z/\Z<=255/\orv Z≠98/\orv Z≠100/\orv Z≠120/\orv Z≠105/\orv Z≠115)):zc0 Z=.none:=by
 have hz:Z≠115/\Z≠83/\Z≠105/\Z≠73/\Z≠98/\Z≠66/\Z≠100/\Z≠68/\Z≠120/\Z≠88:=by
  rcases h with h | ⟨h0,h1,h⟩
  ·omega
  ·unfold orv at h
   split at h<;>omega
 obtain ⟨a1,a2,a3,a4,a5,a6,a7,a8,a9,a10⟩:=hz
 unfold zc0
 simp [a1,a2,a3,a4,a5,a6,a7,a8,a9,a10]
theorem zqh {R p:Nat} {c:Int} {s:ByteArray} {w:World} (b:Int) (h:AtY w R s p c) (hc:c≠0) :
  Calls Tryz.prog 142 #[.pointer (some ⟨R,0,none⟩),.int .i64 b] w (GivesY R s (.int .i64 (-1)) p c w):=by
 have H:=hh9 h
 clear h
 go_enter Tryz.func142,Tryz.ntmps142
 go_wp2_with fail
 refine (zhj b 1114111 H.out hc).mono ?_
 rintro e w1 ⟨rfl,ha,hg⟩
 have HA:=hh9 ha
 have HG:=hh9 hg
 clear ha hg
 go_wp2_with fail
 refine (zd8 HA.out hc 20).mono ?_
 rintro e w2 ⟨rfl,ha,hg⟩
 have HA2:=hh9 ha
 have HG2:=hh9 (HG.out.trans hg)
 clear ha hg
 go_wp2_with fail
 go_ret
 exact ⟨rfl,HA2.out,HG2.out⟩
def zm8 (b c0:Int) (s:ByteArray) (p:Nat) (v:Int) (q:Nat) (c:Int):Prop :=
 (c0=0/\c=0/\p<q/\q<=s.size/\zbl b 1114111 (rd s) p=.ok v q)\/(c0=0/\c≠0/\q<=s.size/\v=-1/\zbl b 1114111 (rd s) p=.err c)\/(c0≠0/\c=c0/\q=p/\v=-1)
theorem zkt {R p:Nat} {c0:Int} {s:ByteArray} {w:World} (b:Int) (hb:b=2\/b=10\/b=16) (h:AtY w R s p c0) (hs:s.size<=50000) (hp:c0=0->p<=s.size) :
  Calls Tryz.prog 142 #[.pointer (some ⟨R,0,none⟩),.int .i64 b] w fun e w'=>∃ (v:Int) (q:Nat) (c:Int),GivesY R s (.int .i64 v) q c w e w'/\-1<=v/\v<=1114111/\zm8 b c0 s p v q c:=by
 by_cases hc:c0=0
 ·subst hc
  refine (zwy b hb h hs (hp rfl)).mono ?_
  rintro e w' (⟨v,q,hn,hg⟩ | ⟨c,hc,hn,q,hq,hg⟩)
  ·have h1:=zet (by omega) (hp rfl) hn
   have h2:=zh5 (by omega) hn
   have h3:v<=1114111:=by
    unfold zbl at hn
    split at hn
    ·cases hn
    ·split at hn
     ·cases hn
     ·cases hn;omega
   exact ⟨v,q,0,hg,by omega,h3,.inl ⟨rfl,rfl,h1.1,h1.2,hn⟩⟩
  ·exact ⟨-1,q,c,hg,by omega,by omega,.inr (.inl ⟨rfl,hc,hq,rfl,hn⟩)⟩
 ·refine (zqh b h hc).mono ?_
  intro e w' hg
  exact ⟨-1,p,c0,hg,by omega,by omega,.inr (.inr ⟨hc,rfl,rfl,rfl⟩)⟩
def OutV (s:ByteArray) (p:Nat) (t:Tree) (q:Nat) (c:Int):Prop:=(c=0/\p<=q/\q<=s.size/\∀ d,Ans (rd s) .elem d p (.ok t q))\/(c≠0/\q<=s.size+3/\∀ d,Ans (rd s) .elem d p (.err c))
def ValueY (R:Nat) (s:ByteArray) (p:Nat) (w:World) (e:Ending) (w':World):Prop :=
 ∃ (x:XV) (t:Tree) (q:Nat) (c:Int),TreeAt w' (fun b=>w.heap.size<=b) x t/\GivesY R s x.val q c w e w'/\OutV s p t q c
def NumsIn (R:Nat) (s:ByteArray) (E:Nat) (k:Int) (w wr:World) (V:Value) (l:List Int) (q:Nat) (c:Int):Prop :=
 EAt wr E k ⟨#[]⟩ V/\wr.ownsRow (w.heap.size+1) 3 1 V l.length (zat l)/\some E≠V.ownBlock/\AtY wr R s q c/\w.grownBy wr (some R)/\Res0 wr w.heap.size/\w.heap.size+1<=E
theorem NumsIn.grown {R:Nat} {s:ByteArray} {E:Nat} {k:Int} {w W W':World} {V:Value} {l:List Int} {q q':Nat} {c c':Int} (h:NumsIn R s E k w W V l q c) (hg:W.grownBy W' (some R)) (ha:AtY W' R s q' c') (hR:R<w.heap.size):NumsIn R s E k w W' V l q' c':=by
 obtain ⟨h1,h2,h3,h4,h5,h6,h7⟩:=h
 exact ⟨h1.kept hg (fun e=>by have:=Option.some.inj e;omega),zfj h2 hg (by omega),h3,ha,h5.trans hg,za8 h6 hg (by omega),h7⟩
theorem NumsIn.below {R:Nat} {s:ByteArray} {E:Nat} {k:Int} {w W W':World} {V:Value} {l:List Int} {q:Nat} {c:Int} (h:NumsIn R s E k w W V l q c) (hb:Below W.heap.size W W'):NumsIn R s E k w W' V l q c:=by
 obtain ⟨h1,h2,h3,h4,h5,h6,h7⟩:=h
 exact ⟨(hb.block E h1.lt).trans h1,zua h2 hb,h3,h4.below hb,za4 h5 hb,h6.kept (hb.block _ h6.lt),h7⟩
theorem NumsIn.alloc {R:Nat} {s:ByteArray} {E:Nat} {k:Int} {w W:World} {V:Value} {l:List Int} {q:Nat} {c:Int} (h:NumsIn R s E k w W V l q c) (o:Obj):NumsIn R s E k w (W.alloc o) V l q c :=
 h.below ((Below.refl _ _).alloc (Nat.le_refl _) _)
theorem NumsIn.drew {R:Nat} {s:ByteArray} {E:Nat} {k:Int} {w W:World} {V:Value} {l:List Int} {q:Nat} {c:Int} (h:NumsIn R s E k w W V l q c):NumsIn R s E k w W.drew V l q c :=
 ⟨h.1,h.2.1.drew,h.2.2.1,h.2.2.2.1,za5 h.2.2.2.2.1 1,h.2.2.2.2.2.1,h.2.2.2.2.2.2⟩
theorem NumsIn.put {R:Nat} {s:ByteArray} {E:Nat} {k:Int} {w W:World} {V:Value} {l:List Int} {q q':Nat} {c:Int} (h:NumsIn R s E k w W V l q c) (hR:R<w.heap.size) {x:Int} (hx:x=q'):NumsIn R s E k w (W.setCell ⟨R,1,none⟩ (.int .i64 x)) V l q' c :=
 h.grown (zah (zak W (some R)) 1 (.int .i64 x)) (h.2.2.2.1.put hx) hR
theorem NumsIn.kind {R:Nat} {s:ByteArray} {E:Nat} {k:Int} {w W:World} {V:Value} {l:List Int} {q:Nat} {c:Int} (h:NumsIn R s E k w W V l q c) (hR:R<w.heap.size) (k':Int):NumsIn R s E k' w (W.setCell ⟨E,0,none⟩ (.int .i64 k')) V l q c:=by
 obtain ⟨h1,h2,h3,h4,h5,h6,h7⟩:=h
 refine ⟨h1.kind k',?_,h3,h4.set_new (by omega) _ _,zcz h5 (by omega) _ _,zkr h6 (by omega) _ _,h7⟩
 refine ⟨h2.1,?_⟩
 rcases h2.2 with h0 | ⟨g,cap,cur,hv,hg,hh,r⟩
 ·exact .inl h0
 ·refine .inr ⟨g,cap,cur,hv,hg,(Below.heap_setCell _ _ _ _ (fun e=>h3 ?_)).trans hh,r⟩
  rw [hv]
  simp only [Value.ownBlock]
  have e':g=E:=e
  rw [e']
theorem NumsIn.push {R:Nat} {s:ByteArray} {E:Nat} {k:Int} {w W W':World} {V:Value} {l:List Int} {q:Nat} {c:Int} (h:NumsIn R s E k w W V l q c) (hR:R<w.heap.size) {gg cap:Nat} {u:Int}
  (hown:W'.ownsRow (w.heap.size+1) 3 1 (.slice (some ⟨gg,0,none⟩) (l.length+1) cap) (l.length+1) (zat l++[.int .i64 u])) (hgrow:W.grownBy W' V.ownBlock) (hat:V.ownBlock=some gg\/gg=W.heap.size) :
  NumsIn R s E k w (W'.setCell ⟨E,2,none⟩ (.slice (some ⟨gg,0,none⟩) (l.length+1) cap)) (.slice (some ⟨gg,0,none⟩) (l.length+1) cap) (l++[u]) q c:=by
 obtain ⟨h1,h2,h3,h4,h5,h6,h7⟩:=h
 have hlt:=h1.lt
 have hgE:gg≠E:=by
  rcases hat with h | h
  ·exact fun e=>h3 (by rw [h,e])
  ·omega
 have h2':=zk4 (W:=W') hown
 refine ⟨(h1.kept hgrow h3).nums _,?_,by simp only [Value.ownBlock];exact fun e=>hgE (Option.some.inj e).symm,(h4.kept hgrow (zer h2 (by omega))).set_new (by omega) _ _,zcz (zhl h5 h2 (by omega) hgrow) (by omega) _ _,zkr (h6.kept (hgrow.block _ h6.lt (zer h2 (by omega)))) (by omega) _ _,h7⟩
 have hb:(W'.setCell ⟨E,2,none⟩ (.slice (some ⟨gg,0,none⟩) (l.length+1) cap)).ownsRow (w.heap.size+1) 3 1 (.slice (some ⟨gg,0,none⟩) (l.length+1) cap) (l++[u]).length (zat (l++[u])):=by
  refine ⟨h2'.1,?_⟩
  rcases h2'.2 with h0 | ⟨g,cap,cur,hv,hg,hh,r⟩
  ·exact .inl h0
  ·refine .inr ⟨g,cap,cur,hv,hg,(Below.heap_setCell _ _ _ _ ?_).trans hh,r⟩
   simp at hv
   show g≠E
   omega
 exact hb
theorem NumsIn.drewN {R:Nat} {s:ByteArray} {E:Nat} {k:Int} {w W:World} {V:Value} {l:List Int} {q:Nat} {c:Int} (h:NumsIn R s E k w W V l q c) (n:Nat):NumsIn R s E k w (W.drewN n) V l q c :=
 ⟨h.1,znl h.2.1 n,h.2.2.1,h.2.2.2.1,za5 h.2.2.2.2.1 n,h.2.2.2.2.2.1,h.2.2.2.2.2.2⟩
theorem zgj {R:Nat} {s:ByteArray} {E:Nat} {k:Int} {w W:World} {V:Value} {l:List Int} {p q:Nat} {c:Int} (h:NumsIn R s E k w W V l q c) (hR:R<w.heap.size) (ho:OutV s p (.mk k [] l 0 0 []) q c) :
  ValueY R s p w (.returned (XV.val ⟨k,⟨#[]⟩,V,0,0,.slice none 0 0⟩)) (W.setRow w.heap.size (XV.arr ⟨k,⟨#[]⟩,V,0,0,.slice none 0 0⟩)) :=
 ⟨_,.mk k [] l 0 0 [],q,c,((zfr (P:=fun b=>w.heap.size+1<=b) k h.2.1 (fun b hb=>hb)).set_row (fun b hb=>by omega) _).weak (fun b hb _=>by omega),⟨rfl,h.2.2.2.1.set_row (by omega) _,zae h.2.2.2.2.1 (Nat.le_refl _) _⟩,ho⟩
theorem zid {W:World} {base size n:Nat} {e:TypeId} {v:Value} {xs:List Value} (h:W.ownsRow base e size v n xs):v.oneCell'=true:=by rcases zan h with ⟨rfl,_⟩ | ⟨g,cap,rfl⟩<;>rfl
def zx6 (b:Int) (s:ByteArray) (p:Nat) (l:List Int) (q:Nat) (c:Int):Prop :=
 (c=0/\p<=q/\q<=s.size/\∀ d r,Ans (rd s) (.dots b l) d q r->Ans (rd s) .elem d p r)\/(c≠0/\q<=s.size+1/\∀ d,Ans (rd s) .elem d p (.err c))
theorem ztu {b:Int} {s:ByteArray} {p p2 q:Nat} {v c:Int} (hV:∀ d r,Ans (rd s) (.nums b) d p2 r->Ans (rd s) .elem d p r) (hp:p<=p2) (h1:zm8 b 0 s p2 v q c) (h45:rd s q≠45):zx6 b s p [v] q c:=by
 rcases h1 with ⟨_,rfl,a1,a2,a3⟩ | ⟨_,a1,a2,a3,a4⟩ | ⟨a1,_⟩
 ·exact .inl ⟨rfl,by omega,a2,fun d r hr=>hV d r (.nums a3 h45 hr)⟩
 ·exact .inr ⟨a1,by omega,fun d=>hV d _ (.numsErr a4)⟩
 ·exact absurd rfl a1
theorem zx7 {b:Int} {s:ByteArray} {p q q2:Nat} {l:List Int} {v c:Int} (hp:p<=q) (hall:∀ d r,Ans (rd s) (.dots b l) d q r->Ans (rd s) .elem d p r) (h46:rd s q=46) (h1:zm8 b 0 s (q+1) v q2 c):zx6 b s p (l++[v]) q2 c/\(c=0->q<q2)/\q2<=s.size:=by
 rcases h1 with ⟨_,rfl,a1,a2,a3⟩ | ⟨_,a1,a2,a3,a4⟩ | ⟨a1,_⟩
 ·exact ⟨.inl ⟨rfl,by omega,a2,fun d r hr=>hall d r (.dotsOk h46 a3 hr)⟩,fun _=>by omega,a2⟩
 ·exact ⟨.inr ⟨a1,by omega,fun d=>hall d _ (.dotsErr h46 a4)⟩,fun g=>absurd g a1,a2⟩
 ·exact absurd rfl a1
theorem qac {b:Int} {s:ByteArray} {p p2 q1 q2:Nat} {v v2 c1 c2:Int} (hV:∀ d r,Ans (rd s) (.nums b) d p2 r->Ans (rd s) .elem d p r) (hp:p<=p2) (h1:zm8 b 0 s p2 v q1 c1) (h45:rd s q1=45) (h2:zm8 b c1 s (q1+1) v2 q2 c2) (t:Tree) :
  (c2=0->v2<v->OutV s p t q2 20)/\(c2=0->¬ v2<v->OutV s p (.mk 7 [] [v,v2] 0 0 []) q2 0)/\(c2≠0->OutV s p t q2 c2):=by
 rcases h1 with ⟨_,rfl,a1,a2,a3⟩ | ⟨_,a1,a2,a3,a4⟩ | ⟨a1,_⟩
 ·rcases h2 with ⟨_,rfl,b1,b2,b3⟩ | ⟨_,b1,b2,b3,b4⟩ | ⟨b1,_⟩
  ·exact ⟨fun _ g=>.inr ⟨by omega,by omega,fun d=>hV d _ (.spanLess a3 h45 b3 g)⟩,fun _ g=>.inl ⟨rfl,by omega,by omega,fun d=>hV d _ (.span a3 h45 b3 g)⟩,fun g=>absurd rfl g⟩
  ·exact ⟨fun g=>absurd g b1,fun g=>absurd g b1,fun _=>.inr ⟨b1,by omega,fun d=>hV d _ (.spanErr a3 h45 b4)⟩⟩
  ·exact absurd rfl b1
 ·rcases h2 with ⟨b0,_⟩ | ⟨b0,_⟩ | ⟨b0,rfl,rfl,b3⟩
  ·exact absurd b0 a1
  ·exact absurd b0 a1
  ·exact ⟨fun g=>absurd g a1,fun g=>absurd g a1,fun _=>.inr ⟨a1,by omega,fun d=>hV d _ (.numsErr a4)⟩⟩
 ·exact absurd rfl a1
theorem qch {W:World} {base size n:Nat} {e:TypeId} {v:Value} {xs:List Value} (h:W.ownsRow base e size v n xs) {E:Nat} (hE:some E≠v.ownBlock) (cs:Array Value):(W.setRow E cs).ownsRow base e size v n xs:=by
 refine ⟨h.1,?_⟩
 rcases h.2 with h0 | ⟨g,cap,cur,hv,hg,hh,r⟩
 ·exact .inl h0
 ·refine .inr ⟨g,cap,cur,hv,hg,(setRow_other _ _ _ _ (fun e=>hE ?_)).trans hh,r⟩
  rw [hv]
  simp [Value.ownBlock,e]
theorem zgw {b C:Int} (hCb:(C=98/\b=2)\/(C=100/\b=10)\/(C=120/\b=16)) {R p:Nat} {s:ByteArray} {w:World} (h:AtY w R s p 0) (hs:s.size<=50000) (h37:rd s p=37) (hC:orv (rd s (p+1))=C) (h0:0<=rd s (p+1)) :
  Calls Tryz.prog 117 #[.pointer (some ⟨R,0,none⟩)] w (ValueY R s p w):=by
 obtain ⟨i0,hi0,hi1⟩:=Option.map_eq_some_iff.1 zmy
 obtain ⟨hz0,hzz1,hzz2⟩:i0.zero=some (.int .i64 0)/\i0.size=1/\i0.bytes=8:=by simpa using hi1
 clear hi1
 have hR:=h.lt
 have hlt:=zbu (by omega) h37
 obtain ⟨p1,hp1⟩:∃ p1,p+1=p1:=⟨_,rfl⟩
 obtain ⟨p2,hp2⟩:∃ p2,p1+1=p2:=⟨_,rfl⟩
 obtain ⟨c0,c1,c2,z0,z1,z2⟩:=h.cells
 have HA1:=hh9 ((h.put (x:=(p:Int)+1) (q:=p1) (by omega)).alloc (.cells #[.int .i64 0,.string ⟨#[]⟩,.slice none 0 0,.int .i64 0,.int .i64 0,.slice none 0 0] 35))
 have HG1:=hh9 (zao (zah (zak w (some R)) 1 (.int .i64 ((p:Int)+1))) (.cells #[.int .i64 0,.string ⟨#[]⟩,.slice none 0 0,.int .i64 0,.int .i64 0,.slice none 0 0] 35))
 have HR1:Hid (Res0 ((w.setCell ⟨R,1,none⟩ (.int .i64 ((p:Int)+1))).alloc (.cells #[.int .i64 0,.string ⟨#[]⟩,.slice none 0 0,.int .i64 0,.int .i64 0,.slice none 0 0] 35)) w.heap.size):=by
  have g:=zav (w.setCell ⟨R,1,none⟩ (.int .i64 ((p:Int)+1)))
  rwa [show (w.setCell ⟨R,1,none⟩ (.int .i64 ((p:Int)+1))).heap.size=w.heap.size by simp] at g
 have hz1:w.heap.size+1<=((w.setCell ⟨R,1,none⟩ (.int .i64 ((p:Int)+1))).alloc (.cells #[.int .i64 0,.string ⟨#[]⟩,.slice none 0 0,.int .i64 0,.int .i64 0,.slice none 0 0] 35)).heap.size:=by simp
 have hZr:=zge s p1
 obtain ⟨Z,hZ⟩:∃ z,rd s p1=z:=⟨_,rfl⟩
 rw [hZ] at hZr
 have HZ:=hh9 hZ
 have H37:=hh9 h37
 have HP1:=hh9 hp1
 have HP2:=hh9 hp2
 have e1:p1+1<=p2/\p2<=p1+1/\p+1<=p1/\p1<=p+1/\p1<=s.size:=by omega
 obtain ⟨e1,e2,e3,e4,e5⟩:=e1
 have HNO:Hid (zc0 Z=.none->∀ d,Ans (rd s) .elem d p (.err 20)):=fun g d=>.valueNo h37 (by rw [hp1,hZ];exact g)
 clear h h37 hZ hp1 hp2
 rw [HP1.out,HZ.out] at hC h0
 have hlt1:p1<s.size:=zbu h0 HZ.out
 have hor0:=qcd Z (by omega) (by omega)
 have hor:bits .or .i64 Z 32=C:=by rw [hor0,hC]
 have HKB:Hid (zc0 (rd s p1)=.base b):=by
  rw [HZ.out]
  rcases hCb with ⟨rfl,rfl⟩ | ⟨rfl,rfl⟩ | ⟨rfl,rfl⟩
  ·exact qa8 h0 (by omega) hC
  ·exact qa9 h0 (by omega) hC
  ·exact qaa h0 (by omega) hC
 have hbb:b=2\/b=10\/b=16:=by omega
 have HBB:=hh9 hbb
 have qb:(b==0)=false:=by simp;omega
 have HCB:=hh9 hCb
 clear hbb hCb
 have hle2:p2<=s.size:=by omega
 have hV2:Hid (∀ d r,Ans (rd s) (.nums b) d p2 r->Ans (rd s) .elem d p r):=by
  have g1:=HP1.out
  have g2:=HP2.out
  have e:p2=p+2:=by omega
  rw [e]
  exact fun d r hr=>.value H37.out (by rw [g1];exact HKB.out) hr
 clear HNO hC hor0
 go_enter Tryz.func117,Tryz.ntmps117
 go_wp2_with fail
 refine (yat0 HA1.out hs (by omega) _ HZ.out).mono ?_
 rintro e w2 ⟨rfl,hb⟩
 have HA2:=hh9 (HA1.out.below hb)
 have HG2:=hh9 (za4 HG1.out hb)
 have HR2:=hh9 (HR1.out.kept (hb.block _ HR1.out.lt))
 have hz2:w.heap.size+1<=w2.heap.size:=Nat.le_trans hz1 hb.size
 clear hb
 go_wp2_with fail
 refine (yat0 HA2.out hs (by omega) _ HZ.out).mono ?_
 rintro e w3 ⟨rfl,hb⟩
 have HA3:=hh9 (HA2.out.below hb)
 have HG3:=hh9 (za4 HG2.out hb)
 have HR3:=hh9 (HR2.out.kept (hb.block _ HR2.out.lt))
 have hz3:w.heap.size+1<=w3.heap.size:=Nat.le_trans hz2 hb.size
 obtain ⟨d0,d1,d2,y0,y1,y2⟩:=HA3.out.cells
 clear hb HA1 HG1 HR1 HA2 HG2 HR2 hz1 hz2 c0 c1 c2 z0 z1 z2
 go_upto_block 0 with fail
 go_cut [4] from 20 to 42 (fun s4 W=>s4=.int .i64 b/\w3=W)
 case first =>
  have hCb:=HCB.out
  rcases hCb with ⟨rfl,rfl⟩ | ⟨rfl,rfl⟩ | ⟨rfl,rfl⟩
  all_goals
   go_wp2_with fail
   go_meet
   exact ⟨rfl,rfl⟩
 obtain ⟨rfl,rfl⟩:=hcut
 clear HCB hor
 have HA4:=hh9 (HA3.out.put (x:=(p1:Int)+1) (q:=p2) (by omega))
 have HG4:=hh9 (zah HG3.out 1 (.int .i64 ((p1:Int)+1)))
 have HR4:Hid (Res0 (w3.setCell ⟨R,1,none⟩ (.int .i64 ((p1:Int)+1))) w.heap.size):=zdh HR3.out (by omega)
 have hz4:w.heap.size+1<=(w3.setCell ⟨R,1,none⟩ (.int .i64 ((p1:Int)+1))).heap.size:=by simpa using hz3
 clear HA3 HG3 HR3 hz3
 go_wp2_with fail
 refine (zkt b HBB.out HA4.out hs (fun _=>hle2)).mono ?_
 rintro e w4 ⟨v,q1,c1,⟨rfl,ha,hg⟩,hv1,hv2,hout⟩
 have HOUT:=hh9 hout
 have hq1:q1<=s.size/\(c1=0->p2<q1):=by
  rcases hout with ⟨_,g1,g2,g3,_⟩ | ⟨_,g1,g2,_⟩ | ⟨g1,_⟩
  ·exact ⟨g3,fun _=>g2⟩
  ·exact ⟨g2,fun g=>absurd g g1⟩
  ·exact absurd rfl g1
 obtain ⟨hqs1,hpq1⟩:=hq1
 have hz5:w.heap.size+1<=w4.heap.size:=Nat.le_trans hz4 hg.size
 obtain ⟨N,hN⟩:∃ N,w4.heap.size=N:=⟨_,rfl⟩
 have HN:=hh9 hN
 have hA5:=(ha.alloc (.cells #[.int .i64 v] 3)).alloc (.cells #[.int .i64 0,.string ⟨#[]⟩,.slice none 0 0,.int .i64 0,.int .i64 0,.slice none 0 0] 35)
 have hG5:=zao (zao (HG4.out.trans hg) (.cells #[.int .i64 v] 3)) (.cells #[.int .i64 0,.string ⟨#[]⟩,.slice none 0 0,.int .i64 0,.int .i64 0,.slice none 0 0] 35)
 have hR5:=zaz (zaz (za8 HR4.out hg (by omega)) (.cells #[.int .i64 v] 3)) (.cells #[.int .i64 0,.string ⟨#[]⟩,.slice none 0 0,.int .i64 0,.int .i64 0,.slice none 0 0] 35)
 have hO5:=(zll w4 (w.heap.size+1) hz5 v).alloc (.cells #[.int .i64 0,.string ⟨#[]⟩,.slice none 0 0,.int .i64 0,.int .i64 0,.slice none 0 0] 35)
 have hE5:Res0 ((w4.alloc (.cells #[.int .i64 v] 3)).alloc (.cells #[.int .i64 0,.string ⟨#[]⟩,.slice none 0 0,.int .i64 0,.int .i64 0,.slice none 0 0] 35)) (w4.heap.size+1):=by
  have g:=zav (w4.alloc (.cells #[.int .i64 v] 3))
  rwa [show (w4.alloc (.cells #[.int .i64 v] 3)).heap.size=w4.heap.size+1 by simp] at g
 obtain ⟨W,hW⟩:∃ W,W=((w4.alloc (.cells #[.int .i64 v] 3)).alloc (.cells #[.int .i64 0,.string ⟨#[]⟩,.slice none 0 0,.int .i64 0,.int .i64 0,.slice none 0 0] 35)).setRow (w4.heap.size+1) (XV.arr ⟨6,⟨#[]⟩,.slice (some ⟨w4.heap.size,0,none⟩) 1 1,0,0,.slice none 0 0⟩):=⟨_,rfl⟩
 have HE5:=hh9 hE5
 have H0:Hid (NumsIn R s (N+1) 6 w W (.slice (some ⟨N,0,none⟩) 1 1) [v] q1 c1):=by
  rw [hW,<- hN]
  refine ⟨zdn hE5 _,qch hO5 (by simp [Value.ownBlock]) _,by simp [Value.ownBlock],hA5.set_row (by omega) _,zae hG5 (by omega) _,zew hR5 _ (by omega),by omega⟩
 have HW:=hh9 hW
 have hNE:w.heap.size+1<=N:=by omega
 clear ha hg hout HA4 HG4 HR4 hz4 hN hA5 hG5 hR5 hO5 hE5 hW d0 d1 d2 y0 y1 y2
 go_wp2_with (refine za6 rfl _ _ rfl (w4.heap.size+1) ⟨6,⟨#[]⟩,.slice (some ⟨w4.heap.size,0,none⟩) 1 1,0,0,.slice none 0 0⟩ rfl rfl HE5.out rfl rfl ?_)
 rw [<- HW.out,HN.out]
 clear hz5 HE5 HW HN
 obtain ⟨E,hE⟩:∃ E,N+1=E:=⟨_,rfl⟩
 rw [hE] at H0 ⊢
 obtain ⟨V,hV⟩:∃ V,Value.slice (some ⟨N,0,none⟩) 1 1=V:=⟨_,rfl⟩
 rw [hV] at H0
 have hNE2:w.heap.size+1<=E:=by omega
 clear hE hV
 by_cases h45:rd s q1=45
 ·have H45:=hh9 h45
  have hlt45:q1<s.size:=zbu (by omega) h45
  clear h45
  go_wp2_with fail
  refine (yat0 H0.out.2.2.2.1 hs (by omega) _ H45.out).mono ?_
  rintro e w6 ⟨rfl,hb⟩
  have HN6:=hh9 (H0.out.below hb)
  clear hb H0
  obtain ⟨f0,f1,f2,g0,g1,g2⟩:=HN6.out.1.cells
  obtain ⟨d0,d1,d2,y0,y1,y2⟩:=(HN6.out.kind hR 7).2.2.2.1.cells
  obtain ⟨qx,hqx⟩:∃ qx,q1+1=qx:=⟨_,rfl⟩
  have hqx2:(q1:Int)+1=(qx:Int):=by omega
  obtain ⟨WX,hWX⟩:∃ WX,WX=(w6.setCell ⟨E,0,none⟩ (.int .i64 7)).setCell ⟨R,1,none⟩ (.int .i64 (qx:Int)):=⟨_,rfl⟩
  have HNX:Hid (NumsIn R s E 7 w WX V [v] qx c1):=by rw [hWX];exact (HN6.out.kind hR 7).put hR rfl
  have HWX:=hh9 hWX
  have HQX:Hid (c1=0->qx<=s.size):=fun _=>by omega
  have HQ1:=hh9 hqx
  clear hWX hqx
  go_wp2_with fail
  rw [<- HWX.out]
  clear f0 f1 f2 g0 g1 g2 d0 d1 d2 y0 y1 y2 HN6 HWX hqx2
  obtain ⟨l,hl⟩:∃ l,[v]=l:=⟨_,rfl⟩
  have hll:l.length<=60000:=by rw [<- hl];simp
  rw [hl] at HNX
  have HL:=hh9 hl
  have HL1:Hid (l.length+1<=maxLen):=(by unfold maxLen;omega:l.length+1<=maxLen)
  have HL2:Hid ((l.length+1)*8<=140737488355328):=(by omega:(l.length+1)*8<=140737488355328)
  obtain ⟨kx,hkx⟩:∃ kx:Int,kx=7:=⟨_,rfl⟩
  obtain ⟨cx,hcx⟩:∃ cx:Int,cx=c1:=⟨_,rfl⟩
  rw [<- hkx,<- hcx] at HNX
  rw [<- hcx] at HQX
  have HKX:=hh9 hkx
  have HCX:=hh9 hcx
  clear hl hkx hcx
  go_cut [5] from 71 to 78 (fun s5 W7=>s5=.pointer (some ⟨E,0,none⟩)/\∃ (v2:Int) (q2:Nat) (c2:Int) (V2:Value),Hid (NumsIn R s E kx w W7 V2 (l++[v2]) q2 c2)/\Hid (zm8 b cx s qx v2 q2 c2)/\-1<=v2/\v2<=1114111)
  case first =>
   obtain ⟨he,hrow,hne,ha,hg,hr,hle⟩:=HNX.out
   obtain ⟨f0,f1,f2,g0,g1,g2⟩:=he.cells
   have HAX:Hid (AtY WX.drew R s qx cx):=ha
   have HNXD:Hid (NumsIn R s E kx w WX.drew V l qx cx):=HNX.out.drew
   have hwlt:w.heap.size+1<=WX.heap.size:=by have:=he.lt;omega
   have hElt:=he.lt
   clear he hrow hne ha hg hr
   go_region_law (first
    | (refine step_append_lies _ (by rfl) _ _ _ (by rfl) (w.heap.size+1) 3 i0 _ 1 8 Tryz.underlying32 hi0 hz0 hzz1 hzz2 rfl (by omega) V l.length (zat l) (by rfl) HN8.out.2.1 ⟨w7.heap.size,0,none⟩ 1 1 [.int .i64 v2] (by rfl) (by rfl) (World.news_of_block (cs:=#[.int .i64 v2]) (t:=3) (fr:=(0,0)) (heap_alloc_new w7 _)) (by simp [Value.oneCell']) (by omega) HL1.out HL2.out HL3.out (w7.heap.size+1) (by simp) ?_;intro gg cap w8 hown1 hgrow hat hltg;have HN9:=hh9 (HN8.out.push hR hown1 hgrow (hat.elim (fun h=>.inl h) (fun h=>.inr (by rw [h];simp))));have he1:=HN8.out.1.kept hgrow HN8.out.2.2.1;obtain ⟨v0,v1,v3,r0,r1,r2⟩:=he1.cells;clear he1 hown1 hgrow hat)
    | (go_simp;go_at_call 142;refine (zkt b HBB.out HAX.out hs HQX.out).mono ?_;rintro e w7 ⟨v2,q2,c2,⟨rfl,ha7,hg7⟩,hv21,hv22,hout2⟩;have HOUT2:=hh9 hout2;have HN7:=hh9 (HNXD.out.grown hg7 ha7 hR);have hw7:w.heap.size+1<=w7.heap.size:=Nat.le_trans hwlt hg7.size;have HN8:=hh9 (HN7.out.alloc (.cells #[.int .i64 v2] 3));have HL3:Hid (w.heap.size+1<=(w7.alloc (.cells #[.int .i64 v2] 3)).heap.size):=(by simp;omega:w.heap.size+1<=(w7.alloc (.cells #[.int .i64 v2] 3)).heap.size);obtain ⟨k0,k1,k2,m0,m1,m2⟩:=HN7.out.1.cells;obtain ⟨n0,n1,n2,o0,o1,o2⟩:=HN8.out.1.cells;clear ha7 hg7 hout2))
   all_goals
    go_wp2_with fail
    go_meet
    exact ⟨rfl,v2,q2,c2,_,HN9,HOUT2,hv21,hv22⟩
  case rest =>
   obtain ⟨rfl,v2,q2,c2,V2,HN7,HOUT2,hv21,hv22⟩:=hcut
   obtain ⟨h1,h2,h3⟩:=qac (t:=.mk 7 [] [v,v2] 0 0 []) hV2.out (by omega) HOUT.out H45.out (by have:=HOUT2.out;rw [HCX.out,<- HQ1.out] at this;exact this)
   have hN7:NumsIn R s E 7 w wc V2 [v,v2] q2 c2:=by have:=HN7.out;rw [HKX.out,<- HL.out] at this;exact this
   have hrow:wc.ownsRow (w.heap.size+1) 3 1 V2 2 [.int .i64 v,.int .i64 v2]:=hN7.2.1
   obtain ⟨g,cap,rfl⟩:=(zan hrow).resolve_left (fun h=>by have:=h.2;omega)
   have r0:=zaq hrow (j:=0) (u:=.int .i64 v) rfl
   have r1:=zaq hrow (j:=1) (u:=.int .i64 v2) rfl
   obtain ⟨f0,f1,f2,g0,g1,g2⟩:=hN7.1.cells
   have HNS:=hh9 hN7
   clear hrow hN7 HN7 HOUT2 HCX HKX HL HOUT hV2
   by_cases hlt:v2<v
   ·have qd:decide (v2<v)=true:=decide_eq_true hlt
    by_cases hc2:c2=0
    ·have HFIN:=hh9 (h1 hc2 hlt)
     subst hc2
     clear h1 h2 h3 hlt
     go_wp2_with fail
     go_loopw [] (fun wr=>wr=wc) (fun _=>0)
     case atStart=>exact rfl
     subst hrel
     go_wp2_with fail
     go_quiet (fail)
     go_wp2_with fail
     refine (zba (HNS.out.drewN _).2.2.2.1 20).mono ?_
     rintro e w9 ⟨rfl,ha,hg⟩
     have HN9:=hh9 ((HNS.out.drewN _).grown hg ha hR)
     clear ha hg
     have H2:=hh9 (zid HN9.out.2.1)
     have HRR:=hh9 HN9.out.2.2.2.2.2.1
     have HEE:=hh9 HN9.out.1
     go_wp2_with (first
      | (refine zb8 rfl _ rfl E ⟨7,⟨#[]⟩,(.slice (some ⟨g,0,none⟩) 2 cap),0,0,.slice none 0 0⟩ rfl HEE.out ?_)
      | (refine za6 rfl _ _ rfl w.heap.size ⟨7,⟨#[]⟩,(.slice (some ⟨g,0,none⟩) 2 cap),0,0,.slice none 0 0⟩ rfl rfl HRR.out H2.out rfl ?_))
     exact bodyPost_ret_by (zaj rfl _ _ w.heap.size ⟨7,⟨#[]⟩,(.slice (some ⟨g,0,none⟩) 2 cap),0,0,.slice none 0 0⟩ rfl HRR.out) rfl (zgj HN9.out hR HFIN.out)
    ·have HFIN:=hh9 (h3 hc2)
     clear h1 h2 h3 hlt
     go_wp2_with fail
     go_loopw [] (fun wr=>wr=wc) (fun _=>0)
     case atStart=>exact rfl
     subst hrel
     go_wp2_with fail
     go_quiet (fail)
     go_wp2_with fail
     refine (zd8 (HNS.out.drewN _).2.2.2.1 hc2 20).mono ?_
     rintro e w9 ⟨rfl,ha,hg⟩
     have HN9:=hh9 ((HNS.out.drewN _).grown hg ha hR)
     clear ha hg
     have H2:=hh9 (zid HN9.out.2.1)
     have HRR:=hh9 HN9.out.2.2.2.2.2.1
     have HEE:=hh9 HN9.out.1
     go_wp2_with (first
      | (refine zb8 rfl _ rfl E ⟨7,⟨#[]⟩,(.slice (some ⟨g,0,none⟩) 2 cap),0,0,.slice none 0 0⟩ rfl HEE.out ?_)
      | (refine za6 rfl _ _ rfl w.heap.size ⟨7,⟨#[]⟩,(.slice (some ⟨g,0,none⟩) 2 cap),0,0,.slice none 0 0⟩ rfl rfl HRR.out H2.out rfl ?_))
     exact bodyPost_ret_by (zaj rfl _ _ w.heap.size ⟨7,⟨#[]⟩,(.slice (some ⟨g,0,none⟩) 2 cap),0,0,.slice none 0 0⟩ rfl HRR.out) rfl (zgj HN9.out hR HFIN.out)
   ·have qd:decide (v2<v)=false:=decide_eq_false hlt
    have HFIN:Hid (OutV s p (.mk 7 [] [v,v2] 0 0 []) q2 c2):=by
     by_cases hc2:c2=0
     ·rw [hc2];exact h2 hc2 hlt
     ·exact h3 hc2
    clear h1 h2 h3 hlt
    go_wp2_with fail
    go_loopw [] (fun wr=>wr=wc) (fun _=>0)
    case atStart=>exact rfl
    case round =>
     subst hrel
     go_wp2_with fail
     go_quiet (fail)
     have HN9:=hh9 (HNS.out.drewN nq)
     have H2:=hh9 (zid HN9.out.2.1)
     have HRR:=hh9 HN9.out.2.2.2.2.2.1
     have HEE:=hh9 HN9.out.1
     go_wp2_with (first
      | (refine zb8 rfl _ rfl E ⟨7,⟨#[]⟩,(.slice (some ⟨g,0,none⟩) 2 cap),0,0,.slice none 0 0⟩ rfl HEE.out ?_)
      | (refine za6 rfl _ _ rfl w.heap.size ⟨7,⟨#[]⟩,(.slice (some ⟨g,0,none⟩) 2 cap),0,0,.slice none 0 0⟩ rfl rfl HRR.out H2.out rfl ?_))
     exact bodyPost_ret_by (zaj rfl _ _ w.heap.size ⟨7,⟨#[]⟩,(.slice (some ⟨g,0,none⟩) 2 cap),0,0,.slice none 0 0⟩ rfl HRR.out) rfl (zgj HN9.out hR HFIN.out)
 ·have HD0:=hh9 (ztu hV2.out (by omega) HOUT.out h45)
  obtain ⟨Y,hY⟩:∃ z,rd s q1=z:=⟨_,rfl⟩
  have qy:(Y==45)=false:=by rw [<- hY];simpa using h45
  have HY:=hh9 hY
  clear hY h45 hV2 HOUT
  go_wp2_with fail
  refine (yat0 H0.out.2.2.2.1 hs (by omega) _ HY.out).mono ?_
  rintro e w6 ⟨rfl,hb⟩
  have HN6:=hh9 (H0.out.below hb)
  clear hb H0 HY
  go_wp2_with fail
  clear qy
  go_loopw [] (fun wr=>∃ (V:Value) (l:List Int) (q:Nat) (c:Int),Hid (NumsIn R s E 6 w wr V l q c)/\l.length<=60000/\(c=0->l.length<=q+1)/\q<=60000/\Hid (zx6 b s p l q c)) (fun wr=>zts R s.size wr)
  case atStart=>exact ⟨V,[v],q1,c1,HN6,by simp,fun _=>by simp,by omega,HD0⟩
  case round =>
   clear HN6 HD0 hpq1 hqs1
   obtain ⟨V,l,qc,cx,HN,hl6,hlq,hq6,HD⟩:=hrel
   have HM:=hh9 (HN.out.2.2.2.1.meas s.size)
   obtain ⟨f0,f1,f2,g0,g1,g2⟩:=HN.out.1.cells
   rcases HD.out with ⟨hc0,hpq,hqs,hall⟩ | ⟨hc,hqb,hans⟩
   ·subst hc0
    have hlq:=hlq rfl
    by_cases h46:rd s qc=46
    ·have H46:=hh9 h46
     have HALL:=hh9 hall
     have hlt46:qc<s.size:=zbu (by omega) h46
     clear h46 hall HD
     go_wp2_with fail
     refine (yat0 HN.out.2.2.2.1 hs (by omega) _ H46.out).mono ?_
     rintro e w6 ⟨rfl,hb⟩
     have HN6:=hh9 (HN.out.below hb)
     clear hb HN f0 f1 f2 g0 g1 g2
     obtain ⟨f0,f1,f2,g0,g1,g2⟩:=HN6.out.1.cells
     obtain ⟨d0,d1,d2,y0,y1,y2⟩:=HN6.out.2.2.2.1.cells
     obtain ⟨qx,hqx⟩:∃ qx,qc+1=qx:=⟨_,rfl⟩
     have hqx2:(qc:Int)+1=(qx:Int):=by omega
     obtain ⟨WX,hWX⟩:∃ WX,WX=w6.setCell ⟨R,1,none⟩ (.int .i64 (qx:Int)):=⟨_,rfl⟩
     have HNX:Hid (NumsIn R s E 6 w WX V l qx 0):=by rw [hWX];exact HN6.out.put hR rfl
     have HWX:=hh9 hWX
     have hqxs:qx<=s.size:=by omega
     have HQX:Hid ((0:Int)=0->qx<=s.size):=fun _=>hqxs
     have HQ1:=hh9 hqx
     clear hWX hqx
     go_wp2_with fail
     rw [<- HWX.out]
     clear f0 f1 f2 g0 g1 g2 d0 d1 d2 y0 y1 y2 HN6 HWX hqx2
     have hll:l.length<=60000:=by omega
     have HL1:Hid (l.length+1<=maxLen):=(by unfold maxLen;omega:l.length+1<=maxLen)
     have HL2:Hid ((l.length+1)*8<=140737488355328):=(by omega:(l.length+1)*8<=140737488355328)
     obtain ⟨kx,hkx⟩:∃ kx:Int,kx=6:=⟨_,rfl⟩
     obtain ⟨cx,hcx⟩:∃ cx:Int,cx=0:=⟨_,rfl⟩
     rw [<- hkx,<- hcx] at HNX
     have HQX:Hid (cx=0->qx<=s.size):=fun _=>hqxs
     have HKX:=hh9 hkx
     have HCX:=hh9 hcx
     clear hkx hcx
     obtain ⟨he,hrow,hne,ha,hg,hr,hle⟩:=HNX.out
     obtain ⟨f0,f1,f2,g0,g1,g2⟩:=he.cells
     have HAX:Hid (AtY WX.drew R s qx cx):=ha
     have HNXD:Hid (NumsIn R s E kx w WX.drew V l qx cx):=HNX.out.drew
     have hwlt:w.heap.size+1<=WX.heap.size:=by have:=he.lt;omega
     have hElt:=he.lt
     clear he hrow hne ha hg hr
     go_region_law (first
      | (refine step_append_lies _ (by rfl) _ _ _ (by rfl) (w.heap.size+1) 3 i0 _ 1 8 Tryz.underlying32 hi0 hz0 hzz1 hzz2 rfl (by omega) V l.length (zat l) (by rfl) HN8.out.2.1 ⟨w7.heap.size,0,none⟩ 1 1 [.int .i64 v2] (by rfl) (by rfl) (World.news_of_block (cs:=#[.int .i64 v2]) (t:=3) (fr:=(0,0)) (heap_alloc_new w7 _)) (by simp [Value.oneCell']) (by omega) HL1.out HL2.out HL3.out (w7.heap.size+1) (by simp) ?_;intro gg cap w8 hown1 hgrow hat hltg;have HN9:=hh9 (HN8.out.push hR hown1 hgrow (hat.elim (fun h=>.inl h) (fun h=>.inr (by rw [h];simp))));have he1:=HN8.out.1.kept hgrow HN8.out.2.2.1;obtain ⟨v0,v1,v3,r0,r1,r2⟩:=he1.cells;clear he1 hown1 hgrow hat)
      | (go_simp;go_at_call 142;refine (zkt b HBB.out HAX.out hs HQX.out).mono ?_;rintro e w7 ⟨v2,q2,c2,⟨rfl,ha7,hg7⟩,hv21,hv22,hout2⟩;have HOUT2:=hh9 hout2;have HN7:=hh9 (HNXD.out.grown hg7 ha7 hR);have hw7:w.heap.size+1<=w7.heap.size:=Nat.le_trans hwlt hg7.size;have HN8:=hh9 (HN7.out.alloc (.cells #[.int .i64 v2] 3));have HL3:Hid (w.heap.size+1<=(w7.alloc (.cells #[.int .i64 v2] 3)).heap.size):=(by simp;omega:w.heap.size+1<=(w7.alloc (.cells #[.int .i64 v2] 3)).heap.size);obtain ⟨k0,k1,k2,m0,m1,m2⟩:=HN7.out.1.cells;obtain ⟨n0,n1,n2,o0,o1,o2⟩:=HN8.out.1.cells;clear ha7 hg7 hout2))
     all_goals
      go_wp2_with fail
      have hst:=zx7 (b:=b) hpq HALL.out H46.out (by have:=HOUT2.out;rw [HCX.out,<- HQ1.out] at this;exact this)
      have HST:=hh9 hst
      rw [HKX.out] at HN9
      have hLL:(l++[v2]).length=l.length+1:=by simp
      have HLL:=hh9 hLL
      clear hst hLL HN8 HN7 HOUT2
      go_roundw
      case rel=>exact ⟨_,l++[v2],q2,c2,HN9,by rw [HLL.out];omega,fun g=>by have:=HST.out.2.1 g;rw [HLL.out];omega,by have:=HST.out.2.2;omega,HST.out.1⟩
      case measure =>
       rw [HM.out,HN9.out.2.2.2.1.meas]
       simp only [if_true]
       have:=HST.out.2
       split
       ·rename_i g
        have:=this.1 g
        omega
       ·omega
    ·obtain ⟨X,hX⟩:∃ z,rd s qc=z:=⟨_,rfl⟩
     have qx:(X==46)=false:=by rw [<- hX];simpa using h46
     have HX:=hh9 hX
     have HFIN:Hid (OutV s p (.mk 6 [] l 0 0 []) qc 0):=.inl ⟨rfl,hpq,hqs,fun d=>hall d _ (.dotsEnd h46)⟩
     clear hX h46 hall HD
     go_wp2_with fail
     refine (yat0 HN.out.2.2.2.1 hs (by omega) _ HX.out).mono ?_
     rintro e w6 ⟨rfl,hb⟩
     have HN6:=hh9 (HN.out.below hb)
     clear hb HN f0 f1 f2 g0 g1 g2
     obtain ⟨f0,f1,f2,g0,g1,g2⟩:=HN6.out.1.cells
     go_wp2_with fail
     go_quiet (fail)
     have HN9:=hh9 (HN6.out.drewN nq)
     have H2:=hh9 (zid HN9.out.2.1)
     have HRR:=hh9 HN9.out.2.2.2.2.2.1
     have HEE:=hh9 HN9.out.1
     go_wp2_with (first
      | (refine zb8 rfl _ rfl E ⟨6,⟨#[]⟩,V,0,0,.slice none 0 0⟩ rfl HEE.out ?_)
      | (refine za6 rfl _ _ rfl w.heap.size ⟨6,⟨#[]⟩,V,0,0,.slice none 0 0⟩ rfl rfl HRR.out H2.out rfl ?_))
     exact bodyPost_ret_by (zaj rfl _ _ w.heap.size ⟨6,⟨#[]⟩,V,0,0,.slice none 0 0⟩ rfl HRR.out) rfl (zgj HN9.out hR HFIN.out)
   ·obtain ⟨X,hX⟩:∃ z,rd s qc=z:=⟨_,rfl⟩
    have HX:=hh9 hX
    have HFIN:Hid (OutV s p (.mk 6 [] l 0 0 []) qc cx):=.inr ⟨hc,by omega,hans⟩
    have qc0:(cx==0)=false:=by simpa using hc
    by_cases h46:X=46
    ·subst h46
     clear hX hans HD
     go_wp2_with fail
     refine (yat0 HN.out.2.2.2.1 hs (by omega) _ HX.out).mono ?_
     rintro e w6 ⟨rfl,hb⟩
     have HN6:=hh9 (HN.out.below hb)
     clear hb HN f0 f1 f2 g0 g1 g2
     obtain ⟨f0,f1,f2,g0,g1,g2⟩:=HN6.out.1.cells
     obtain ⟨d0,d1,d2,y0,y1,y2⟩:=HN6.out.2.2.2.1.cells
     go_wp2_with fail
     go_quiet (fail)
     have HN9:=hh9 (HN6.out.drewN nq)
     have H2:=hh9 (zid HN9.out.2.1)
     have HRR:=hh9 HN9.out.2.2.2.2.2.1
     have HEE:=hh9 HN9.out.1
     go_wp2_with (first
      | (refine zb8 rfl _ rfl E ⟨6,⟨#[]⟩,V,0,0,.slice none 0 0⟩ rfl HEE.out ?_)
      | (refine za6 rfl _ _ rfl w.heap.size ⟨6,⟨#[]⟩,V,0,0,.slice none 0 0⟩ rfl rfl HRR.out H2.out rfl ?_))
     exact bodyPost_ret_by (zaj rfl _ _ w.heap.size ⟨6,⟨#[]⟩,V,0,0,.slice none 0 0⟩ rfl HRR.out) rfl (zgj HN9.out hR HFIN.out)
    ·have qx:(X==46)=false:=by simpa using h46
     clear hX h46 hans HD
     go_wp2_with fail
     refine (yat0 HN.out.2.2.2.1 hs (by omega) _ HX.out).mono ?_
     rintro e w6 ⟨rfl,hb⟩
     have HN6:=hh9 (HN.out.below hb)
     clear hb HN f0 f1 f2 g0 g1 g2
     obtain ⟨f0,f1,f2,g0,g1,g2⟩:=HN6.out.1.cells
     go_wp2_with fail
     go_quiet (fail)
     have HN9:=hh9 (HN6.out.drewN nq)
     have H2:=hh9 (zid HN9.out.2.1)
     have HRR:=hh9 HN9.out.2.2.2.2.2.1
     have HEE:=hh9 HN9.out.1
     go_wp2_with (first
      | (refine zb8 rfl _ rfl E ⟨6,⟨#[]⟩,V,0,0,.slice none 0 0⟩ rfl HEE.out ?_)
      | (refine za6 rfl _ _ rfl w.heap.size ⟨6,⟨#[]⟩,V,0,0,.slice none 0 0⟩ rfl rfl HRR.out H2.out rfl ?_))
     exact bodyPost_ret_by (zaj rfl _ _ w.heap.size ⟨6,⟨#[]⟩,V,0,0,.slice none 0 0⟩ rfl HRR.out) rfl (zgj HN9.out hR HFIN.out)
end Go.Proofs.YtekjnfldgjcgeaaGreatDoor
