/- Part 5 of what the laws of the grammar rest on. -/
import Derived.Test.YtdgcmiecgnmdjaaGreatDoorA2
import Derived.Test.YtdgcmiecgnmdjaaGreatDoorA3
import Derived.Test.YtdgcmiecgnmdjaaGreatDoorA4
import Derived.Laws.BytesString
import Derived.Maps.OwnSet
import Derived.Deep.MidRow
import Derived.Shelf.Strings.OnBuilder
import Derived.Shelf.LaysM
import Derived.Shelf.Strconv.Itoa3
import Derived.Test.YtdgcmiecgnmdjaaGreatDoorProg
set_option linter.all false
set_option maxRecDepth 100000
set_option maxHeartbeats 8000000
namespace Go.Proofs.YtdgcmiecgnmdjaaGreatDoor
open Go.RowKit
def zau:Nat->Tree->Bool
 | 0,_=>false
 | n+1,t=>zax n t
theorem zjo (n:Nat) (k lo hi:Int) (x ns:List Int) (kids:List Tree):zax n (.mk k x ns lo hi kids)=(zci k x ns lo hi kids.length&&othB k x ns lo hi kids.length&&kids.all (zau n)):=by
 cases n with
 | zero =>
  rw [zax,zla]
  congr 1
  cases kids<;>simp [zau]
 | succ n=>rw [zax,zla];rfl
def zfh (n:Nat):Prop:=∀ (W:World) (X:XV) (t:Tree) (q:Int),q=51-(n:Int)->ETree W X t->Calls Tryz.prog 109 #[X.val,.int .i64 q] W (zal (zau n t) W)
theorem ETree.ones {W:World} {X:XV} {t:Tree} (h:ETree W X t):X.ns.oneCell'=true/\X.ks.oneCell'=true:=by
 cases h with
 | mk vs h0 hl h1 h2 _ _=>exact ⟨h1.one,h2.one⟩
theorem zso {n:Nat} (hn:n<=51) (ih:zfh n) {D:Nat} {W:World} {X:XV} {t:Tree} (h:ETree W X t) (hD:W.cell? ⟨D,0,none⟩=some (.int .i64 (50-(n:Int)))) :
  Calls Tryz.prog 130 #[X.val,.pointer (some ⟨D,0,none⟩)] W (zal (zau n t) W):=by
 obtain ⟨o1,o2⟩:=h.ones
 obtain ⟨k,s,nv,lo,hi,kv⟩:=X
 obtain ⟨q,hq⟩:∃ q:Int,q=50-(n:Int):=⟨_,rfl⟩
 rw [<- hq] at hD
 have hb:=(Below.refl W.heap.size W).alloc (Nat.le_refl _) (xobj k lo hi s nv kv)
 have hDl:D<W.heap.size:=World.block_lt_of_cell? W ⟨D,0,none⟩ hD
 have HC:=hh9 (ih _ _ t (q+1) (by omega) (h.under hb))
 have q0:-1<=q:=by omega
 have q1:q<=50:=by omega
 have hD2:=(hb.cell (p:=⟨D,0,none⟩) hDl).trans hD
 unfold xobj at hb HC hD2
 have HB:=hh9 hb
 show Calls _ _ #[.agg #[.int .i64 k,.string s,nv,.int .i64 lo,.int .i64 hi,kv],.pointer (some ⟨D,0,none⟩)] W _
 clear hb h hq ih hD
 cases hp:zau n t
 all_goals
  rw [hp] at HC
  clear hp
  go_enter Tryz.func130,Tryz.ntmps130
  go_wp2_with fail
  refine HC.out.mono ?_
  rintro e w' ⟨rfl,hb⟩
  have HB2:=hh9 (za0 HB.out hb)
  clear hb
  go_wp2_with fail
  go_ret
  exact ⟨rfl,HB2.out⟩
theorem zyd {n:Nat} (hn:n<=51) (ih:zfh n) {B D:Nat} {W:World} {X:XV} {t:Tree} (h:ETree W X t) (hD:W.cell? ⟨D,0,none⟩=some (.int .i64 (50-(n:Int))))
  (hB:W.cell? ⟨B,0,none⟩=some (.func (Fn.func 130) #[] #[.pointer (some ⟨D,0,none⟩)])) :
  Calls Tryz.prog 153 #[X.val,.pointer (some ⟨B,0,none⟩)] W (zal (!zau n t) W):=by
 obtain ⟨o1,o2⟩:=h.ones
 obtain ⟨k,s,nv,lo,hi,kv⟩:=X
 have hb:=(Below.refl W.heap.size W).alloc (Nat.le_refl _) (xobj k lo hi s nv kv)
 have hDl:D<W.heap.size:=World.block_lt_of_cell? W ⟨D,0,none⟩ hD
 have hBl:B<W.heap.size:=World.block_lt_of_cell? W ⟨B,0,none⟩ hB
 have HC:=hh9 (zso hn ih (h.under hb) ((hb.cell (p:=⟨D,0,none⟩) hDl).trans hD))
 have hB2:=(hb.cell (p:=⟨B,0,none⟩) hBl).trans hB
 unfold xobj at hb HC hB2
 have HB:=hh9 hb
 show Calls _ _ #[.agg #[.int .i64 k,.string s,nv,.int .i64 lo,.int .i64 hi,kv],.pointer (some ⟨B,0,none⟩)] W _
 clear hb h ih hD hB
 cases hp:zau n t
 all_goals
  rw [hp] at HC
  clear hp
  go_enter Tryz.func153,Tryz.ntmps153
  go_wp2_with fail
  refine HC.out.mono ?_
  rintro e w' ⟨rfl,hb⟩
  have HB2:=hh9 (za0 HB.out hb)
  clear hb
  go_wp2_with fail
  go_ret
  exact ⟨rfl,HB2.out⟩
def zew (W:World) (v:Value) (vs:List XV) (kids:List Tree):Prop :=
 RowAny W v kids.length (vs.flatMap XV.cells)/\vs.length=kids.length/\∀ (i:Nat) (y:XV) (t:Tree),vs[i]?=some y->kids[i]?=some t->ETree W y t
theorem zew.below {W W':World} {v:Value} {vs:List XV} {kids:List Tree} (h:zew W v vs kids) (hb:Below W.heap.size W W'):zew W' v vs kids :=
 ⟨h.1.below hb,h.2.1,fun i y t hy ht=>(h.2.2 i y t hy ht).under hb⟩
def zqz (no:Bool) (w:World) (e:Ending) (w':World):Prop:=∃ i:Int,e=.returned (.int .i64 i)/\Below w.heap.size w w'/\-1<=i/\decide (0<=i)=no
theorem zde {P:Tree->Bool} {x:List Tree} {n:Nat} (hn:x.length<=n) (h:∀ (i:Nat) (c:Tree),i<n->x[i]?=some c->P c=true):x.all P=true:=by
 rw [List.all_eq_true]
 intro c hc
 obtain ⟨i,hi⟩:=List.getElem?_of_mem hc
 exact h i c (Nat.lt_of_lt_of_le (List.getElem?_eq_some_iff.1 hi).1 hn) hi
theorem zr0 {P:Tree->Bool} {x:List Tree} {i:Nat} {c:Tree} (h:x[i]?=some c) (hc:P c=false):x.all P=false:=by
 rw [List.all_eq_false]
 exact ⟨c,List.mem_of_getElem? h,by simp [hc]⟩
theorem zsp {n:Nat} (hn:n<=51) (ih:zfh n) {B D:Nat} {w:World} {v:Value} {vs:List XV} {kids:List Tree} (h:zew w v vs kids) (hD:w.cell? ⟨D,0,none⟩=some (.int .i64 (50-(n:Int))))
  (hB:w.cell? ⟨B,0,none⟩=some (.func (Fn.func 130) #[] #[.pointer (some ⟨D,0,none⟩)])) :
  Calls Tryz.prog 173 #[v,.func (Fn.func 153) #[] #[.pointer (some ⟨B,0,none⟩)]] w (zqz (!kids.all (zau n)) w):=by
 have hDl:D<w.heap.size:=World.block_lt_of_cell? w ⟨D,0,none⟩ hD
 have hBl:B<w.heap.size:=World.block_lt_of_cell? w ⟨B,0,none⟩ hB
 obtain ⟨h1,h2,h3⟩:=h
 obtain ⟨m,hm⟩:∃ m,m=kids.length:=⟨_,rfl⟩
 rw [<- hm] at h1 h2
 have HM:=hh9 hm
 have H2:=hh9 h2
 have H3:=hh9 h3
 have HD:=hh9 hD
 have HBB:=hh9 hB
 have IH:=hh9 ih
 rcases h1 with ⟨h0,a,cap,rfl⟩ | ⟨g,off,cap,rfl,g1,g2,g3,g4⟩
 ·have hx0:kids=[]:=List.length_eq_zero_iff.1 (by omega)
  subst hx0
  clear hm h0 hD hB h2 h3 ih
  go_enter Tryz.func173,Tryz.ntmps173
  go_wp2_with fail
  go_loop [8] (fun v=>v=.int .i64 0) (fun v=>0)
  case atStart=>rfl
  case round =>
   subst hrel
   go_wp2_with fail
   go_ret
   exact ⟨-1,rfl,Below.refl _ _,by omega,by decide⟩
 ·have G4:=hh9 g4
  unfold maxLen at g2
  clear hm hD hB h2 h3 ih g4
  go_enter Tryz.func173,Tryz.ntmps173
  go_wp2_with fail
  go_loopw [8] (fun v wr=>∃ i:Nat,v=.int .i64 i/\i<=m/\Hid (Below w.heap.size w wr)/\Hid (∀ (j:Nat) (c:Tree),j<i->kids[j]?=some c->zau n c=true)) (fun v _=>m-(intOf v).toNat)
  case atStart=>exact ⟨0,rfl,by omega,Below.refl _ _,fun j c h=>by omega⟩
  case round =>
   obtain ⟨i,rfl,hi,HBEL,HALL⟩:=hrel
   by_cases hlt:i<m
   ·obtain ⟨Y,hY⟩:∃ y,vs[i]?=some y:=⟨_,List.getElem?_eq_getElem (by rw [H2.out];exact hlt)⟩
    obtain ⟨t,ht⟩:∃ y,kids[i]?=some y:=⟨_,List.getElem?_eq_getElem (by rw [<- HM.out];exact hlt)⟩
    have HTI:=hh9 ht
    have CX:∀ (j:Nat) (u:Value),j<6->Y.cells[j]?=some u->wr.cell? ⟨g,off+(i*6+j),none⟩=some u:=fun j u hj hu =>
     (HBEL.out.cell (p:=⟨g,off+(i*6+j),none⟩) g3).trans (G4.out _ u ((zce vs i j Y hY hj).trans hu))
    have HN:=hh9 (zyd hn IH.out ((H3.out i Y t hY ht).under HBEL.out) ((HBEL.out.cell (p:=⟨D,0,none⟩) hDl).trans HD.out) ((HBEL.out.cell (p:=⟨B,0,none⟩) hBl).trans HBB.out))
    obtain ⟨k,s,nv,lo,hi',kv⟩:=Y
    have e0:=CX 0 _ (by omega) rfl
    have e1:=CX 1 _ (by omega) rfl
    have e2:=CX 2 _ (by omega) rfl
    have e3:=CX 3 _ (by omega) rfl
    have e4:=CX 4 _ (by omega) rfl
    have e5:=CX 5 _ (by omega) rfl
    rw [<- Nat.add_assoc] at e0 e1 e2 e3 e4 e5
    rw [Nat.add_zero] at e0
    clear CX hY ht
    cases hf:zau n t
    ·have HNOT:=hh9 (zr0 (P:=zau n) HTI.out hf)
     rw [hf] at HN
     clear hf
     go_wp2_with fail
     refine HN.out.mono ?_
     rintro e w' ⟨rfl,hb'⟩
     have HB2:=hh9 (za0 HBEL.out hb')
     clear hb'
     go_wp2_with fail
     go_ret
     exact ⟨(i:Int),rfl,HB2.out,by omega,by rw [HNOT.out];simp⟩
    ·have HNX:Hid (∀ (j:Nat) (c:Tree),j<i+1->kids[j]?=some c->zau n c=true):=fun j c hj hc=>by
      by_cases g:j=i
      ·subst g
       rw [HTI.out] at hc
       rw [<- Option.some.inj hc]
       exact hf
      ·exact HALL.out j c (by omega) hc
     rw [hf] at HN
     clear hf
     go_wp2_with fail
     refine HN.out.mono ?_
     rintro e w' ⟨rfl,hb'⟩
     have HB2:=hh9 (za0 HBEL.out hb')
     clear hb' e0 e1 e2 e3 e4 e5
     go_wp2_with fail
     go_roundw
     case rel=>exact ⟨i+1,by go_num,by omega,HB2,HNX⟩
     case measure=>simp [intOf];omega
   ·have hyes:kids.all (zau n)=true:=zde (n:=m) (by rw [HM.out];exact Nat.le_refl _) (fun j c h hc=>HALL.out j c (by omega) hc)
    have HYES:=hh9 hyes
    clear hyes
    go_wp2_with fail
    go_ret
    exact ⟨-1,rfl,HBEL.out,by omega,by rw [HYES.out];decide⟩
theorem zui {n:Nat} (hn:n<=51) (ih:zfh n) {B D:Nat} {w:World} {v:Value} {vs:List XV} {kids:List Tree} (h:zew w v vs kids) (hD:w.cell? ⟨D,0,none⟩=some (.int .i64 (50-(n:Int))))
  (hB:w.cell? ⟨B,0,none⟩=some (.func (Fn.func 130) #[] #[.pointer (some ⟨D,0,none⟩)])) :
  Calls Tryz.prog 152 #[v,.func (Fn.func 153) #[] #[.pointer (some ⟨B,0,none⟩)]] w (zal (!kids.all (zau n)) w):=by
 have HI:=hh9 (zsp hn ih h hD hB)
 clear h hD hB ih
 go_enter Tryz.func152,Tryz.ntmps152
 go_wp2_with fail
 refine HI.out.mono ?_
 rintro e w' ⟨i,rfl,hb,hi,hd⟩
 have HD:=hh9 hd
 have HB2:=hh9 hb
 clear hd hb
 go_wp2_with fail
 go_ret
 exact ⟨by rw [<- HD.out];exact rfl,HB2.out⟩
theorem zye {n:Nat} (hn:n<=51) (ih:zfh n) {D:Nat} {w:World} {v:Value} {vs:List XV} {kids:List Tree} (h:zew w v vs kids) (hD:w.cell? ⟨D,0,none⟩=some (.int .i64 (50-(n:Int)))) :
  Calls Tryz.prog 129 #[v,.func (Fn.func 130) #[] #[.pointer (some ⟨D,0,none⟩)]] w (zal (kids.all (zau n)) w):=by
 have hDl:D<w.heap.size:=World.block_lt_of_cell? w ⟨D,0,none⟩ hD
 have HS:=hh9 (fun o:Obj=>zui (w:=w.alloc o) (B:=w.heap.size) (D:=D) hn ih (h.below ((Below.refl _ _).alloc (Nat.le_refl _) _)) ((((Below.refl _ _).alloc (Nat.le_refl _) o).cell (p:=⟨D,0,none⟩) hDl).trans hD))
 clear h hD ih
 cases hp:kids.all (zau n)
 all_goals
  rw [hp] at HS
  clear hp
  go_enter Tryz.func129,Tryz.ntmps129
  go_wp2_with fail
  refine (HS.out _ (by unfold World.cell?;rw [heap_alloc_new];rfl)).mono ?_
  rintro e w' ⟨rfl,hb⟩
  have HB2:=hh9 (((Below.refl w.heap.size w).alloc (Nat.le_refl _) _).trans (hb.mono (by simp)))
  clear hb
  go_wp2_with fail
  go_ret
  exact ⟨rfl,HB2.out⟩
theorem zbp {W:World} {b j:Nat} {v:Value} (h:W.cell? ⟨b,j,none⟩=some v) (o:Obj):(W.alloc o).cell? ⟨b,j,none⟩=some v :=
 (((Below.refl W.heap.size W).alloc (Nat.le_refl _) o).cell (p:=⟨b,j,none⟩) (World.block_lt_of_cell? W ⟨b,j,none⟩ h)).trans h
theorem zae {W W':World} {b j:Nat} {v:Value} (h:W.cell? ⟨b,j,none⟩=some v) (hb:Below W.heap.size W W'):W'.cell? ⟨b,j,none⟩=some v :=
 (hb.cell (p:=⟨b,j,none⟩) (World.block_lt_of_cell? W ⟨b,j,none⟩ h)).trans h
theorem zsq {n:Nat} (hn:n<=50) (ih:zfh n):zfh (n+1):=by
 intro w X t q hq h
 obtain ⟨k,x,ns,lo,hi,kids⟩:=t
 have hr:zau (n+1) (.mk k x ns lo hi kids)=(zci k x ns lo hi kids.length&&othB k x ns lo hi kids.length&&kids.all (zau n)):=zjo n k lo hi x ns kids
 rw [hr]
 obtain ⟨o1,o2⟩:=h.ones
 have hb:Below w.heap.size w ((w.alloc (xobj X.kind X.lo X.hi X.text X.ns X.ks)).alloc (.cells #[.int .i64 q] 3)):=((Below.refl _ _).alloc (Nat.le_refl _) _).alloc (by simp) _
 have hX:X6 ((w.alloc (xobj X.kind X.lo X.hi X.text X.ns X.ks)).alloc (.cells #[.int .i64 q] 3)) w.heap.size X.kind X.lo X.hi X.text X.ns X.ks:=(X6.new w _ _ _ _ _ _).alloc _
 have hQ:((w.alloc (xobj X.kind X.lo X.hi X.text X.ns X.ks)).alloc (.cells #[.int .i64 q] 3)).cell? ⟨w.heap.size+1,0,none⟩=some (.int .i64 q):=by
  have:=zb5 (w.alloc (xobj X.kind X.lo X.hi X.text X.ns X.ks)) (.cells #[.int .i64 q] 3) (w.heap.size+1) (by simp)
  simp only [World.cell?,this]
  rfl
 have HA:=hh9 (fun W (hW:ETree W X (.mk k x ns lo hi kids))=>qb6 hW)
 have HO:=hh9 (fun W (hW:ETree W X (.mk k x ns lo hi kids))=>qb5 hW)
 have HE:=hh9 h
 have HK:Hid (∃ vs,zew w X.ks vs kids):=by cases h with | mk vs h0 hl h1 h2 h3 h4=>exact ⟨vs,h2,h3,h4⟩
 have HQQ:=hh9 (show q=50-(n:Int) by omega)
 have IH:=hh9 ih
 obtain ⟨xk,s,nv,xlo,xhi,kv⟩:=X
 unfold xobj at hb hX hQ
 have HB:=hh9 hb
 have HX:=hh9 hX
 have HQ:=hh9 hQ
 have q0:-1<=q:=by omega
 have q1:q<=50:=by omega
 show Calls _ _ #[.agg #[.int .i64 xk,.string s,nv,.int .i64 xlo,.int .i64 xhi,kv],.int .i64 q] w _
 clear hb hX hQ hr h hq ih
 cases hf:zci k x ns lo hi kids.length
 ·rw [hf] at HA
  clear hf
  go_enter Tryz.func109,Tryz.ntmps109
  go_wp2_with fail
  refine (HA.out _ (HE.out.under HB.out)).mono ?_
  rintro e w1 ⟨rfl,hb⟩
  have HB2:=hh9 (za0 HB.out hb)
  clear hb
  go_wp2_with fail
  go_ret
  exact ⟨rfl,HB2.out⟩
 ·rw [hf] at HA
  clear hf
  cases ho:othB k x ns lo hi kids.length
  ·rw [ho] at HO
   clear ho
   go_enter Tryz.func109,Tryz.ntmps109
   go_wp2_with fail
   refine (HA.out _ (HE.out.under HB.out)).mono ?_
   rintro e w1 ⟨rfl,hb⟩
   have HB2:=hh9 (za0 HB.out hb)
   obtain ⟨a0,a1,a2,a3,a4,a5⟩:=(HX.out.under hb).cells
   clear hb
   go_wp2_with fail
   refine (HO.out _ (HE.out.under HB2.out)).mono ?_
   rintro e w2 ⟨rfl,hb⟩
   have HB3:=hh9 (za0 HB2.out hb)
   clear hb
   go_wp2_with fail
   go_ret
   exact ⟨rfl,HB3.out⟩
  ·rw [ho] at HO
   clear ho
   cases hp:kids.all (zau n)
   all_goals
    have HP:=hh9 hp
    clear hp
    go_enter Tryz.func109,Tryz.ntmps109
    go_wp2_with fail
    refine (HA.out _ (HE.out.under HB.out)).mono ?_
    rintro e w1 ⟨rfl,hb⟩
    have HB2:=hh9 (za0 HB.out hb)
    have HX2:=hh9 (HX.out.under hb)
    have HQ2:=hh9 (zae HQ.out hb)
    obtain ⟨a0,a1,a2,a3,a4,a5⟩:=HX2.out.cells
    clear hb
    go_wp2_with fail
    refine (HO.out _ (HE.out.under HB2.out)).mono ?_
    rintro e w2 ⟨rfl,hb⟩
    have HB3:=hh9 (za0 HB2.out hb)
    have HX3:=hh9 (HX2.out.under hb)
    have HQ3:=hh9 (zae HQ2.out hb)
    clear a0 a1 a2 a3 a4 a5 hb
    obtain ⟨a0,a1,a2,a3,a4,a5⟩:=HX3.out.cells
    obtain ⟨vs,hk⟩:=HK.out
    have HC:=hh9 (zye (w:=w2) (D:=w.heap.size+1) (by omega) IH.out (hk.below HB3.out) (by rw [<- HQQ.out];exact HQ3.out))
    rw [HP.out] at HC
    clear hk
    go_wp2_with fail
    refine HC.out.mono ?_
    rintro e w3 ⟨rfl,hb⟩
    have HB4:=hh9 (za0 HB3.out hb)
    clear hb a0 a1 a2 a3 a4 a5
    go_wp2_with fail
    go_ret
    exact ⟨rfl,HB4.out⟩
theorem zsr:zfh 0:=by
 intro w X t q hq0 h
 obtain ⟨o1,o2⟩:=h.ones
 obtain ⟨xk,s,nv,xlo,xhi,kv⟩:=X
 have hq:50<q:=by omega
 clear hq0
 have q1:decide (q<=50)=false:=decide_eq_false (by omega)
 have hb:Below w.heap.size w ((w.alloc (xobj xk xlo xhi s nv kv)).alloc (.cells #[.int .i64 q] 3)):=((Below.refl _ _).alloc (Nat.le_refl _) _).alloc (by simp) _
 unfold xobj at hb
 have HB:=hh9 hb
 show Calls _ _ #[.agg #[.int .i64 xk,.string s,nv,.int .i64 xlo,.int .i64 xhi,kv],.int .i64 q] w (zal false w)
 clear hb h
 go_enter Tryz.func109,Tryz.ntmps109
 go_wp2_with fail
 go_ret
 exact ⟨rfl,HB.out⟩
theorem znw:∀ n,n<=51->zfh n
 | 0,_=>zsr
 | n+1,h=>zsq (by omega) (znw n (by omega))
theorem zuj {w:World} {X:XV} {t:Tree} (h:ETree w X t):Calls Tryz.prog 81 #[X.val] w (zal (zax 50 t) w):=by
 obtain ⟨o1,o2⟩:=h.ones
 have hb:=(Below.refl w.heap.size w).alloc (Nat.le_refl _) (xobj X.kind X.lo X.hi X.text X.ns X.ks)
 have HC:=hh9 (znw 51 (by omega) _ X t 0 (by omega) (h.under hb))
 have e:zau 51 t=zax 50 t:=rfl
 rw [e] at HC
 obtain ⟨xk,s,nv,xlo,xhi,kv⟩:=X
 unfold xobj at hb HC
 have HB:=hh9 hb
 show Calls _ _ #[.agg #[.int .i64 xk,.string s,nv,.int .i64 xlo,.int .i64 xhi,kv]] w _
 clear hb h e
 cases hp:zax 50 t
 all_goals
  rw [hp] at HC
  clear hp
  go_enter Tryz.func81,Tryz.ntmps81
  go_wp2_with fail
  refine HC.out.mono ?_
  rintro e w1 ⟨rfl,hb⟩
  have HB2:=hh9 (za0 HB.out hb)
  clear hb
  go_wp2_with fail
  go_ret
  exact ⟨rfl,HB2.out⟩
def zft (W:World):Prop:=W.cell? ⟨6,15,none⟩=some (.int .u8 4)
theorem zft.below {W W':World} (h:zft W) (hb:Below W.heap.size W W'):zft W':=zae h hb
theorem qb7 (w:World):Calls Tryz.prog 196 #[.int .i64 16] w (zd3 true w):=by
 have h1:bits .and .i64 16 15=0:=by decide +kernel
 go_enter Tryz.func196,Tryz.ntmps196
 go_wp2
 go_ret
 exact ⟨rfl,rfl⟩
theorem zss {w:World} (h:zft w):Calls Tryz.prog 203 #[.int .u64 16] w fun e w'=>e=.returned (.int .i64 4)/\w=w':=by
 unfold zft at h
 have h1:bits .and .u64 16 (IntKind.u64.wrap (-16))=16:=by decide +kernel
 have h2:IntKind.u64.wrap 4573923408821661840=4573923408821661840:=by decide +kernel
 have h3:IntKind.u64.wrap (16*285870213051353865)=4573923408821661840:=by decide +kernel
 go_enter Tryz.func203,Tryz.ntmps203
 go_wp2
 go_ret
 exact ⟨rfl,rfl⟩
theorem zyf {w:World} (h:zft w):Calls Tryz.prog 197 #[.int .u64 16] w fun e w'=>e=.returned (.int .i64 4)/\w=w':=by
 have HZ:=hh9 (zss h)
 go_enter Tryz.func197,Tryz.ntmps197
 go_wp2_with fail
 refine HZ.out.mono ?_
 rintro e w' ⟨rfl,rfl⟩
 go_wp2_with fail
 go_ret
 exact ⟨rfl,rfl⟩
def lexC (n:Nat):Int:=if n<10 then 48+n else 87+n
def lexF:Nat->Nat->List Int
 | 0,_=>[]
 | f+1,n=>(if n<16 then [] else lexF f (n / 16))++[lexC (n%16)]
theorem zuk {f n:Nat} (h:16<=n):lexF (f+1) n=lexF f (n / 16)++[lexC (n%16)]:=by rw [lexF,if_neg (by omega)]
theorem zul {f n:Nat} (h:n<16):lexF (f+1) n=[lexC n]:=by rw [lexF,if_pos h,Nat.mod_eq_of_lt h];rfl
theorem zlb {n:Nat} (h:n<16):48<=lexC n/\lexC n<=102:=by unfold lexC;split<;>omega
theorem zlc:∀ (f n:Nat) (c:Int),c∈lexF f n->0<=c/\c<=255
 | 0,_,_,h=>by simp [lexF] at h
 | f+1,n,c,h=>by
  unfold lexF at h
  rw [List.mem_append] at h
  rcases h with h | h
  ·split at h
   ·simp at h
   ·exact zlc f _ c h
  ·have:=zlb (n:=n%16) (by omega)
   simp at h
   omega
def zgp (y:List Int):Array Value:=(List.replicate (65-y.length) (Value.int .u8 0)++y.map (Value.int .u8)).toArray
theorem zst {y:List Int} (h:y.length<65) (c:Int):(zgp y).setIfInBounds (64-y.length) (.int .u8 c)=zgp (c::y):=by
 unfold zgp
 have e:65-y.length=(64-y.length)+1:=by omega
 have e2:65-(c::y).length=64-y.length:=by simp
 rw [e,e2]
 generalize 64-y.length=m
 rw [List.setIfInBounds_toArray]
 congr 1
 rw [List.replicate_succ',List.append_assoc,List.set_append_right _ _ (by simp)]
 simp
theorem zum {y:List Int} (h:y.length<=65) (j:Nat) (c:Int) (hc:y[j]?=some c):(zgp y)[65-y.length+j]?=some (.int .u8 c):=by
 unfold zgp
 rw [List.getElem?_toArray,List.getElem?_append_right (by simp)]
 simp [hc]
theorem zps {y:List Int} (h:y.length<65):(zgp y)[64-y.length]?=some (.int .u8 0):=by
 unfold zgp
 rw [List.getElem?_toArray,List.getElem?_append_left (by simp;omega),List.getElem?_replicate,if_pos (by omega)]
theorem zun (w:World):(zeroValue 190).run Tryz.prog w=.ok (.agg (zgp [])) w:=by kernel_rfl
def Dg (B:Nat) (y:List Int) (W:World):Prop:=W.heap[B]?=some (.cells (zgp y) 190 (0,0))
theorem Dg.cell {B:Nat} {y:List Int} {W:World} (h:Dg B y W) (hl:y.length<65):W.cell? ⟨B,64-y.length,none⟩=some (.int .u8 0):=by
 unfold Dg at h
 simp only [World.cell?,h]
 exact zps hl
theorem Dg.frozen {B:Nat} {y:List Int} {W:World} (h:Dg B y W) (j:Nat):W.frozen? ⟨B,j,none⟩=false:=by
 unfold Dg at h
 simp [World.frozen?,h]
theorem Dg.set {B:Nat} {y:List Int} {W:World} (h:Dg B y W) (hl:y.length<65) (c:Int):Dg B (c::y) (W.setCell ⟨B,64-y.length,none⟩ (.int .u8 c)):=by
 unfold Dg at h ⊢
 rw [setCell_eq_setRow _ _ _ _ _ _ _ h,zst hl]
 exact setRow_heap _ _ _ _ _ _ h
theorem Dg.read {B:Nat} {y:List Int} {W:World} (h:Dg B y W) (hl:y.length<=65) (j:Nat) (c:Int) (hc:y[j]?=some c):W.cell? ⟨B,65-y.length+j,none⟩=some (.int .u8 c):=by
 unfold Dg at h
 simp only [World.cell?,h]
 exact zum hl j c hc
theorem zr1 (n:Nat) (h:n<18446744073709551616):(BitVec.ofInt 64 (n:Int)).toNat=n:=by
 simp [BitVec.toNat_ofInt]
 omega
theorem and15 (m:Nat) (h:m<16777216):bits .and .u64 (m:Int) 15=((m%16:Nat):Int):=by
 show IntKind.u64.wrap ((BitVec.ofInt 64 (m:Int) &&& BitVec.ofInt 64 ((15:Nat):Int)).toNat:Int)=_
 rw [BitVec.toNat_and,zr1 m (by omega),zr1 15 (by omega)]
 have e:=Nat.and_two_pow_sub_one_eq_mod m 4
 rw [show 2 ^ 4-1=15 by decide,show 2 ^ 4=16 by decide] at e
 rw [e,IntKind.wrap_u64]
 omega
theorem qai {a:Nat} (h:a<16) (h2:a<(⟨#[48,49,50,51,52,53,54,55,56,57,97,98,99,100,101,102,103,104,105,106,107,108,109,110,111,112,113,114,115,116,117,118,119,120,121,122]⟩:ByteArray).size) :
  (((⟨#[48,49,50,51,52,53,54,55,56,57,97,98,99,100,101,102,103,104,105,106,107,108,109,110,111,112,113,114,115,116,117,118,119,120,121,122]⟩:ByteArray)[a]'h2).toNat:Int)=lexC a:=by
 have key:∀ i:Fin 16,(((⟨#[48,49,50,51,52,53,54,55,56,57,97,98,99,100,101,102,103,104,105,106,107,108,109,110,111,112,113,114,115,116,117,118,119,120,121,122]⟩:ByteArray)[i.val]'(Nat.lt_of_lt_of_le i.isLt (by decide))).toNat:Int)=lexC i.val:=by decide +kernel
 exact key ⟨a,h⟩
theorem zsu (n:Nat) (hn:n<=1114111) {w:World} (hB:zft w):Calls Tryz.prog 179 #[.slice none 0 0,.int .u64 n,.int .i64 16,.bool false,.bool false] w
  fun e w'=>e=.returned (.tuple #[.slice none 0 0,.string (za3 (lexF 6 n))])/\Below w.heap.size w w':=by
 obtain ⟨Z,hZ⟩:∃ Z,Z=zgp []:=⟨_,rfl⟩
 have hz:∀ w:World,(zeroValue 190).run Tryz.prog w=.ok (.agg Z) w:=by
  intro w;rw [hZ];exact zun w
 have HZ:=hh9 hZ
 have HP:=hh9 (fun W=>qb7 W)
 have HT:=hh9 (fun (o:Obj)=>zyf (w:=w.alloc o) (hB.below ((Below.refl _ _).alloc (Nat.le_refl _) _)))
 clear hZ hB
 go_enter Tryz.func179,Tryz.ntmps179
 go_wp2_with fail
 refine (HP.out _).mono ?_
 rintro e w' ⟨rfl,rfl⟩
 go_wp2_with fail
 refine (HT.out _).mono ?_
 rintro e w' ⟨rfl,rfl⟩
 go_wp2_with fail
 go_loopw [1,13] (fun u i wr=>∃ (m:Nat) (y:List Int),u=.int .u64 m/\i=.int .i64 (65-(y.length:Int))/\y.length<=5/\m<16 ^ (6-y.length)/\Hid (lexF 6 n=lexF (6-y.length) m++y)/\Hid (Dg w.heap.size y wr)/\Hid (Below w.heap.size w wr)) (fun u _ _=>(intOf u).toNat)
 case atStart =>
  refine ⟨n,[],rfl,rfl,by simp,by show n<16 ^ 6;rw [show (16:Nat) ^ 6=16777216 by decide];omega,by show lexF 6 n=lexF 6 n++[];simp,?_,(Below.refl _ _).alloc (Nat.le_refl _) _⟩
  unfold Hid Dg
  rw [<- HZ.out]
  exact heap_alloc_new w _
 case round =>
  obtain ⟨m,y,rfl,rfl,hy,hm,HL,HD,HBEL⟩:=hrel
  obtain ⟨l,hl⟩:∃ l,l=y.length:=⟨_,rfl⟩
  obtain ⟨q,hq⟩:∃ q:Nat,64-l=q:=⟨_,rfl⟩
  have hq2:65-(l:Int)-1=(q:Int):=by omega
  have hqb:q<65:=by omega
  have hc:=HD.out.cell (by omega)
  have hf:=HD.out.frozen (64-y.length)
  rw [<- hl,hq] at hc hf
  rw [<- hl] at hm hy HL ⊢
  have hm24:m<16777216:=Nat.lt_of_lt_of_le hm (Nat.pow_le_pow_right (n:=16) (by omega) (by omega:6-l<=6))
  obtain ⟨a,ha⟩:∃ a:Nat,m%16=a:=⟨_,rfl⟩
  have ha16:a<16:=by omega
  have hand:bits .and .u64 (m:Int) 15=(a:Int):=by rw [<- ha];exact and15 m hm24
  by_cases h16:16<=m
  ·have q16:decide ((16:Int)<=(m:Int))=true:=decide_eq_true (by omega)
   obtain ⟨d,hd⟩:∃ d:Nat,m / 16=d:=⟨_,rfl⟩
   have hdi:(m:Int) / 16=(d:Int):=by omega
   have hl4:l<=4:=by
    rcases Nat.lt_or_ge l 5 with g | g
    ·omega
    ·have:l=5:=by omega
     subst this
     simp at hm
     omega
   have HNX:=hh9 (show lexF 6 n=lexF (6-(l+1)) d++(lexC a::y) by
    rw [HL.out,show 6-l=(6-(l+1))+1 by omega,zuk h16,hd,ha]
    simp)
   have HM:=hh9 (show d<16 ^ (6-(l+1)) by
    have e:6-l=6-(l+1)+1:=by omega
    rw [e,Nat.pow_succ] at hm
    omega)
   have HHL:=hh9 hl
   have HQ:=hh9 hq
   clear hm ha hd hl hq
   go_wp2_with fail
   go_roundw
   case rel =>
    refine ⟨d,lexC a::y,rfl,?_,?_,?_,?_,?_,?_⟩
    ·rw [List.length_cons,<- HHL.out]
     congr 1
     have:=HQ.out
     omega
    ·rw [List.length_cons,<- HHL.out];omega
    ·rw [List.length_cons,<- HHL.out];exact HM.out
    ·unfold Hid
     rw [List.length_cons,<- HHL.out];exact HNX.out
    ·unfold Hid
     rw [qai ha16]
     have:=HD.out.set (by rw [<- HHL.out];omega) (lexC a)
     rw [<- HHL.out,HQ.out] at this
     exact this
    ·exact HBEL.out.setCell (Nat.le_refl _) _
   case measure=>simp [intOf];omega
  ·have q16:decide ((16:Int)<=(m:Int))=false:=decide_eq_false (by omega)
   have hm16:m<16:=by omega
   have HFIN:=hh9 (show lexF 6 n=lexC m::y by
    rw [HL.out,show 6-l=(5-l)+1 by omega,zul hm16]
    rfl)
   have HHL:=hh9 hl
   have HQ:=hh9 hq
   have hal:Tryz.prog.arrayLen 190=65:=by kernel_rfl
   have hsl:∀ W,(Instr.sliceAt 190 (.pointer (some ⟨w.heap.size,0,none⟩)) (some (.int .i64 (q:Int))) none none).run Tryz.prog W=.ok (.slice (some ⟨w.heap.size,q,none⟩) (65-q) (65-q)) W:=fun W=>by
    rw [run_sliceAt_array_l W 190 ⟨w.heap.size,0,none⟩ (by kernel_rfl) .i64 (q:Int) (by omega) (by rw [hal];omega),hal]
    have hne:¬ 65=q:=by omega
    go_simp
   obtain ⟨W2,hW2⟩:∃ W,W=wr.setCell ⟨w.heap.size,q,none⟩ (.int .u8 (lexC m)):=⟨_,rfl⟩
   have hD2:Dg w.heap.size (lexC m::y) W2:=by
    have:=HD.out.set (by rw [<- HHL.out];omega) (lexC m)
    rw [<- HHL.out,HQ.out] at this
    rw [hW2]
    exact this
   have hr:∀ c∈(lexC m::y),0<=c/\c<=255:=by
    intro c hc
    rw [<- HFIN.out] at hc
    exact zlc 6 n c hc
   have kc:(convert 40 9 (.slice (some ⟨w.heap.size,q,none⟩) (65-q) (65-q))).run Tryz.prog W2=.ok (.string (za3 (lexC m::y))) W2:=by
    have hlen:(65-q)=((lexC m::y).map byt).length:=by
     rw [List.length_map,List.length_cons,<- HHL.out]
     have:=HQ.out
     omega
    have:=run_convert_bytes_back (P:=Tryz.prog) W2 40 9 5 ⟨w.heap.size,q,none⟩ (65-q) ((lexC m::y).map byt) Tryz.underlying40 Tryz.underlying5 Tryz.underlying9 (fun j hj=>by
     have hj2:j<(lexC m::y).length:=by simpa using hj
     have hc:=hD2.read (by rw [List.length_cons,<- HHL.out];omega) j _ (List.getElem?_eq_getElem hj2)
     have e1:65-(lexC m::y).length+j=q+j:=by
      rw [List.length_cons,<- HHL.out]
      have:=HQ.out
      omega
     rw [e1] at hc
     have e2:(⟨w.heap.size,q,none⟩:Addr).add j=⟨w.heap.size,q+j,none⟩:=by cases j<;>simp [Addr.add]
     rw [e2,hc]
     have:=hr _ (List.getElem_mem hj2)
     rw [List.getElem_map]
     congr 2
     unfold byt
     simp
     omega)
    rw [<- hlen] at this
    exact this
   have HBF:=hh9 (show Below w.heap.size w W2 by rw [hW2];exact HBEL.out.setCell (Nat.le_refl _) _)
   rw [hW2] at kc HBF
   have HSTR:=hh9 (show za3 (lexC m::y)=za3 (lexF 6 n) by rw [HFIN.out])
   rw [<- qai hm16 (by exact Nat.lt_of_lt_of_le hm16 (by decide))] at kc HBF HSTR
   clear hm ha hl hq hand hW2 hD2 hr hal
   go_wp2_with fail
   go_ret2
   exact ⟨congrArg (fun u=>Ending.returned (Value.tuple #[.slice none 0 0,Value.string u])) HSTR.out,HBF.out⟩
theorem zyg (n:Nat) (hn:n<=1114111) {w:World} (hB:zft w):Calls Tryz.prog 159 #[.int .i64 n,.int .i64 16] w
  fun e w'=>e=.returned (.string (za3 (lexF 6 n)))/\Below w.heap.size w w':=by
 have HB:=hh9 (zsu n hn hB)
 have hw:IntKind.u64.wrap (n:Int)=(n:Int):=by rw [IntKind.wrap_u64];omega
 clear hB
 go_enter Tryz.func159,Tryz.ntmps159
 go_wp2_with fail
 refine HB.out.mono ?_
 rintro e w' ⟨rfl,hb⟩
 have HB2:=hh9 hb
 clear hb
 go_wp2_with fail
 go_ret
 exact ⟨rfl,HB2.out⟩
theorem zuo (n:Nat) (hn:n<=1114111) {w:World} (hB:zft w):Calls Tryz.prog 137 #[.int .i64 n,.int .i64 16] w
  fun e w'=>e=.returned (.string (za3 (lexF 6 n)))/\Below w.heap.size w w':=by
 have HB:=hh9 (zyg n hn hB)
 clear hB
 go_enter Tryz.func137,Tryz.ntmps137
 go_wp2_with fail
 refine HB.out.mono ?_
 rintro e w' ⟨rfl,hb⟩
 have HB2:=hh9 hb
 clear hb
 go_wp2_with fail
 go_ret
 exact ⟨rfl,HB2.out⟩
end Go.Proofs.YtdgcmiecgnmdjaaGreatDoor
namespace Go.Proofs
open Go.Shelf
def Tryz.lays158_ren:Go.Shelf.Ren:=⟨fun | 158=>136 | 165=>110 | 166=>111 | 167=>142 | 169=>112 | 230=>143 | 203=>158 | 240=>131 | 241=>132 | 197=>164 | 118=>165 | 168=>166 | 270=>167 | 262=>168 | 276=>154 | 277=>155 | 260=>183 | 242=>184 | 313=>185 | 278=>198 | 274=>199 | 275=>200 | n=>n,fun | 9=>9 | 4=>4 | 3=>3 | 5=>5 | 72=>135 | 0=>0 | 76=>139 | 75=>138 | 107=>154 | 70=>133 | 20=>20 | 37=>40 | 127=>147 | 21=>21 | 105=>164 | 164=>158 | 162=>183 | 203=>181 | 119=>193 | 46=>191 | 139=>196 | 138=>195 | 51=>189 | 160=>197 | 208=>204 | 206=>202 | 80=>113 | n=>n,fun | 13=>1 | 3=>3 | 4=>4 | n=>n⟩
theorem Tryz.lays158:Go.Proofs.Lays.n158 Tryz.prog Tryz.lays158_ren:={
 mixed:=by kernel_rfl
 f118:=Tryz.func165.trans (congrArg some (by kernel_rfl))
 f158:=Tryz.func136.trans (congrArg some (by kernel_rfl))
 f165:=Tryz.func110.trans (congrArg some (by kernel_rfl))
 f166:=Tryz.func111.trans (congrArg some (by kernel_rfl))
 f167:=Tryz.func142.trans (congrArg some (by kernel_rfl))
 f168:=Tryz.func166.trans (congrArg some (by kernel_rfl))
 f169:=Tryz.func112.trans (congrArg some (by kernel_rfl))
 f197:=Tryz.func164.trans (congrArg some (by kernel_rfl))
 f203:=Tryz.func158.trans (congrArg some (by kernel_rfl))
 f230:=Tryz.func143.trans (congrArg some (by kernel_rfl))
 f240:=Tryz.func131.trans (congrArg some (by kernel_rfl))
 f241:=Tryz.func132.trans (congrArg some (by kernel_rfl))
 f242:=Tryz.func184.trans (congrArg some (by kernel_rfl))
 f260:=Tryz.func183.trans (congrArg some (by kernel_rfl))
 f262:=Tryz.func168.trans (congrArg some (by kernel_rfl))
 f270:=Tryz.func167.trans (congrArg some (by kernel_rfl))
 f274:=Tryz.func199.trans (congrArg some (by kernel_rfl))
 f275:=Tryz.func200.trans (congrArg some (by kernel_rfl))
 f276:=Tryz.func154.trans (congrArg some (by kernel_rfl))
 f277:=Tryz.func155.trans (congrArg some (by kernel_rfl))
 f278:=Tryz.func198.trans (congrArg some (by kernel_rfl))
 f313:=Tryz.func185.trans (congrArg some (by kernel_rfl))
 t0:=Tryz.underlying0
 a0:=Tryz.isAgg0
 z0:=Tryz.sizeOf0
 v0:=Tryz.zeroValue0
 t3:=Tryz.underlying3
 a3:=Tryz.isAgg3
 z3:=Tryz.sizeOf3
 v3:=Tryz.zeroValue3
 t4:=Tryz.underlying4
 a4:=Tryz.isAgg4
 z4:=Tryz.sizeOf4
 v4:=Tryz.zeroValue4
 t5:=Tryz.underlying5
 a5:=Tryz.isAgg5
 z5:=Tryz.sizeOf5
 v5:=Tryz.zeroValue5
 t9:=Tryz.underlying9
 a9:=Tryz.isAgg9
 z9:=Tryz.sizeOf9
 v9:=Tryz.zeroValue9
 t20:=Tryz.underlying20
 a20:=Tryz.isAgg20
 z20:=Tryz.sizeOf20
 v20:=Tryz.zeroValue20
 t21:=Tryz.underlying21
 a21:=Tryz.isAgg21
 z21:=Tryz.sizeOf21
 v21:=Tryz.zeroValue21
 t37:=Tryz.underlying40
 a37:=Tryz.isAgg40
 z37:=Tryz.sizeOf40
 v37:=Tryz.zeroValue40
 t46:=Tryz.underlying191
 a46:=Tryz.isAgg191
 z46:=Tryz.sizeOf191
 v46:=Tryz.zeroValue191
 t51:=Tryz.underlying189
 a51:=Tryz.isAgg189
 z51:=Tryz.sizeOf189
 v51:=Tryz.zeroValue189
 t70:=Tryz.underlying133
 a70:=Tryz.isAgg133
 z70:=Tryz.sizeOf133
 v70:=Tryz.zeroValue133
 t72:=Tryz.underlying135
 a72:=Tryz.isAgg135
 z72:=Tryz.sizeOf135
 v72:=Tryz.zeroValue135
 t75:=Tryz.underlying138
 a75:=Tryz.isAgg138
 z75:=Tryz.sizeOf138
 v75:=Tryz.zeroValue138
 t76:=Tryz.underlying139
 a76:=Tryz.isAgg139
 z76:=Tryz.sizeOf139
 v76:=Tryz.zeroValue139
 t105:=Tryz.underlying164
 a105:=Tryz.isAgg164
 z105:=Tryz.sizeOf164
 v105:=Tryz.zeroValue164
 t107:=Tryz.underlying154
 a107:=Tryz.isAgg154
 z107:=Tryz.sizeOf154
 v107:=Tryz.zeroValue154
 t119:=Tryz.underlying193
 a119:=Tryz.isAgg193
 z119:=Tryz.sizeOf193
 t127:=Tryz.underlying147
 a127:=Tryz.isAgg147
 z127:=Tryz.sizeOf147
 v127:=Tryz.zeroValue147
 t138:=Tryz.underlying195
 a138:=Tryz.isAgg195
 z138:=Tryz.sizeOf195
 v138:=Tryz.zeroValue195
 t139:=Tryz.underlying196
 a139:=Tryz.isAgg196
 z139:=Tryz.sizeOf196
 v139:=Tryz.zeroValue196
 t160:=Tryz.underlying197
 a160:=Tryz.isAgg197
 z160:=Tryz.sizeOf197
 v160:=Tryz.zeroValue197
 t162:=Tryz.underlying183
 a162:=Tryz.isAgg183
 z162:=Tryz.sizeOf183
 v162:=Tryz.zeroValue183
 t164:=Tryz.underlying158
 a164:=Tryz.isAgg158
 z164:=Tryz.sizeOf158
 v164:=Tryz.zeroValue158
 t203:=Tryz.underlying181
 a203:=Tryz.isAgg181
 z203:=Tryz.sizeOf181
 v203:=Tryz.zeroValue181
 t206:=Tryz.underlying202
 a206:=Tryz.isAgg202
 z206:=Tryz.sizeOf202
 v206:=Tryz.zeroValue202
 t208:=Tryz.underlying204
 a208:=Tryz.isAgg204
 z208:=Tryz.sizeOf204
 v208:=Tryz.zeroValue204
 g3:=by kernel_rfl
 g4:=by kernel_rfl
 g13:=by kernel_rfl }
theorem Tryz.Builder_Extra_158:Builder.Extra Tryz.prog Tryz.lays158_ren:={
 sizeBuilder:=by kernel_rfl
 liesBuilder:=by kernel_rfl
 t5:=Tryz.underlying5
 a5:=Tryz.isAgg5
 z5:=Tryz.sizeOf5
 v5:=Tryz.zeroValue5
 infoByte:=by kernel_rfl
 cellsByte:=by kernel_rfl
 sizeByte:=by kernel_rfl
 neB5:=by decide }
open Go.RowKit in
theorem Tryz.strings_ToUpper_ascii (s:ByteArray) (w:World) (hs:s.size<=140737488355328) (hascii:∀ (j:Nat) (b:UInt8),s.data.toList[j]?=some b->b.toNat<128) :
  Calls Tryz.prog 136 #[.string s] w fun e w'=>e=.returned (.string ⟨(Lib.toUpperA s.data.toList).toArray⟩)/\Below w.heap.size w w':=Any.strings_ToUpper_ascii Tryz.lays158 Tryz.Builder_Extra_158 s w hs hascii
def Tryz.lays156_ren:Go.Shelf.Ren:=⟨fun | 156=>82 | 165=>110 | 166=>111 | 169=>112 | 240=>131 | 241=>132 | 276=>154 | 277=>155 | n=>n,fun | 31=>34 | 9=>9 | 3=>3 | 4=>4 | 0=>0 | 20=>20 | 72=>135 | 76=>139 | 70=>133 | 37=>40 | 75=>138 | 127=>147 | 164=>158 | 5=>5 | 80=>113 | n=>n,fun | n=>n⟩
theorem Tryz.lays156:Go.Proofs.Lays.n156 Tryz.prog Tryz.lays156_ren:={
 mixed:=by kernel_rfl
 f156:=Tryz.func82.trans (congrArg some (by kernel_rfl))
 f165:=Tryz.func110.trans (congrArg some (by kernel_rfl))
 f166:=Tryz.func111.trans (congrArg some (by kernel_rfl))
 f169:=Tryz.func112.trans (congrArg some (by kernel_rfl))
 f240:=Tryz.func131.trans (congrArg some (by kernel_rfl))
 f241:=Tryz.func132.trans (congrArg some (by kernel_rfl))
 f276:=Tryz.func154.trans (congrArg some (by kernel_rfl))
 f277:=Tryz.func155.trans (congrArg some (by kernel_rfl))
 t0:=Tryz.underlying0
 a0:=Tryz.isAgg0
 z0:=Tryz.sizeOf0
 v0:=Tryz.zeroValue0
 t3:=Tryz.underlying3
 a3:=Tryz.isAgg3
 z3:=Tryz.sizeOf3
 v3:=Tryz.zeroValue3
 t4:=Tryz.underlying4
 a4:=Tryz.isAgg4
 z4:=Tryz.sizeOf4
 v4:=Tryz.zeroValue4
 t9:=Tryz.underlying9
 a9:=Tryz.isAgg9
 z9:=Tryz.sizeOf9
 v9:=Tryz.zeroValue9
 t20:=Tryz.underlying20
 a20:=Tryz.isAgg20
 z20:=Tryz.sizeOf20
 v20:=Tryz.zeroValue20
 t31:=Tryz.underlying34
 a31:=Tryz.isAgg34
 z31:=Tryz.sizeOf34
 v31:=Tryz.zeroValue34
 t37:=Tryz.underlying40
 a37:=Tryz.isAgg40
 z37:=Tryz.sizeOf40
 v37:=Tryz.zeroValue40
 t70:=Tryz.underlying133
 a70:=Tryz.isAgg133
 z70:=Tryz.sizeOf133
 v70:=Tryz.zeroValue133
 t72:=Tryz.underlying135
 a72:=Tryz.isAgg135
 z72:=Tryz.sizeOf135
 v72:=Tryz.zeroValue135
 t75:=Tryz.underlying138
 a75:=Tryz.isAgg138
 z75:=Tryz.sizeOf138
 v75:=Tryz.zeroValue138
 t76:=Tryz.underlying139
 a76:=Tryz.isAgg139
 z76:=Tryz.sizeOf139
 v76:=Tryz.zeroValue139
 t127:=Tryz.underlying147
 a127:=Tryz.isAgg147
 z127:=Tryz.sizeOf147
 v127:=Tryz.zeroValue147
 t164:=Tryz.underlying158
 a164:=Tryz.isAgg158
 z164:=Tryz.sizeOf158
 v164:=Tryz.zeroValue158 }
theorem Tryz.Builder_Extra_156:Builder.Extra Tryz.prog Tryz.lays156_ren:={
 sizeBuilder:=by kernel_rfl
 liesBuilder:=by kernel_rfl
 t5:=Tryz.underlying5
 a5:=Tryz.isAgg5
 z5:=Tryz.sizeOf5
 v5:=Tryz.zeroValue5
 infoByte:=by kernel_rfl
 cellsByte:=by kernel_rfl
 sizeByte:=by kernel_rfl
 neB5:=by decide }
open Go.RowKit in
theorem Tryz.strings_Join (bk o c:Nat) (xs:List ByteArray) (sep:ByteArray) (w:World) (hcells:∀ (j:Nat) x,xs[j]?=some x->w.cell? ⟨bk,o+j,none⟩=some (.string x)) (hbk:bk<w.heap.size) (hN:xs.length<=140737488355328) (hcap:xs.length<=c) (hlen:(Lib.join (xs.map (·.data.toList)) sep.data.toList).length<=140737488355328) :
  Calls Tryz.prog 82 #[.slice (some ⟨bk,o,none⟩) xs.length c,.string sep] w fun e w'=>e=.returned (.string ⟨(Lib.join (xs.map (·.data.toList)) sep.data.toList).toArray⟩)/\Below w.heap.size w w':=Any.strings_Join Tryz.lays156 Tryz.Builder_Extra_156 bk o c xs sep w hcells hbk hN hcap hlen
def Tryz.laysM171_ren:Go.Shelf.Ren:=⟨fun | 171=>157 | 243=>175 | 246=>159 | 283=>176 | 284=>177 | 285=>178 | 286=>179 | 129=>194 | 317=>193 | 318=>195 | 319=>196 | 320=>197 | 337=>202 | 338=>203 | n=>n,fun | 3=>3 | 9=>9 | 2=>2 | 4=>4 | 171=>173 | 0=>0 | 53=>174 | 37=>40 | 5=>5 | 173=>177 | 212=>188 | 51=>189 | 20=>20 | 213=>190 | 46=>191 | 232=>205 | 233=>206 | n=>n,fun | 17=>2 | 18=>5 | 19=>6 | n=>n⟩
theorem Tryz.laysM171:Go.Proofs.LaysM.n171 Tryz.prog Tryz.laysM171_ren:={
 mixed:=by kernel_rfl
 f129:=Tryz.func194.trans (congrArg some (by kernel_rfl))
 f171:=Tryz.func157.trans (congrArg some (by kernel_rfl))
 f243:=Tryz.func175.trans (congrArg some (by kernel_rfl))
 f246:=Tryz.func159.trans (congrArg some (by kernel_rfl))
 f283:=Tryz.func176.trans (congrArg some (by kernel_rfl))
 f284:=Tryz.func177.trans (congrArg some (by kernel_rfl))
 f285:=Tryz.func178.trans (congrArg some (by kernel_rfl))
 f286:=Tryz.func179.trans (congrArg some (by kernel_rfl))
 f317:=Tryz.func193.trans (congrArg some (by kernel_rfl))
 f318:=Tryz.func195.trans (congrArg some (by kernel_rfl))
 f319:=Tryz.func196.trans (congrArg some (by kernel_rfl))
 f320:=Tryz.func197.trans (congrArg some (by kernel_rfl))
 f337:=Tryz.func202.trans (congrArg some (by kernel_rfl))
 f338:=Tryz.func203.trans (congrArg some (by kernel_rfl))
 t0:=Tryz.underlying0
 a0:=Tryz.isAgg0
 z0:=Tryz.sizeOf0
 v0:=Tryz.zeroValue0
 t2:=Tryz.underlying2
 a2:=Tryz.isAgg2
 z2:=Tryz.sizeOf2
 v2:=Tryz.zeroValue2
 t3:=Tryz.underlying3
 a3:=Tryz.isAgg3
 z3:=Tryz.sizeOf3
 v3:=Tryz.zeroValue3
 t4:=Tryz.underlying4
 a4:=Tryz.isAgg4
 z4:=Tryz.sizeOf4
 v4:=Tryz.zeroValue4
 t5:=Tryz.underlying5
 a5:=Tryz.isAgg5
 z5:=Tryz.sizeOf5
 v5:=Tryz.zeroValue5
 t9:=Tryz.underlying9
 a9:=Tryz.isAgg9
 z9:=Tryz.sizeOf9
 v9:=Tryz.zeroValue9
 t20:=Tryz.underlying20
 a20:=Tryz.isAgg20
 z20:=Tryz.sizeOf20
 v20:=Tryz.zeroValue20
 t37:=Tryz.underlying40
 a37:=Tryz.isAgg40
 z37:=Tryz.sizeOf40
 v37:=Tryz.zeroValue40
 t46:=Tryz.underlying191
 a46:=Tryz.isAgg191
 z46:=Tryz.sizeOf191
 v46:=Tryz.zeroValue191
 t51:=Tryz.underlying189
 a51:=Tryz.isAgg189
 z51:=Tryz.sizeOf189
 v51:=Tryz.zeroValue189
 t53:=Tryz.underlying174
 a53:=Tryz.isAgg174
 z53:=Tryz.sizeOf174
 v53:=Tryz.zeroValue174
 t171:=Tryz.underlying173
 a171:=Tryz.isAgg173
 z171:=Tryz.sizeOf173
 v171:=Tryz.zeroValue173
 t173:=Tryz.underlying177
 a173:=Tryz.isAgg177
 z173:=Tryz.sizeOf177
 v173:=Tryz.zeroValue177
 t212:=Tryz.underlying188
 a212:=Tryz.isAgg188
 z212:=Tryz.sizeOf188
 v212:=Tryz.zeroValue188
 t213:=Tryz.underlying190
 a213:=Tryz.isAgg190
 z213:=Tryz.sizeOf190
 t232:=Tryz.underlying205
 a232:=Tryz.isAgg205
 z232:=Tryz.sizeOf205
 v232:=Tryz.zeroValue205
 t233:=Tryz.underlying206
 a233:=Tryz.isAgg206
 z233:=Tryz.sizeOf206
 v233:=Tryz.zeroValue206
 g17:=by kernel_rfl
 g18:=by kernel_rfl
 g19:=by kernel_rfl
 i0:=by kernel_rfl
 i2:=by kernel_rfl
 i3:=by kernel_rfl
 i4:=by kernel_rfl
 i5:=by kernel_rfl
 i9:=by kernel_rfl
 i20:=by kernel_rfl
 i37:=by kernel_rfl
 i46:=by kernel_rfl
 i51:=by kernel_rfl
 i53:=by kernel_rfl
 i171:=by kernel_rfl
 i173:=by kernel_rfl
 i212:=by kernel_rfl
 i232:=by kernel_rfl
 i233:=by kernel_rfl
 m17:=by kernel_rfl
 m18:=by kernel_rfl
 m19:=by kernel_rfl }
open Go.RowKit Go.Sort Go.Lib in
theorem Tryz.strconv_Itoa (n : Int) (h0 : -9223372036854775808 <= n) (h1 : n <= 9223372036854775807) (w : World) (htab : Lib.TabIs Tryz.prog w "internal/strconv.uint64pow10" .u64 Lib.pow10Tab) :
  Calls Tryz.prog 157 #[.int .i64 n] w fun e w'=>e=.returned (.string ⟨(Lib.itoa n).toArray⟩)/\∃ k os,w'=grow (w.drewN k) os:=Any.strconv_Itoa Tryz.laysM171 n h0 h1 w htab
end Go.Proofs
namespace Go.Proofs.YtdgcmiecgnmdjaaGreatDoor
theorem zhr:∀ (k j n:Nat),n<10 ^ k->0<k->k<=j->decF k n=decF j n
 | 0,_,_,_,h,_=>absurd h (by omega)
 | k+1,0,_,_,_,h=>absurd h (by omega)
 | k+1,j+1,n,h,_,hj=>by
  unfold decF
  by_cases g:n<10
  ·rw [if_pos g,if_pos g]
  ·rw [if_neg g,if_neg g]
   have hk:0<k:=by
    rcases Nat.eq_zero_or_pos k with e | e
    ·subst e;simp at h;omega
    ·exact e
   rw [zhr k j (n / 10) (by rw [Nat.pow_succ] at h;omega) hk (by omega)]
theorem qaj:∀ (f n:Nat),16<=n->n<256 ^ (f+1)->hexD f n=hexF (2*f+2) n
 | 0,n,h0,h=>by
  have h:n<256:=by simpa using h
  have e:hexF 2 n=hexF 1 (n / 16)++[hexC (n%16)]:=by rw [hexF,if_neg (by omega)]
  have e2:hexF 1 (n / 16)=[hexC (n / 16%16)]:=by rw [hexF,if_pos (by omega)];rfl
  show hexD 0 n=hexF 2 n
  rw [e,e2]
  rfl
 | f+1,n,h0,h=>by
  have e:hexF (2*(f+1)+2) n=hexF (2*f+3) (n / 16)++[hexC (n%16)]:=by
   show hexF (2*f+3+1) n=_
   rw [hexF,if_neg (by omega)]
  rw [hexD,e]
  by_cases h1:n<256
  ·rw [if_pos h1]
   have e2:hexF (2*f+3) (n / 16)=[hexC (n / 16%16)]:=by
    show hexF (2*f+2+1) (n / 16)=_
    rw [hexF,if_pos (by omega)];rfl
   rw [e2]
   rfl
  ·rw [if_neg h1]
   have e2:hexF (2*f+3) (n / 16)=hexF (2*f+2) (n / 256)++[hexC (n / 16%16)]:=by
    show hexF (2*f+2+1) (n / 16)=_
    rw [hexF,if_neg (by omega),Nat.div_div_eq_div_mul]
   rw [e2]
   by_cases h2:n<4096
   ·rw [if_pos h2]
    have e3:hexF (2*f+2) (n / 256)=[hexC (n / 256)]:=by
     show hexF (2*f+1+1) (n / 256)=_
     rw [hexF,if_pos (by omega),Nat.mod_eq_of_lt (by omega)];rfl
    rw [e3]
    rfl
   ·rw [if_neg h2]
    have:n<256 ^ (f+1)*256:=by rw [<- Nat.pow_succ];exact h
    rw [qaj f (n / 256) (by omega) (by omega)]
    simp
theorem zsv (f n:Nat) (h:n<256):hexD f n=[hexC (n / 16%16),hexC (n%16)]:=by
 cases f with
 | zero=>rfl
 | succ f=>rw [hexD,if_pos h]
theorem qch (n:Nat) (h:n<=1114111):hexD 2 n=hexT n:=by
 unfold hexT
 by_cases g:n<16
 ·rw [if_pos g,zsv 2 n (by omega),show n / 16%16=0 by omega,Nat.mod_eq_of_lt g]
  rfl
 ·rw [if_neg g,qaj 2 n (by omega) (by rw [show (256:Nat) ^ (2+1)=16777216 by decide];omega)]
theorem qci {f n:Nat} (h:n<10 ^ (f+1)) (hf:f<=17):decF (f+1) n=decT n:=zhr (f+1) 20 n h (by omega) (by omega)
end Go.Proofs.YtdgcmiecgnmdjaaGreatDoor
