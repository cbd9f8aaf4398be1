/- Part 5 of what the laws of the grammar rest on. -/
import Derived.Test.YtekjnfldgjcgeaaGreatDoorA2
import Derived.Test.YtekjnfldgjcgeaaGreatDoorA3
import Derived.Test.YtekjnfldgjcgeaaGreatDoorA4
import Derived.Laws.BytesString
import Derived.Maps.OwnSet
import Derived.Deep.MidRow
import Derived.Shelf.Strings.OnBuilder
import Derived.Shelf.LaysM
import Derived.Shelf.Strconv.Itoa3
import Derived.Test.YtekjnfldgjcgeaaGreatDoorProg
set_option linter.all false
set_option maxRecDepth 100000
set_option maxHeartbeats 8000000
namespace Go.Proofs.YtekjnfldgjcgeaaGreatDoor
open Go.RowKit
def zau:Nat->Tree->Bool
 | 0,_=>false
 | n+1,t=>zax n t
theorem zjk (n:Nat) (k lo hi:Int) (x ns:List Int) (kids:List Tree):zax n (.mk k x ns lo hi kids)=(zcj k x ns lo hi kids.length&&othB k x ns lo hi kids.length&&kids.all (zau n)):=by
 cases n with
 | zero =>
  rw [zax,zl7]
  congr 1
  cases kids<;>simp [zau]
 | succ n=>rw [zax,zl7];rfl
def zfg (n:Nat):Prop:=∀ (W:World) (X:XV) (t:Tree) (q:Int),q=51-(n:Int)->ETree W X t->Calls Tryz.prog 84 #[X.val,.int .i64 q] W (zam (zau n t) W)
theorem ETree.ones {W:World} {X:XV} {t:Tree} (h:ETree W X t):X.ns.oneCell'=true/\X.ks.oneCell'=true:=by
 cases h with
 | mk vs h0 hl h1 h2 _ _=>exact ⟨h1.one,h2.one⟩
theorem zsp {n:Nat} (hn:n<=51) (ih:zfg n) {D:Nat} {W:World} {X:XV} {t:Tree} (h:ETree W X t) (hD:W.cell? ⟨D,0,none⟩=some (.int .i64 (50-(n:Int)))) :
  Calls Tryz.prog 102 #[X.val,.pointer (some ⟨D,0,none⟩)] W (zam (zau n t) W):=by
 obtain ⟨o1,o2⟩:=h.ones
 obtain ⟨k,s,nv,lo,hi,kv⟩:=X
 obtain ⟨q,hq⟩:∃ q:Int,q=50-(n:Int):=⟨_,rfl⟩
 rw [<- hq] at hD
 have hb:=(Below.refl W.heap.size W).alloc (Nat.le_refl _) (xobj k lo hi s nv kv)
 have hDl:D<W.heap.size:=World.block_lt_of_cell? W ⟨D,0,none⟩ hD
 have HC:=hh9 (ih _ _ t (q+1) (by omega) (h.under hb))
 have q0:-1<=q:=by omega
 have q1:q<=50:=by omega
 have hD2:=(hb.cell (p:=⟨D,0,none⟩) hDl).trans hD
 unfold xobj at hb HC hD2
 have HB:=hh9 hb
 show Calls _ _ #[.agg #[.int .i64 k,.string s,nv,.int .i64 lo,.int .i64 hi,kv],.pointer (some ⟨D,0,none⟩)] W _
 clear hb h hq ih hD
 cases hp:zau n t
 all_goals
  rw [hp] at HC
  clear hp
  go_enter Tryz.func102,Tryz.ntmps102
  go_wp2_with fail
  refine HC.out.mono ?_
  rintro e w' ⟨rfl,hb⟩
  have HB2:=hh9 (za0 HB.out hb)
  clear hb
  go_wp2_with fail
  go_ret
  exact ⟨rfl,HB2.out⟩
theorem zyl {n:Nat} (hn:n<=51) (ih:zfg n) {B D:Nat} {W:World} {X:XV} {t:Tree} (h:ETree W X t) (hD:W.cell? ⟨D,0,none⟩=some (.int .i64 (50-(n:Int))))
  (hB:W.cell? ⟨B,0,none⟩=some (.func (Fn.func 102) #[] #[.pointer (some ⟨D,0,none⟩)])) :
  Calls Tryz.prog 124 #[X.val,.pointer (some ⟨B,0,none⟩)] W (zam (!zau n t) W):=by
 obtain ⟨o1,o2⟩:=h.ones
 obtain ⟨k,s,nv,lo,hi,kv⟩:=X
 have hb:=(Below.refl W.heap.size W).alloc (Nat.le_refl _) (xobj k lo hi s nv kv)
 have hDl:D<W.heap.size:=World.block_lt_of_cell? W ⟨D,0,none⟩ hD
 have hBl:B<W.heap.size:=World.block_lt_of_cell? W ⟨B,0,none⟩ hB
 have HC:=hh9 (zsp hn ih (h.under hb) ((hb.cell (p:=⟨D,0,none⟩) hDl).trans hD))
 have hB2:=(hb.cell (p:=⟨B,0,none⟩) hBl).trans hB
 unfold xobj at hb HC hB2
 have HB:=hh9 hb
 show Calls _ _ #[.agg #[.int .i64 k,.string s,nv,.int .i64 lo,.int .i64 hi,kv],.pointer (some ⟨B,0,none⟩)] W _
 clear hb h ih hD hB
 cases hp:zau n t
 all_goals
  rw [hp] at HC
  clear hp
  go_enter Tryz.func124,Tryz.ntmps124
  go_wp2_with fail
  refine HC.out.mono ?_
  rintro e w' ⟨rfl,hb⟩
  have HB2:=hh9 (za0 HB.out hb)
  clear hb
  go_wp2_with fail
  go_ret
  exact ⟨rfl,HB2.out⟩
def ze6 (W:World) (v:Value) (vs:List XV) (kids:List Tree):Prop :=
 RowAny W v kids.length (vs.flatMap XV.cells)/\vs.length=kids.length/\∀ (i:Nat) (y:XV) (t:Tree),vs[i]?=some y->kids[i]?=some t->ETree W y t
theorem ze6.below {W W':World} {v:Value} {vs:List XV} {kids:List Tree} (h:ze6 W v vs kids) (hb:Below W.heap.size W W'):ze6 W' v vs kids :=
 ⟨h.1.below hb,h.2.1,fun i y t hy ht=>(h.2.2 i y t hy ht).under hb⟩
def zqw (no:Bool) (w:World) (e:Ending) (w':World):Prop:=∃ i:Int,e=.returned (.int .i64 i)/\Below w.heap.size w w'/\-1<=i/\decide (0<=i)=no
theorem zde {P:Tree->Bool} {x:List Tree} {n:Nat} (hn:x.length<=n) (h:∀ (i:Nat) (c:Tree),i<n->x[i]?=some c->P c=true):x.all P=true:=by
 rw [List.all_eq_true]
 intro c hc
 obtain ⟨i,hi⟩:=List.getElem?_of_mem hc
 exact h i c (Nat.lt_of_lt_of_le (List.getElem?_eq_some_iff.1 hi).1 hn) hi
theorem zqx {P:Tree->Bool} {x:List Tree} {i:Nat} {c:Tree} (h:x[i]?=some c) (hc:P c=false):x.all P=false:=by
 rw [List.all_eq_false]
 exact ⟨c,List.mem_of_getElem? h,by simp [hc]⟩
theorem zsq {n:Nat} (hn:n<=51) (ih:zfg n) {B D:Nat} {w:World} {v:Value} {vs:List XV} {kids:List Tree} (h:ze6 w v vs kids) (hD:w.cell? ⟨D,0,none⟩=some (.int .i64 (50-(n:Int))))
  (hB:w.cell? ⟨B,0,none⟩=some (.func (Fn.func 102) #[] #[.pointer (some ⟨D,0,none⟩)])) :
  Calls Tryz.prog 145 #[v,.func (Fn.func 124) #[] #[.pointer (some ⟨B,0,none⟩)]] w (zqw (!kids.all (zau n)) w):=by
 have hDl:D<w.heap.size:=World.block_lt_of_cell? w ⟨D,0,none⟩ hD
 have hBl:B<w.heap.size:=World.block_lt_of_cell? w ⟨B,0,none⟩ hB
 obtain ⟨h1,h2,h3⟩:=h
 obtain ⟨m,hm⟩:∃ m,m=kids.length:=⟨_,rfl⟩
 rw [<- hm] at h1 h2
 have HM:=hh9 hm
 have H2:=hh9 h2
 have H3:=hh9 h3
 have HD:=hh9 hD
 have HBB:=hh9 hB
 have IH:=hh9 ih
 rcases h1 with ⟨h0,a,cap,rfl⟩ | ⟨g,off,cap,rfl,g1,g2,g3,g4⟩
 ·have hx0:kids=[]:=List.length_eq_zero_iff.1 (by omega)
  subst hx0
  clear hm h0 hD hB h2 h3 ih
  go_enter Tryz.func145,Tryz.ntmps145
  go_wp2_with fail
  go_loop [8] (fun v=>v=.int .i64 0) (fun v=>0)
  case atStart=>rfl
  case round =>
   subst hrel
   go_wp2_with fail
   go_ret
   exact ⟨-1,rfl,Below.refl _ _,by omega,by decide⟩
 ·have G4:=hh9 g4
  unfold maxLen at g2
  clear hm hD hB h2 h3 ih g4
  go_enter Tryz.func145,Tryz.ntmps145
  go_wp2_with fail
  go_loopw [8] (fun v wr=>∃ i:Nat,v=.int .i64 i/\i<=m/\Hid (Below w.heap.size w wr)/\Hid (∀ (j:Nat) (c:Tree),j<i->kids[j]?=some c->zau n c=true)) (fun v _=>m-(intOf v).toNat)
  case atStart=>exact ⟨0,rfl,by omega,Below.refl _ _,fun j c h=>by omega⟩
  case round =>
   obtain ⟨i,rfl,hi,HBEL,HALL⟩:=hrel
   by_cases hlt:i<m
   ·obtain ⟨Y,hY⟩:∃ y,vs[i]?=some y:=⟨_,List.getElem?_eq_getElem (by rw [H2.out];exact hlt)⟩
    obtain ⟨t,ht⟩:∃ y,kids[i]?=some y:=⟨_,List.getElem?_eq_getElem (by rw [<- HM.out];exact hlt)⟩
    have HTI:=hh9 ht
    have CX:∀ (j:Nat) (u:Value),j<6->Y.cells[j]?=some u->wr.cell? ⟨g,off+(i*6+j),none⟩=some u:=fun j u hj hu =>
     (HBEL.out.cell (p:=⟨g,off+(i*6+j),none⟩) g3).trans (G4.out _ u ((zc9 vs i j Y hY hj).trans hu))
    have HN:=hh9 (zyl hn IH.out ((H3.out i Y t hY ht).under HBEL.out) ((HBEL.out.cell (p:=⟨D,0,none⟩) hDl).trans HD.out) ((HBEL.out.cell (p:=⟨B,0,none⟩) hBl).trans HBB.out))
    obtain ⟨k,s,nv,lo,hi',kv⟩:=Y
    have e0:=CX 0 _ (by omega) rfl
    have e1:=CX 1 _ (by omega) rfl
    have e2:=CX 2 _ (by omega) rfl
    have e3:=CX 3 _ (by omega) rfl
    have e4:=CX 4 _ (by omega) rfl
    have e5:=CX 5 _ (by omega) rfl
    rw [<- Nat.add_assoc] at e0 e1 e2 e3 e4 e5
    rw [Nat.add_zero] at e0
    clear CX hY ht
    cases hf:zau n t
    ·have HNOT:=hh9 (zqx (P:=zau n) HTI.out hf)
     rw [hf] at HN
     clear hf
     go_wp2_with fail
     refine HN.out.mono ?_
     rintro e w' ⟨rfl,hb'⟩
     have HB2:=hh9 (za0 HBEL.out hb')
     clear hb'
     go_wp2_with fail
     go_ret
     exact ⟨(i:Int),rfl,HB2.out,by omega,by rw [HNOT.out];simp⟩
    ·have HNX:Hid (∀ (j:Nat) (c:Tree),j<i+1->kids[j]?=some c->zau n c=true):=fun j c hj hc=>by
      by_cases g:j=i
      ·subst g
       rw [HTI.out] at hc
       rw [<- Option.some.inj hc]
       exact hf
      ·exact HALL.out j c (by omega) hc
     rw [hf] at HN
     clear hf
     go_wp2_with fail
     refine HN.out.mono ?_
     rintro e w' ⟨rfl,hb'⟩
     have HB2:=hh9 (za0 HBEL.out hb')
     clear hb' e0 e1 e2 e3 e4 e5
     go_wp2_with fail
     go_roundw
     case rel=>exact ⟨i+1,by go_num,by omega,HB2,HNX⟩
     case measure=>simp [intOf];omega
   ·have hyes:kids.all (zau n)=true:=zde (n:=m) (by rw [HM.out];exact Nat.le_refl _) (fun j c h hc=>HALL.out j c (by omega) hc)
    have HYES:=hh9 hyes
    clear hyes
    go_wp2_with fail
    go_ret
    exact ⟨-1,rfl,HBEL.out,by omega,by rw [HYES.out];decide⟩
theorem zui {n:Nat} (hn:n<=51) (ih:zfg n) {B D:Nat} {w:World} {v:Value} {vs:List XV} {kids:List Tree} (h:ze6 w v vs kids) (hD:w.cell? ⟨D,0,none⟩=some (.int .i64 (50-(n:Int))))
  (hB:w.cell? ⟨B,0,none⟩=some (.func (Fn.func 102) #[] #[.pointer (some ⟨D,0,none⟩)])) :
  Calls Tryz.prog 123 #[v,.func (Fn.func 124) #[] #[.pointer (some ⟨B,0,none⟩)]] w (zam (!kids.all (zau n)) w):=by
 have HI:=hh9 (zsq hn ih h hD hB)
 clear h hD hB ih
 go_enter Tryz.func123,Tryz.ntmps123
 go_wp2_with fail
 refine HI.out.mono ?_
 rintro e w' ⟨i,rfl,hb,hi,hd⟩
 have HD:=hh9 hd
 have HB2:=hh9 hb
 clear hd hb
 go_wp2_with fail
 go_ret
 exact ⟨by rw [<- HD.out];exact rfl,HB2.out⟩
theorem zym {n:Nat} (hn:n<=51) (ih:zfg n) {D:Nat} {w:World} {v:Value} {vs:List XV} {kids:List Tree} (h:ze6 w v vs kids) (hD:w.cell? ⟨D,0,none⟩=some (.int .i64 (50-(n:Int)))) :
  Calls Tryz.prog 101 #[v,.func (Fn.func 102) #[] #[.pointer (some ⟨D,0,none⟩)]] w (zam (kids.all (zau n)) w):=by
 have hDl:D<w.heap.size:=World.block_lt_of_cell? w ⟨D,0,none⟩ hD
 have HS:=hh9 (fun o:Obj=>zui (w:=w.alloc o) (B:=w.heap.size) (D:=D) hn ih (h.below ((Below.refl _ _).alloc (Nat.le_refl _) _)) ((((Below.refl _ _).alloc (Nat.le_refl _) o).cell (p:=⟨D,0,none⟩) hDl).trans hD))
 clear h hD ih
 cases hp:kids.all (zau n)
 all_goals
  rw [hp] at HS
  clear hp
  go_enter Tryz.func101,Tryz.ntmps101
  go_wp2_with fail
  refine (HS.out _ (by unfold World.cell?;rw [heap_alloc_new];rfl)).mono ?_
  rintro e w' ⟨rfl,hb⟩
  have HB2:=hh9 (((Below.refl w.heap.size w).alloc (Nat.le_refl _) _).trans (hb.mono (by simp)))
  clear hb
  go_wp2_with fail
  go_ret
  exact ⟨rfl,HB2.out⟩
theorem zbi {W:World} {b j:Nat} {v:Value} (h:W.cell? ⟨b,j,none⟩=some v) (o:Obj):(W.alloc o).cell? ⟨b,j,none⟩=some v :=
 (((Below.refl W.heap.size W).alloc (Nat.le_refl _) o).cell (p:=⟨b,j,none⟩) (World.block_lt_of_cell? W ⟨b,j,none⟩ h)).trans h
theorem zac {W W':World} {b j:Nat} {v:Value} (h:W.cell? ⟨b,j,none⟩=some v) (hb:Below W.heap.size W W'):W'.cell? ⟨b,j,none⟩=some v :=
 (hb.cell (p:=⟨b,j,none⟩) (World.block_lt_of_cell? W ⟨b,j,none⟩ h)).trans h
theorem zsr {n:Nat} (hn:n<=50) (ih:zfg n):zfg (n+1):=by
 intro w X t q hq h
 obtain ⟨k,x,ns,lo,hi,kids⟩:=t
 have hr:zau (n+1) (.mk k x ns lo hi kids)=(zcj k x ns lo hi kids.length&&othB k x ns lo hi kids.length&&kids.all (zau n)):=zjk n k lo hi x ns kids
 rw [hr]
 obtain ⟨o1,o2⟩:=h.ones
 have hb:Below w.heap.size w ((w.alloc (xobj X.kind X.lo X.hi X.text X.ns X.ks)).alloc (.cells #[.int .i64 q] 3)):=((Below.refl _ _).alloc (Nat.le_refl _) _).alloc (by simp) _
 have hX:X6 ((w.alloc (xobj X.kind X.lo X.hi X.text X.ns X.ks)).alloc (.cells #[.int .i64 q] 3)) w.heap.size X.kind X.lo X.hi X.text X.ns X.ks:=(X6.new w _ _ _ _ _ _).alloc _
 have hQ:((w.alloc (xobj X.kind X.lo X.hi X.text X.ns X.ks)).alloc (.cells #[.int .i64 q] 3)).cell? ⟨w.heap.size+1,0,none⟩=some (.int .i64 q):=by
  have:=zb5 (w.alloc (xobj X.kind X.lo X.hi X.text X.ns X.ks)) (.cells #[.int .i64 q] 3) (w.heap.size+1) (by simp)
  simp only [World.cell?,this]
  rfl
 have HA:=hh9 (fun W (hW:ETree W X (.mk k x ns lo hi kids))=>qbl hW)
 have HO:=hh9 (fun W (hW:ETree W X (.mk k x ns lo hi kids))=>qbk hW)
 have HE:=hh9 h
 have HK:Hid (∃ vs,ze6 w X.ks vs kids):=by cases h with | mk vs h0 hl h1 h2 h3 h4=>exact ⟨vs,h2,h3,h4⟩
 have HQQ:=hh9 (show q=50-(n:Int) by omega)
 have IH:=hh9 ih
 obtain ⟨xk,s,nv,xlo,xhi,kv⟩:=X
 unfold xobj at hb hX hQ
 have HB:=hh9 hb
 have HX:=hh9 hX
 have HQ:=hh9 hQ
 have q0:-1<=q:=by omega
 have q1:q<=50:=by omega
 show Calls _ _ #[.agg #[.int .i64 xk,.string s,nv,.int .i64 xlo,.int .i64 xhi,kv],.int .i64 q] w _
 clear hb hX hQ hr h hq ih
 cases hf:zcj k x ns lo hi kids.length
 ·rw [hf] at HA
  clear hf
  go_enter Tryz.func84,Tryz.ntmps84
  go_wp2_with fail
  refine (HA.out _ (HE.out.under HB.out)).mono ?_
  rintro e w1 ⟨rfl,hb⟩
  have HB2:=hh9 (za0 HB.out hb)
  clear hb
  go_wp2_with fail
  go_ret
  exact ⟨rfl,HB2.out⟩
 ·rw [hf] at HA
  clear hf
  cases ho:othB k x ns lo hi kids.length
  ·rw [ho] at HO
   clear ho
   go_enter Tryz.func84,Tryz.ntmps84
   go_wp2_with fail
   refine (HA.out _ (HE.out.under HB.out)).mono ?_
   rintro e w1 ⟨rfl,hb⟩
   have HB2:=hh9 (za0 HB.out hb)
   obtain ⟨a0,a1,a2,a3,a4,a5⟩:=(HX.out.under hb).cells
   clear hb
   go_wp2_with fail
   refine (HO.out _ (HE.out.under HB2.out)).mono ?_
   rintro e w2 ⟨rfl,hb⟩
   have HB3:=hh9 (za0 HB2.out hb)
   clear hb
   go_wp2_with fail
   go_ret
   exact ⟨rfl,HB3.out⟩
  ·rw [ho] at HO
   clear ho
   cases hp:kids.all (zau n)
   all_goals
    have HP:=hh9 hp
    clear hp
    go_enter Tryz.func84,Tryz.ntmps84
    go_wp2_with fail
    refine (HA.out _ (HE.out.under HB.out)).mono ?_
    rintro e w1 ⟨rfl,hb⟩
    have HB2:=hh9 (za0 HB.out hb)
    have HX2:=hh9 (HX.out.under hb)
    have HQ2:=hh9 (zac HQ.out hb)
    obtain ⟨a0,a1,a2,a3,a4,a5⟩:=HX2.out.cells
    clear hb
    go_wp2_with fail
    refine (HO.out _ (HE.out.under HB2.out)).mono ?_
    rintro e w2 ⟨rfl,hb⟩
    have HB3:=hh9 (za0 HB2.out hb)
    have HX3:=hh9 (HX2.out.under hb)
    have HQ3:=hh9 (zac HQ2.out hb)
    clear a0 a1 a2 a3 a4 a5 hb
    obtain ⟨a0,a1,a2,a3,a4,a5⟩:=HX3.out.cells
    obtain ⟨vs,hk⟩:=HK.out
    have HC:=hh9 (zym (w:=w2) (D:=w.heap.size+1) (by omega) IH.out (hk.below HB3.out) (by rw [<- HQQ.out];exact HQ3.out))
    rw [HP.out] at HC
    clear hk
    go_wp2_with fail
    refine HC.out.mono ?_
    rintro e w3 ⟨rfl,hb⟩
    have HB4:=hh9 (za0 HB3.out hb)
    clear hb a0 a1 a2 a3 a4 a5
    go_wp2_with fail
    go_ret
    exact ⟨rfl,HB4.out⟩
theorem zss:zfg 0:=by
 intro w X t q hq0 h
 obtain ⟨o1,o2⟩:=h.ones
 obtain ⟨xk,s,nv,xlo,xhi,kv⟩:=X
 have hq:50<q:=by omega
 clear hq0
 have q1:decide (q<=50)=false:=decide_eq_false (by omega)
 have hb:Below w.heap.size w ((w.alloc (xobj xk xlo xhi s nv kv)).alloc (.cells #[.int .i64 q] 3)):=((Below.refl _ _).alloc (Nat.le_refl _) _).alloc (by simp) _
 unfold xobj at hb
 have HB:=hh9 hb
 show Calls _ _ #[.agg #[.int .i64 xk,.string s,nv,.int .i64 xlo,.int .i64 xhi,kv],.int .i64 q] w (zam false w)
 clear hb h
 go_enter Tryz.func84,Tryz.ntmps84
 go_wp2_with fail
 go_ret
 exact ⟨rfl,HB.out⟩
theorem znt:∀ n,n<=51->zfg n
 | 0,_=>zss
 | n+1,h=>zsr (by omega) (znt n (by omega))
theorem zuj {w:World} {X:XV} {t:Tree} (h:ETree w X t):Calls Tryz.prog 63 #[X.val] w (zam (zax 50 t) w):=by
 obtain ⟨o1,o2⟩:=h.ones
 have hb:=(Below.refl w.heap.size w).alloc (Nat.le_refl _) (xobj X.kind X.lo X.hi X.text X.ns X.ks)
 have HC:=hh9 (znt 51 (by omega) _ X t 0 (by omega) (h.under hb))
 have e:zau 51 t=zax 50 t:=rfl
 rw [e] at HC
 obtain ⟨xk,s,nv,xlo,xhi,kv⟩:=X
 unfold xobj at hb HC
 have HB:=hh9 hb
 show Calls _ _ #[.agg #[.int .i64 xk,.string s,nv,.int .i64 xlo,.int .i64 xhi,kv]] w _
 clear hb h e
 cases hp:zax 50 t
 all_goals
  rw [hp] at HC
  clear hp
  go_enter Tryz.func63,Tryz.ntmps63
  go_wp2_with fail
  refine HC.out.mono ?_
  rintro e w1 ⟨rfl,hb⟩
  have HB2:=hh9 (za0 HB.out hb)
  clear hb
  go_wp2_with fail
  go_ret
  exact ⟨rfl,HB2.out⟩
def zfs (W:World):Prop:=W.cell? ⟨6,15,none⟩=some (.int .u8 4)
theorem zfs.below {W W':World} (h:zfs W) (hb:Below W.heap.size W W'):zfs W':=zac h hb
theorem qbm (w:World):Calls Tryz.prog 169 #[.int .i64 16] w (zd3 true w):=by
 have h1:bits .and .i64 16 15=0:=by decide +kernel
 go_enter Tryz.func169,Tryz.ntmps169
 go_wp2
 go_ret
 exact ⟨rfl,rfl⟩
theorem zst {w:World} (h:zfs w):Calls Tryz.prog 180 #[.int .u64 16] w fun e w'=>e=.returned (.int .i64 4)/\w=w':=by
 unfold zfs at h
 have h1:bits .and .u64 16 (IntKind.u64.wrap (-16))=16:=by decide +kernel
 have h2:IntKind.u64.wrap 4573923408821661840=4573923408821661840:=by decide +kernel
 have h3:IntKind.u64.wrap (16*285870213051353865)=4573923408821661840:=by decide +kernel
 go_enter Tryz.func180,Tryz.ntmps180
 go_wp2
 go_ret
 exact ⟨rfl,rfl⟩
theorem zyn {w:World} (h:zfs w):Calls Tryz.prog 170 #[.int .u64 16] w fun e w'=>e=.returned (.int .i64 4)/\w=w':=by
 have HZ:=hh9 (zst h)
 go_enter Tryz.func170,Tryz.ntmps170
 go_wp2_with fail
 refine HZ.out.mono ?_
 rintro e w' ⟨rfl,rfl⟩
 go_wp2_with fail
 go_ret
 exact ⟨rfl,rfl⟩
def lexC (n:Nat):Int:=if n<10 then 48+n else 87+n
def lexF:Nat->Nat->List Int
 | 0,_=>[]
 | f+1,n=>(if n<16 then [] else lexF f (n / 16))++[lexC (n%16)]
theorem zuk {f n:Nat} (h:16<=n):lexF (f+1) n=lexF f (n / 16)++[lexC (n%16)]:=by rw [lexF,if_neg (by omega)]
theorem zul {f n:Nat} (h:n<16):lexF (f+1) n=[lexC n]:=by rw [lexF,if_pos h,Nat.mod_eq_of_lt h];rfl
theorem zl8 {n:Nat} (h:n<16):48<=lexC n/\lexC n<=102:=by unfold lexC;split<;>omega
theorem zl9:∀ (f n:Nat) (c:Int),c∈lexF f n->0<=c/\c<=255
 | 0,_,_,h=>by simp [lexF] at h
 | f+1,n,c,h=>by
  unfold lexF at h
  rw [List.mem_append] at h
  rcases h with h | h
  ·split at h
   ·simp at h
   ·exact zl9 f _ c h
  ·have:=zl8 (n:=n%16) (by omega)
   simp at h
   omega
def zgo (y:List Int):Array Value:=(List.replicate (65-y.length) (Value.int .u8 0)++y.map (Value.int .u8)).toArray
theorem zsu {y:List Int} (h:y.length<65) (c:Int):(zgo y).setIfInBounds (64-y.length) (.int .u8 c)=zgo (c::y):=by
 unfold zgo
 have e:65-y.length=(64-y.length)+1:=by omega
 have e2:65-(c::y).length=64-y.length:=by simp
 rw [e,e2]
 generalize 64-y.length=m
 rw [List.setIfInBounds_toArray]
 congr 1
 rw [List.replicate_succ',List.append_assoc,List.set_append_right _ _ (by simp)]
 simp
theorem zum {y:List Int} (h:y.length<=65) (j:Nat) (c:Int) (hc:y[j]?=some c):(zgo y)[65-y.length+j]?=some (.int .u8 c):=by
 unfold zgo
 rw [List.getElem?_toArray,List.getElem?_append_right (by simp)]
 simp [hc]
theorem zpp {y:List Int} (h:y.length<65):(zgo y)[64-y.length]?=some (.int .u8 0):=by
 unfold zgo
 rw [List.getElem?_toArray,List.getElem?_append_left (by simp;omega),List.getElem?_replicate,if_pos (by omega)]
theorem zun (w:World):(zeroValue 176).run Tryz.prog w=.ok (.agg (zgo [])) w:=by kernel_rfl
def Dg (B:Nat) (y:List Int) (W:World):Prop:=W.heap[B]?=some (.cells (zgo y) 176 (0,0))
theorem Dg.cell {B:Nat} {y:List Int} {W:World} (h:Dg B y W) (hl:y.length<65):W.cell? ⟨B,64-y.length,none⟩=some (.int .u8 0):=by
 unfold Dg at h
 simp only [World.cell?,h]
 exact zpp hl
theorem Dg.frozen {B:Nat} {y:List Int} {W:World} (h:Dg B y W) (j:Nat):W.frozen? ⟨B,j,none⟩=false:=by
 unfold Dg at h
 simp [World.frozen?,h]
theorem Dg.set {B:Nat} {y:List Int} {W:World} (h:Dg B y W) (hl:y.length<65) (c:Int):Dg B (c::y) (W.setCell ⟨B,64-y.length,none⟩ (.int .u8 c)):=by
 unfold Dg at h ⊢
 rw [setCell_eq_setRow _ _ _ _ _ _ _ h,zsu hl]
 exact setRow_heap _ _ _ _ _ _ h
theorem Dg.read {B:Nat} {y:List Int} {W:World} (h:Dg B y W) (hl:y.length<=65) (j:Nat) (c:Int) (hc:y[j]?=some c):W.cell? ⟨B,65-y.length+j,none⟩=some (.int .u8 c):=by
 unfold Dg at h
 simp only [World.cell?,h]
 exact zum hl j c hc
theorem zqy (n:Nat) (h:n<18446744073709551616):(BitVec.ofInt 64 (n:Int)).toNat=n:=by
 simp [BitVec.toNat_ofInt]
 omega
theorem and15 (m:Nat) (h:m<16777216):bits .and .u64 (m:Int) 15=((m%16:Nat):Int):=by
 show IntKind.u64.wrap ((BitVec.ofInt 64 (m:Int) &&& BitVec.ofInt 64 ((15:Nat):Int)).toNat:Int)=_
 rw [BitVec.toNat_and,zqy m (by omega),zqy 15 (by omega)]
 have e:=Nat.and_two_pow_sub_one_eq_mod m 4
 rw [show 2 ^ 4-1=15 by decide,show 2 ^ 4=16 by decide] at e
 rw [e,IntKind.wrap_u64]
 omega
theorem qat {a:Nat} (h:a<16) (h2:a<(⟨#[48,49,50,51,52,53,54,55,56,57,97,98,99,100,101,102,103,104,105,106,107,108,109,110,111,112,113,114,115,116,117,118,119,120,121,122]⟩:ByteArray).size) :
  (((⟨#[48,49,50,51,52,53,54,55,56,57,97,98,99,100,101,102,103,104,105,106,107,108,109,110,111,112,113,114,115,116,117,118,119,120,121,122]⟩:ByteArray)[a]'h2).toNat:Int)=lexC a:=by
 have key:∀ i:Fin 16,(((⟨#[48,49,50,51,52,53,54,55,56,57,97,98,99,100,101,102,103,104,105,106,107,108,109,110,111,112,113,114,115,116,117,118,119,120,121,122]⟩:ByteArray)[i.val]'(Nat.lt_of_lt_of_le i.isLt (by decide))).toNat:Int)=lexC i.val:=by decide +kernel
 exact key ⟨a,h⟩
theorem zsv (n:Nat) (hn:n<=1114111) {w:World} (hB:zfs w):Calls Tryz.prog 156 #[.slice none 0 0,.int .u64 n,.int .i64 16,.bool false,.bool false] w
  fun e w'=>e=.returned (.tuple #[.slice none 0 0,.string (za3 (lexF 6 n))])/\Below w.heap.size w w':=by
 obtain ⟨Z,hZ⟩:∃ Z,Z=zgo []:=⟨_,rfl⟩
 have hz:∀ w:World,(zeroValue 176).run Tryz.prog w=.ok (.agg Z) w:=by
  intro w;rw [hZ];exact zun w
 have HZ:=hh9 hZ
 have HP:=hh9 (fun W=>qbm W)
 have HT:=hh9 (fun (o:Obj)=>zyn (w:=w.alloc o) (hB.below ((Below.refl _ _).alloc (Nat.le_refl _) _)))
 clear hZ hB
 go_enter Tryz.func156,Tryz.ntmps156
 go_wp2_with fail
 refine (HP.out _).mono ?_
 rintro e w' ⟨rfl,rfl⟩
 go_wp2_with fail
 refine (HT.out _).mono ?_
 rintro e w' ⟨rfl,rfl⟩
 go_wp2_with fail
 go_loopw [1,13] (fun u i wr=>∃ (m:Nat) (y:List Int),u=.int .u64 m/\i=.int .i64 (65-(y.length:Int))/\y.length<=5/\m<16 ^ (6-y.length)/\Hid (lexF 6 n=lexF (6-y.length) m++y)/\Hid (Dg w.heap.size y wr)/\Hid (Below w.heap.size w wr)) (fun u _ _=>(intOf u).toNat)
 case atStart =>
  refine ⟨n,[],rfl,rfl,by simp,by show n<16 ^ 6;rw [show (16:Nat) ^ 6=16777216 by decide];omega,by show lexF 6 n=lexF 6 n++[];simp,?_,(Below.refl _ _).alloc (Nat.le_refl _) _⟩
  unfold Hid Dg
  rw [<- HZ.out]
  exact heap_alloc_new w _
 case round =>
  obtain ⟨m,y,rfl,rfl,hy,hm,HL,HD,HBEL⟩:=hrel
  obtain ⟨l,hl⟩:∃ l,l=y.length:=⟨_,rfl⟩
  obtain ⟨q,hq⟩:∃ q:Nat,64-l=q:=⟨_,rfl⟩
  have hq2:65-(l:Int)-1=(q:Int):=by omega
  have hqb:q<65:=by omega
  have hc:=HD.out.cell (by omega)
  have hf:=HD.out.frozen (64-y.length)
  rw [<- hl,hq] at hc hf
  rw [<- hl] at hm hy HL ⊢
  have hm24:m<16777216:=Nat.lt_of_lt_of_le hm (Nat.pow_le_pow_right (n:=16) (by omega) (by omega:6-l<=6))
  obtain ⟨a,ha⟩:∃ a:Nat,m%16=a:=⟨_,rfl⟩
  have ha16:a<16:=by omega
  have hand:bits .and .u64 (m:Int) 15=(a:Int):=by rw [<- ha];exact and15 m hm24
  by_cases h16:16<=m
  ·have q16:decide ((16:Int)<=(m:Int))=true:=decide_eq_true (by omega)
   obtain ⟨d,hd⟩:∃ d:Nat,m / 16=d:=⟨_,rfl⟩
   have hdi:(m:Int) / 16=(d:Int):=by omega
   have hl4:l<=4:=by
    rcases Nat.lt_or_ge l 5 with g | g
    ·omega
    ·have:l=5:=by omega
     subst this
     simp at hm
     omega
   have HNX:=hh9 (show lexF 6 n=lexF (6-(l+1)) d++(lexC a::y) by
    rw [HL.out,show 6-l=(6-(l+1))+1 by omega,zuk h16,hd,ha]
    simp)
   have HM:=hh9 (show d<16 ^ (6-(l+1)) by
    have e:6-l=6-(l+1)+1:=by omega
    rw [e,Nat.pow_succ] at hm
    omega)
   have HHL:=hh9 hl
   have HQ:=hh9 hq
   clear hm ha hd hl hq
   go_wp2_with fail
   go_roundw
   case rel =>
    refine ⟨d,lexC a::y,rfl,?_,?_,?_,?_,?_,?_⟩
    ·rw [List.length_cons,<- HHL.out]
     congr 1
     have:=HQ.out
     omega
    ·rw [List.length_cons,<- HHL.out];omega
    ·rw [List.length_cons,<- HHL.out];exact HM.out
    ·unfold Hid
     rw [List.length_cons,<- HHL.out];exact HNX.out
    ·unfold Hid
     rw [qat ha16]
     have:=HD.out.set (by rw [<- HHL.out];omega) (lexC a)
     rw [<- HHL.out,HQ.out] at this
     exact this
    ·exact HBEL.out.setCell (Nat.le_refl _) _
   case measure=>simp [intOf];omega
  ·have q16:decide ((16:Int)<=(m:Int))=false:=decide_eq_false (by omega)
   have hm16:m<16:=by omega
   have HFIN:=hh9 (show lexF 6 n=lexC m::y by
    rw [HL.out,show 6-l=(5-l)+1 by omega,zul hm16]
    rfl)
   have HHL:=hh9 hl
   have HQ:=hh9 hq
   have hal:Tryz.prog.arrayLen 176=65:=by kernel_rfl
   have hsl:∀ W,(Instr.sliceAt 176 (.pointer (some ⟨w.heap.size,0,none⟩)) (some (.int .i64 (q:Int))) none none).run Tryz.prog W=.ok (.slice (some ⟨w.heap.size,q,none⟩) (65-q) (65-q)) W:=fun W=>by
    rw [run_sliceAt_array_l W 176 ⟨w.heap.size,0,none⟩ (by kernel_rfl) .i64 (q:Int) (by omega) (by rw [hal];omega),hal]
    have hne:¬ 65=q:=by omega
    go_simp
   obtain ⟨W2,hW2⟩:∃ W,W=wr.setCell ⟨w.heap.size,q,none⟩ (.int .u8 (lexC m)):=⟨_,rfl⟩
   have hD2:Dg w.heap.size (lexC m::y) W2:=by
    have:=HD.out.set (by rw [<- HHL.out];omega) (lexC m)
    rw [<- HHL.out,HQ.out] at this
    rw [hW2]
    exact this
   have hr:∀ c∈(lexC m::y),0<=c/\c<=255:=by
    intro c hc
    rw [<- HFIN.out] at hc
    exact zl9 6 n c hc
   have kc:(convert 100 9 (.slice (some ⟨w.heap.size,q,none⟩) (65-q) (65-q))).run Tryz.prog W2=.ok (.string (za3 (lexC m::y))) W2:=by
    have hlen:(65-q)=((lexC m::y).map byt).length:=by
     rw [List.length_map,List.length_cons,<- HHL.out]
     have:=HQ.out
     omega
    have:=run_convert_bytes_back (P:=Tryz.prog) W2 100 9 5 ⟨w.heap.size,q,none⟩ (65-q) ((lexC m::y).map byt) Tryz.underlying100 Tryz.underlying5 Tryz.underlying9 (fun j hj=>by
     have hj2:j<(lexC m::y).length:=by simpa using hj
     have hc:=hD2.read (by rw [List.length_cons,<- HHL.out];omega) j _ (List.getElem?_eq_getElem hj2)
     have e1:65-(lexC m::y).length+j=q+j:=by
      rw [List.length_cons,<- HHL.out]
      have:=HQ.out
      omega
     rw [e1] at hc
     have e2:(⟨w.heap.size,q,none⟩:Addr).add j=⟨w.heap.size,q+j,none⟩:=by cases j<;>simp [Addr.add]
     rw [e2,hc]
     have:=hr _ (List.getElem_mem hj2)
     rw [List.getElem_map]
     congr 2
     unfold byt
     simp
     omega)
    rw [<- hlen] at this
    exact this
   have HBF:=hh9 (show Below w.heap.size w W2 by rw [hW2];exact HBEL.out.setCell (Nat.le_refl _) _)
   rw [hW2] at kc HBF
   have HSTR:=hh9 (show za3 (lexC m::y)=za3 (lexF 6 n) by rw [HFIN.out])
   rw [<- qat hm16 (by exact Nat.lt_of_lt_of_le hm16 (by decide))] at kc HBF HSTR
   clear hm ha hl hq hand hW2 hD2 hr hal
   go_wp2_with fail
   go_ret2
   exact ⟨congrArg (fun u=>Ending.returned (Value.tuple #[.slice none 0 0,Value.string u])) HSTR.out,HBF.out⟩
theorem zyo (n:Nat) (hn:n<=1114111) {w:World} (hB:zfs w):Calls Tryz.prog 132 #[.int .i64 n,.int .i64 16] w
  fun e w'=>e=.returned (.string (za3 (lexF 6 n)))/\Below w.heap.size w w':=by
 have HB:=hh9 (zsv n hn hB)
 have hw:IntKind.u64.wrap (n:Int)=(n:Int):=by rw [IntKind.wrap_u64];omega
 clear hB
 go_enter Tryz.func132,Tryz.ntmps132
 go_wp2_with fail
 refine HB.out.mono ?_
 rintro e w' ⟨rfl,hb⟩
 have HB2:=hh9 hb
 clear hb
 go_wp2_with fail
 go_ret
 exact ⟨rfl,HB2.out⟩
theorem zuo (n:Nat) (hn:n<=1114111) {w:World} (hB:zfs w):Calls Tryz.prog 109 #[.int .i64 n,.int .i64 16] w
  fun e w'=>e=.returned (.string (za3 (lexF 6 n)))/\Below w.heap.size w w':=by
 have HB:=hh9 (zyo n hn hB)
 clear hB
 go_enter Tryz.func109,Tryz.ntmps109
 go_wp2_with fail
 refine HB.out.mono ?_
 rintro e w' ⟨rfl,hb⟩
 have HB2:=hh9 hb
 clear hb
 go_wp2_with fail
 go_ret
 exact ⟨rfl,HB2.out⟩
end Go.Proofs.YtekjnfldgjcgeaaGreatDoor
namespace Go.Proofs
open Go.Shelf
def Tryz.lays158_ren:Go.Shelf.Ren:=⟨fun | 158=>108 | 165=>85 | 166=>86 | 167=>129 | 169=>87 | 230=>130 | 203=>131 | 240=>103 | 241=>104 | 197=>148 | 118=>149 | 168=>150 | 270=>151 | 262=>152 | 276=>125 | 277=>126 | 260=>163 | 242=>164 | 313=>165 | 278=>176 | 274=>177 | 275=>178 | n=>n,fun | 9=>9 | 4=>4 | 3=>3 | 5=>5 | 72=>117 | 0=>0 | 76=>121 | 75=>120 | 107=>151 | 70=>115 | 20=>20 | 37=>100 | 127=>134 | 21=>21 | 105=>156 | 164=>145 | 162=>172 | 203=>170 | 119=>179 | 46=>177 | 139=>182 | 138=>181 | 51=>175 | 160=>183 | 208=>193 | 206=>191 | 80=>75 | n=>n,fun | 13=>1 | 3=>3 | 4=>4 | n=>n⟩
theorem Tryz.lays158:Go.Proofs.Lays.n158 Tryz.prog Tryz.lays158_ren:={
 mixed:=by kernel_rfl
 f118:=Tryz.func149.trans (congrArg some (by kernel_rfl))
 f158:=Tryz.func108.trans (congrArg some (by kernel_rfl))
 f165:=Tryz.func85.trans (congrArg some (by kernel_rfl))
 f166:=Tryz.func86.trans (congrArg some (by kernel_rfl))
 f167:=Tryz.func129.trans (congrArg some (by kernel_rfl))
 f168:=Tryz.func150.trans (congrArg some (by kernel_rfl))
 f169:=Tryz.func87.trans (congrArg some (by kernel_rfl))
 f197:=Tryz.func148.trans (congrArg some (by kernel_rfl))
 f203:=Tryz.func131.trans (congrArg some (by kernel_rfl))
 f230:=Tryz.func130.trans (congrArg some (by kernel_rfl))
 f240:=Tryz.func103.trans (congrArg some (by kernel_rfl))
 f241:=Tryz.func104.trans (congrArg some (by kernel_rfl))
 f242:=Tryz.func164.trans (congrArg some (by kernel_rfl))
 f260:=Tryz.func163.trans (congrArg some (by kernel_rfl))
 f262:=Tryz.func152.trans (congrArg some (by kernel_rfl))
 f270:=Tryz.func151.trans (congrArg some (by kernel_rfl))
 f274:=Tryz.func177.trans (congrArg some (by kernel_rfl))
 f275:=Tryz.func178.trans (congrArg some (by kernel_rfl))
 f276:=Tryz.func125.trans (congrArg some (by kernel_rfl))
 f277:=Tryz.func126.trans (congrArg some (by kernel_rfl))
 f278:=Tryz.func176.trans (congrArg some (by kernel_rfl))
 f313:=Tryz.func165.trans (congrArg some (by kernel_rfl))
 t0:=Tryz.underlying0
 a0:=Tryz.isAgg0
 z0:=Tryz.sizeOf0
 v0:=Tryz.zeroValue0
 t3:=Tryz.underlying3
 a3:=Tryz.isAgg3
 z3:=Tryz.sizeOf3
 v3:=Tryz.zeroValue3
 t4:=Tryz.underlying4
 a4:=Tryz.isAgg4
 z4:=Tryz.sizeOf4
 v4:=Tryz.zeroValue4
 t5:=Tryz.underlying5
 a5:=Tryz.isAgg5
 z5:=Tryz.sizeOf5
 v5:=Tryz.zeroValue5
 t9:=Tryz.underlying9
 a9:=Tryz.isAgg9
 z9:=Tryz.sizeOf9
 v9:=Tryz.zeroValue9
 t20:=Tryz.underlying20
 a20:=Tryz.isAgg20
 z20:=Tryz.sizeOf20
 v20:=Tryz.zeroValue20
 t21:=Tryz.underlying21
 a21:=Tryz.isAgg21
 z21:=Tryz.sizeOf21
 v21:=Tryz.zeroValue21
 t37:=Tryz.underlying100
 a37:=Tryz.isAgg100
 z37:=Tryz.sizeOf100
 v37:=Tryz.zeroValue100
 t46:=Tryz.underlying177
 a46:=Tryz.isAgg177
 z46:=Tryz.sizeOf177
 v46:=Tryz.zeroValue177
 t51:=Tryz.underlying175
 a51:=Tryz.isAgg175
 z51:=Tryz.sizeOf175
 v51:=Tryz.zeroValue175
 t70:=Tryz.underlying115
 a70:=Tryz.isAgg115
 z70:=Tryz.sizeOf115
 v70:=Tryz.zeroValue115
 t72:=Tryz.underlying117
 a72:=Tryz.isAgg117
 z72:=Tryz.sizeOf117
 v72:=Tryz.zeroValue117
 t75:=Tryz.underlying120
 a75:=Tryz.isAgg120
 z75:=Tryz.sizeOf120
 v75:=Tryz.zeroValue120
 t76:=Tryz.underlying121
 a76:=Tryz.isAgg121
 z76:=Tryz.sizeOf121
 v76:=Tryz.zeroValue121
 t105:=Tryz.underlying156
 a105:=Tryz.isAgg156
 z105:=Tryz.sizeOf156
 v105:=Tryz.zeroValue156
 t107:=Tryz.underlying151
 a107:=Tryz.isAgg151
 z107:=Tryz.sizeOf151
 v107:=Tryz.zeroValue151
 t119:=Tryz.underlying179
 a119:=Tryz.isAgg179
 z119:=Tryz.sizeOf179
 t127:=Tryz.underlying134
 a127:=Tryz.isAgg134
 z127:=Tryz.sizeOf134
 v127:=Tryz.zeroValue134
 t138:=Tryz.underlying181
 a138:=Tryz.isAgg181
 z138:=Tryz.sizeOf181
 v138:=Tryz.zeroValue181
 t139:=Tryz.underlying182
 a139:=Tryz.isAgg182
 z139:=Tryz.sizeOf182
 v139:=Tryz.zeroValue182
 t160:=Tryz.underlying183
 a160:=Tryz.isAgg183
 z160:=Tryz.sizeOf183
 v160:=Tryz.zeroValue183
 t162:=Tryz.underlying172
 a162:=Tryz.isAgg172
 z162:=Tryz.sizeOf172
 v162:=Tryz.zeroValue172
 t164:=Tryz.underlying145
 a164:=Tryz.isAgg145
 z164:=Tryz.sizeOf145
 v164:=Tryz.zeroValue145
 t203:=Tryz.underlying170
 a203:=Tryz.isAgg170
 z203:=Tryz.sizeOf170
 v203:=Tryz.zeroValue170
 t206:=Tryz.underlying191
 a206:=Tryz.isAgg191
 z206:=Tryz.sizeOf191
 v206:=Tryz.zeroValue191
 t208:=Tryz.underlying193
 a208:=Tryz.isAgg193
 z208:=Tryz.sizeOf193
 v208:=Tryz.zeroValue193
 g3:=by kernel_rfl
 g4:=by kernel_rfl
 g13:=by kernel_rfl }
theorem Tryz.Builder_Extra_158:Builder.Extra Tryz.prog Tryz.lays158_ren:={
 sizeBuilder:=by kernel_rfl
 liesBuilder:=by kernel_rfl
 t5:=Tryz.underlying5
 a5:=Tryz.isAgg5
 z5:=Tryz.sizeOf5
 v5:=Tryz.zeroValue5
 infoByte:=by kernel_rfl
 cellsByte:=by kernel_rfl
 sizeByte:=by kernel_rfl
 neB5:=by decide }
open Go.RowKit in
theorem Tryz.strings_ToUpper_ascii (s:ByteArray) (w:World) (hs:s.size<=140737488355328) (hascii:∀ (j:Nat) (b:UInt8),s.data.toList[j]?=some b->b.toNat<128) :
  Calls Tryz.prog 108 #[.string s] w fun e w'=>e=.returned (.string ⟨(Lib.toUpperA s.data.toList).toArray⟩)/\Below w.heap.size w w':=Any.strings_ToUpper_ascii Tryz.lays158 Tryz.Builder_Extra_158 s w hs hascii
def Tryz.lays156_ren:Go.Shelf.Ren:=⟨fun | 156=>64 | 165=>85 | 166=>86 | 169=>87 | 240=>103 | 241=>104 | 276=>125 | 277=>126 | n=>n,fun | 31=>42 | 9=>9 | 3=>3 | 4=>4 | 0=>0 | 20=>20 | 72=>117 | 76=>121 | 70=>115 | 37=>100 | 75=>120 | 127=>134 | 164=>145 | 5=>5 | 80=>75 | n=>n,fun | n=>n⟩
theorem Tryz.lays156:Go.Proofs.Lays.n156 Tryz.prog Tryz.lays156_ren:={
 mixed:=by kernel_rfl
 f156:=Tryz.func64.trans (congrArg some (by kernel_rfl))
 f165:=Tryz.func85.trans (congrArg some (by kernel_rfl))
 f166:=Tryz.func86.trans (congrArg some (by kernel_rfl))
 f169:=Tryz.func87.trans (congrArg some (by kernel_rfl))
 f240:=Tryz.func103.trans (congrArg some (by kernel_rfl))
 f241:=Tryz.func104.trans (congrArg some (by kernel_rfl))
 f276:=Tryz.func125.trans (congrArg some (by kernel_rfl))
 f277:=Tryz.func126.trans (congrArg some (by kernel_rfl))
 t0:=Tryz.underlying0
 a0:=Tryz.isAgg0
 z0:=Tryz.sizeOf0
 v0:=Tryz.zeroValue0
 t3:=Tryz.underlying3
 a3:=Tryz.isAgg3
 z3:=Tryz.sizeOf3
 v3:=Tryz.zeroValue3
 t4:=Tryz.underlying4
 a4:=Tryz.isAgg4
 z4:=Tryz.sizeOf4
 v4:=Tryz.zeroValue4
 t9:=Tryz.underlying9
 a9:=Tryz.isAgg9
 z9:=Tryz.sizeOf9
 v9:=Tryz.zeroValue9
 t20:=Tryz.underlying20
 a20:=Tryz.isAgg20
 z20:=Tryz.sizeOf20
 v20:=Tryz.zeroValue20
 t31:=Tryz.underlying42
 a31:=Tryz.isAgg42
 z31:=Tryz.sizeOf42
 v31:=Tryz.zeroValue42
 t37:=Tryz.underlying100
 a37:=Tryz.isAgg100
 z37:=Tryz.sizeOf100
 v37:=Tryz.zeroValue100
 t70:=Tryz.underlying115
 a70:=Tryz.isAgg115
 z70:=Tryz.sizeOf115
 v70:=Tryz.zeroValue115
 t72:=Tryz.underlying117
 a72:=Tryz.isAgg117
 z72:=Tryz.sizeOf117
 v72:=Tryz.zeroValue117
 t75:=Tryz.underlying120
 a75:=Tryz.isAgg120
 z75:=Tryz.sizeOf120
 v75:=Tryz.zeroValue120
 t76:=Tryz.underlying121
 a76:=Tryz.isAgg121
 z76:=Tryz.sizeOf121
 v76:=Tryz.zeroValue121
 t127:=Tryz.underlying134
 a127:=Tryz.isAgg134
 z127:=Tryz.sizeOf134
 v127:=Tryz.zeroValue134
 t164:=Tryz.underlying145
 a164:=Tryz.isAgg145
 z164:=Tryz.sizeOf145
 v164:=Tryz.zeroValue145 }
theorem Tryz.Builder_Extra_156:Builder.Extra Tryz.prog Tryz.lays156_ren:={
 sizeBuilder:=by kernel_rfl
 liesBuilder:=by kernel_rfl
 t5:=Tryz.underlying5
 a5:=Tryz.isAgg5
 z5:=Tryz.sizeOf5
 v5:=Tryz.zeroValue5
 infoByte:=by kernel_rfl
 cellsByte:=by kernel_rfl
 sizeByte:=by kernel_rfl
 neB5:=by decide }
open Go.RowKit in
theorem Tryz.strings_Join (bk o c:Nat) (xs:List ByteArray) (sep:ByteArray) (w:World) (hcells:∀ (j:Nat) x,xs[j]?=some x->w.cell? ⟨bk,o+j,none⟩=some (.string x)) (hbk:bk<w.heap.size) (hN:xs.length<=140737488355328) (hcap:xs.length<=c) (hlen:(Lib.join (xs.map (·.data.toList)) sep.data.toList).length<=140737488355328) :
  Calls Tryz.prog 64 #[.slice (some ⟨bk,o,none⟩) xs.length c,.string sep] w fun e w'=>e=.returned (.string ⟨(Lib.join (xs.map (·.data.toList)) sep.data.toList).toArray⟩)/\Below w.heap.size w w':=Any.strings_Join Tryz.lays156 Tryz.Builder_Extra_156 bk o c xs sep w hcells hbk hN hcap hlen
def Tryz.laysM171_ren:Go.Shelf.Ren:=⟨fun | 171=>128 | 243=>147 | 246=>132 | 283=>153 | 284=>154 | 285=>155 | 286=>156 | 129=>167 | 317=>166 | 318=>168 | 319=>169 | 320=>170 | 337=>179 | 338=>180 | n=>n,fun | 3=>3 | 9=>9 | 2=>2 | 4=>4 | 171=>161 | 0=>0 | 53=>162 | 37=>100 | 5=>5 | 173=>165 | 212=>174 | 51=>175 | 20=>20 | 213=>176 | 46=>177 | 232=>194 | 233=>195 | n=>n,fun | 17=>2 | 18=>5 | 19=>6 | n=>n⟩
theorem Tryz.laysM171:Go.Proofs.LaysM.n171 Tryz.prog Tryz.laysM171_ren:={
 mixed:=by kernel_rfl
 f129:=Tryz.func167.trans (congrArg some (by kernel_rfl))
 f171:=Tryz.func128.trans (congrArg some (by kernel_rfl))
 f243:=Tryz.func147.trans (congrArg some (by kernel_rfl))
 f246:=Tryz.func132.trans (congrArg some (by kernel_rfl))
 f283:=Tryz.func153.trans (congrArg some (by kernel_rfl))
 f284:=Tryz.func154.trans (congrArg some (by kernel_rfl))
 f285:=Tryz.func155.trans (congrArg some (by kernel_rfl))
 f286:=Tryz.func156.trans (congrArg some (by kernel_rfl))
 f317:=Tryz.func166.trans (congrArg some (by kernel_rfl))
 f318:=Tryz.func168.trans (congrArg some (by kernel_rfl))
 f319:=Tryz.func169.trans (congrArg some (by kernel_rfl))
 f320:=Tryz.func170.trans (congrArg some (by kernel_rfl))
 f337:=Tryz.func179.trans (congrArg some (by kernel_rfl))
 f338:=Tryz.func180.trans (congrArg some (by kernel_rfl))
 t0:=Tryz.underlying0
 a0:=Tryz.isAgg0
 z0:=Tryz.sizeOf0
 v0:=Tryz.zeroValue0
 t2:=Tryz.underlying2
 a2:=Tryz.isAgg2
 z2:=Tryz.sizeOf2
 v2:=Tryz.zeroValue2
 t3:=Tryz.underlying3
 a3:=Tryz.isAgg3
 z3:=Tryz.sizeOf3
 v3:=Tryz.zeroValue3
 t4:=Tryz.underlying4
 a4:=Tryz.isAgg4
 z4:=Tryz.sizeOf4
 v4:=Tryz.zeroValue4
 t5:=Tryz.underlying5
 a5:=Tryz.isAgg5
 z5:=Tryz.sizeOf5
 v5:=Tryz.zeroValue5
 t9:=Tryz.underlying9
 a9:=Tryz.isAgg9
 z9:=Tryz.sizeOf9
 v9:=Tryz.zeroValue9
 t20:=Tryz.underlying20
 a20:=Tryz.isAgg20
 z20:=Tryz.sizeOf20
 v20:=Tryz.zeroValue20
 t37:=Tryz.underlying100
 a37:=Tryz.isAgg100
 z37:=Tryz.sizeOf100
 v37:=Tryz.zeroValue100
 t46:=Tryz.underlying177
 a46:=Tryz.isAgg177
 z46:=Tryz.sizeOf177
 v46:=Tryz.zeroValue177
 t51:=Tryz.underlying175
 a51:=Tryz.isAgg175
 z51:=Tryz.sizeOf175
 v51:=Tryz.zeroValue175
 t53:=Tryz.underlying162
 a53:=Tryz.isAgg162
 z53:=Tryz.sizeOf162
 v53:=Tryz.zeroValue162
 t171:=Tryz.underlying161
 a171:=Tryz.isAgg161
 z171:=Tryz.sizeOf161
 v171:=Tryz.zeroValue161
 t173:=Tryz.underlying165
 a173:=Tryz.isAgg165
 z173:=Tryz.sizeOf165
 v173:=Tryz.zeroValue165
 t212:=Tryz.underlying174
 a212:=Tryz.isAgg174
 z212:=Tryz.sizeOf174
 v212:=Tryz.zeroValue174
 t213:=Tryz.underlying176
 a213:=Tryz.isAgg176
 z213:=Tryz.sizeOf176
 t232:=Tryz.underlying194
 a232:=Tryz.isAgg194
 z232:=Tryz.sizeOf194
 v232:=Tryz.zeroValue194
 t233:=Tryz.underlying195
 a233:=Tryz.isAgg195
 z233:=Tryz.sizeOf195
 v233:=Tryz.zeroValue195
 g17:=by kernel_rfl
 g18:=by kernel_rfl
 g19:=by kernel_rfl
 i0:=by kernel_rfl
 i2:=by kernel_rfl
 i3:=by kernel_rfl
 i4:=by kernel_rfl
 i5:=by kernel_rfl
 i9:=by kernel_rfl
 i20:=by kernel_rfl
 i37:=by kernel_rfl
 i46:=by kernel_rfl
 i51:=by kernel_rfl
 i53:=by kernel_rfl
 i171:=by kernel_rfl
 i173:=by kernel_rfl
 i212:=by kernel_rfl
 i232:=by kernel_rfl
 i233:=by kernel_rfl
 m17:=by kernel_rfl
 m18:=by kernel_rfl
 m19:=by kernel_rfl }
open Go.RowKit Go.Sort Go.Lib in
theorem Tryz.strconv_Itoa (n : Int) (h0 : -9223372036854775808 <= n) (h1 : n <= 9223372036854775807) (w : World) (htab : Lib.TabIs Tryz.prog w "internal/strconv.uint64pow10" .u64 Lib.pow10Tab) :
  Calls Tryz.prog 128 #[.int .i64 n] w fun e w'=>e=.returned (.string ⟨(Lib.itoa n).toArray⟩)/\∃ k os,w'=grow (w.drewN k) os:=Any.strconv_Itoa Tryz.laysM171 n h0 h1 w htab
end Go.Proofs
namespace Go.Proofs.YtekjnfldgjcgeaaGreatDoor
theorem zhq:∀ (k j n:Nat),n<10 ^ k->0<k->k<=j->decF k n=decF j n
 | 0,_,_,_,h,_=>absurd h (by omega)
 | k+1,0,_,_,_,h=>absurd h (by omega)
 | k+1,j+1,n,h,_,hj=>by
  unfold decF
  by_cases g:n<10
  ·rw [if_pos g,if_pos g]
  ·rw [if_neg g,if_neg g]
   have hk:0<k:=by
    rcases Nat.eq_zero_or_pos k with e | e
    ·subst e;simp at h;omega
    ·exact e
   rw [zhq k j (n / 10) (by rw [Nat.pow_succ] at h;omega) hk (by omega)]
theorem qau:∀ (f n:Nat),16<=n->n<256 ^ (f+1)->hexD f n=hexF (2*f+2) n
 | 0,n,h0,h=>by
  have h:n<256:=by simpa using h
  have e:hexF 2 n=hexF 1 (n / 16)++[hexC (n%16)]:=by rw [hexF,if_neg (by omega)]
  have e2:hexF 1 (n / 16)=[hexC (n / 16%16)]:=by rw [hexF,if_pos (by omega)];rfl
  show hexD 0 n=hexF 2 n
  rw [e,e2]
  rfl
 | f+1,n,h0,h=>by
  have e:hexF (2*(f+1)+2) n=hexF (2*f+3) (n / 16)++[hexC (n%16)]:=by
   show hexF (2*f+3+1) n=_
   rw [hexF,if_neg (by omega)]
  rw [hexD,e]
  by_cases h1:n<256
  ·rw [if_pos h1]
   have e2:hexF (2*f+3) (n / 16)=[hexC (n / 16%16)]:=by
    show hexF (2*f+2+1) (n / 16)=_
    rw [hexF,if_pos (by omega)];rfl
   rw [e2]
   rfl
  ·rw [if_neg h1]
   have e2:hexF (2*f+3) (n / 16)=hexF (2*f+2) (n / 256)++[hexC (n / 16%16)]:=by
    show hexF (2*f+2+1) (n / 16)=_
    rw [hexF,if_neg (by omega),Nat.div_div_eq_div_mul]
   rw [e2]
   by_cases h2:n<4096
   ·rw [if_pos h2]
    have e3:hexF (2*f+2) (n / 256)=[hexC (n / 256)]:=by
     show hexF (2*f+1+1) (n / 256)=_
     rw [hexF,if_pos (by omega),Nat.mod_eq_of_lt (by omega)];rfl
    rw [e3]
    rfl
   ·rw [if_neg h2]
    have:n<256 ^ (f+1)*256:=by rw [<- Nat.pow_succ];exact h
    rw [qau f (n / 256) (by omega) (by omega)]
    simp
theorem zsw (f n:Nat) (h:n<256):hexD f n=[hexC (n / 16%16),hexC (n%16)]:=by
 cases f with
 | zero=>rfl
 | succ f=>rw [hexD,if_pos h]
theorem qcy (n:Nat) (h:n<=1114111):hexD 2 n=hexT n:=by
 unfold hexT
 by_cases g:n<16
 ·rw [if_pos g,zsw 2 n (by omega),show n / 16%16=0 by omega,Nat.mod_eq_of_lt g]
  rfl
 ·rw [if_neg g,qau 2 n (by omega) (by rw [show (256:Nat) ^ (2+1)=16777216 by decide];omega)]
theorem qcz {f n:Nat} (h:n<10 ^ (f+1)) (hf:f<=17):decF (f+1) n=decT n:=zhq (f+1) 20 n h (by omega) (by omega)
end Go.Proofs.YtekjnfldgjcgeaaGreatDoor
