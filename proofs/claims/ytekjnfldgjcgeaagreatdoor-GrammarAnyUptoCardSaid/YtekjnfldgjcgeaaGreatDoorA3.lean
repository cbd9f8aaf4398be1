/- Part 3 of what the laws of the grammar rest on. -/
import Derived.Test.YtekjnfldgjcgeaaGreatDoorA2
import Derived.MapKept
set_option linter.all false
set_option maxRecDepth 100000
set_option maxHeartbeats 8000000
namespace Go.Proofs.YtekjnfldgjcgeaaGreatDoor
open Go.RowKit
def X6 (W:World) (g:Nat) (k lo hi:Int) (s:ByteArray) (ns ks:Value):Prop:=W.heap[g]?=some (.cells #[.int .i64 k,.string s,ns,.int .i64 lo,.int .i64 hi,ks] 35 (0,0))
theorem X6.lt {W:World} {g:Nat} {k lo hi:Int} {s:ByteArray} {ns ks:Value} (h:X6 W g k lo hi s ns ks):g<W.heap.size:=(Array.getElem?_eq_some_iff.1 h).1
theorem X6.under {W W1:World} {g:Nat} {k lo hi:Int} {s:ByteArray} {ns ks:Value} (h:X6 W g k lo hi s ns ks) (hb:Below W.heap.size W W1):X6 W1 g k lo hi s ns ks:=(hb.block g h.lt).trans h
theorem X6.alloc {W:World} {g:Nat} {k lo hi:Int} {s:ByteArray} {ns ks:Value} (h:X6 W g k lo hi s ns ks) (o:Obj):X6 (W.alloc o) g k lo hi s ns ks:=h.under ((Below.refl _ _).alloc (Nat.le_refl _) o)
theorem X6.cells {W:World} {g:Nat} {k lo hi:Int} {s:ByteArray} {ns ks:Value} (h:X6 W g k lo hi s ns ks) :
  W.cell? ⟨g,0,none⟩=some (.int .i64 k)/\W.cell? ⟨g,1,none⟩=some (.string s)/\W.cell? ⟨g,2,none⟩=some ns/\W.cell? ⟨g,3,none⟩=some (.int .i64 lo)/\W.cell? ⟨g,4,none⟩=some (.int .i64 hi)/\W.cell? ⟨g,5,none⟩=some ks:=by
 unfold X6 at h
 simp [World.cell?,h]
theorem X6.frozen {W:World} {g:Nat} {k lo hi:Int} {s:ByteArray} {ns ks:Value} (h:X6 W g k lo hi s ns ks) (j:Nat):W.frozen? ⟨g,j,none⟩=false:=by
 unfold X6 at h
 simp [World.frozen?,h]
theorem X6.new (W:World) (k lo hi:Int) (s:ByteArray) (ns ks:Value):X6 (W.alloc (xobj k lo hi s ns ks)) W.heap.size k lo hi s ns ks:=heap_alloc_new W _
theorem X6.set {W:World} {g:Nat} {k lo hi:Int} {s:ByteArray} {ns ks:Value} (h:X6 W g k lo hi s ns ks) (j:Nat) (v:Value) :
  (W.setCell ⟨g,j,none⟩ v).heap[g]?=some (.cells ((#[.int .i64 k,.string s,ns,.int .i64 lo,.int .i64 hi,ks]:Array Value).setIfInBounds j v) 35 (0,0)):=by
 rw [setCell_eq_setRow _ _ _ _ _ _ _ h]
 exact setRow_heap _ _ _ _ _ _ h
theorem X6.other {W:World} {g b j:Nat} {k lo hi:Int} {s:ByteArray} {ns ks v:Value} (h:X6 W g k lo hi s ns ks) (hne:b≠g):X6 (W.setCell ⟨b,j,none⟩ v) g k lo hi s ns ks:=(Below.heap_setCell _ _ _ _ hne.symm).trans h
structure Oth (w W:World) (k lo hi k' lo' hi':Int) (s s':ByteArray) (ns ks ns' ks':Value):Prop where
 arg:X6 W w.heap.size k lo hi s ns ks
 own:X6 W (w.heap.size+1) k' lo' hi' s' ns' ks'
 below:Below w.heap.size w W
theorem Oth.under {w W W1:World} {k lo hi k' lo' hi':Int} {s s':ByteArray} {ns ks ns' ks':Value} (h:Oth w W k lo hi k' lo' hi' s s' ns ks ns' ks') (hb:Below W.heap.size W W1):Oth w W1 k lo hi k' lo' hi' s s' ns ks ns' ks' :=
 ⟨h.arg.under hb,h.own.under hb,za0 h.below hb⟩
theorem Oth.new (w:World) (k lo hi:Int) (s:ByteArray) (ns ks:Value):Oth w ((w.alloc (xobj k lo hi s ns ks)).alloc (xobj k lo hi s ns ks)) k lo hi k lo hi s s ns ks ns ks:=by
 have h:=X6.new (w.alloc (xobj k lo hi s ns ks)) k lo hi s ns ks
 rw [show (w.alloc (xobj k lo hi s ns ks)).heap.size=w.heap.size+1 by simp] at h
 exact ⟨(X6.new w k lo hi s ns ks).alloc _,h,((Below.refl _ _).alloc (Nat.le_refl _) _).alloc (by simp) _⟩
theorem Oth.setKs {w W:World} {k lo hi k' lo' hi':Int} {s s':ByteArray} {ns ks ns' ks':Value} (h:Oth w W k lo hi k' lo' hi' s s' ns ks ns' ks') (v:Value):Oth w (W.setCell ⟨w.heap.size+1,5,none⟩ v) k lo hi k' lo' hi' s s' ns ks ns' v :=
 ⟨h.arg.other (by omega),h.own.set 5 v,h.below.setCell (by simp) _⟩
theorem Oth.setNs {w W:World} {k lo hi k' lo' hi':Int} {s s':ByteArray} {ns ks ns' ks':Value} (h:Oth w W k lo hi k' lo' hi' s s' ns ks ns' ks') (v:Value):Oth w (W.setCell ⟨w.heap.size+1,2,none⟩ v) k lo hi k' lo' hi' s s' ns ks v ks' :=
 ⟨h.arg.other (by omega),h.own.set 2 v,h.below.setCell (by simp) _⟩
theorem Oth.setS {w W:World} {k lo hi k' lo' hi':Int} {s s':ByteArray} {ns ks ns' ks':Value} (h:Oth w W k lo hi k' lo' hi' s s' ns ks ns' ks') (v:ByteArray):Oth w (W.setCell ⟨w.heap.size+1,1,none⟩ (.string v)) k lo hi k' lo' hi' s v ns ks ns' ks' :=
 ⟨h.arg.other (by omega),h.own.set 1 _,h.below.setCell (by simp) _⟩
theorem Oth.setLo {w W:World} {k lo hi k' lo' hi':Int} {s s':ByteArray} {ns ks ns' ks':Value} (h:Oth w W k lo hi k' lo' hi' s s' ns ks ns' ks') (v:Int):Oth w (W.setCell ⟨w.heap.size+1,3,none⟩ (.int .i64 v)) k lo hi k' v hi' s s' ns ks ns' ks' :=
 ⟨h.arg.other (by omega),h.own.set 3 _,h.below.setCell (by simp) _⟩
theorem Oth.setHi {w W:World} {k lo hi k' lo' hi':Int} {s s':ByteArray} {ns ks ns' ks':Value} (h:Oth w W k lo hi k' lo' hi' s s' ns ks ns' ks') (v:Int):Oth w (W.setCell ⟨w.heap.size+1,4,none⟩ (.int .i64 v)) k lo hi k' lo' v s s' ns ks ns' ks' :=
 ⟨h.arg.other (by omega),h.own.set 4 _,h.below.setCell (by simp) _⟩
theorem zc4 {x:List Int} (h:x.isEmpty=true):(za3 x).toList.isEmpty=true:=by
 rw [List.isEmpty_iff.1 h,zez,Lib.toList_data]
 rfl
theorem zc5 {x:List Int} (h:x.isEmpty=false):(za3 x).toList.isEmpty=false:=by
 refine zjg ?_
 rw [za9]
 cases x with
 | nil=>cases h
 | cons a l=>simp
theorem zcg {X:XV} {xs:List Int} {b:Bool} (h:inB xs X.kind=b) (h1:X.ns.oneCell'=true) (h2:X.ks.oneCell'=true) (W:World) (v:Value) (hv:RowAny W v xs.length (zat xs)):Calls Tryz.prog 106 #[X.val,v] W (zam b W):=by
 rw [<- h]
 exact zyd W hv h1 h2
theorem ints_at {W:World} {b:Nat} {xs:List Int} (hl:xs.length<=1000) (h:W.heap[b]?=some (.cells (zat xs).toArray 3 (0,0))):RowAny W (.slice (some ⟨b,0,none⟩) xs.length xs.length) xs.length (zat xs):=by
 refine .inr ⟨b,0,xs.length,rfl,Nat.le_refl _,by unfold maxLen;omega,(Array.getElem?_eq_some_iff.1 h).1,fun j u hj=>?_⟩
 simp only [World.cell?,h,Nat.zero_add]
 simpa using hj
theorem zb5 (W:World) (o:Obj) (b:Nat) (h:b=W.heap.size):(W.alloc o).heap[b]?=some o:=by subst h;exact heap_alloc_new W o
theorem qbi {k:Int} (hk:k=1\/k=2) {x:List Int} (lo hi:Int) (a c:Option Addr) (m ca n cc:Nat) (hm:m<=9223372036854775807) (hn:n<=9223372036854775807) (w:World) {Bv:Bool} (hB:Bv=((x.isEmpty)&&(decide (m=0))&&(lo==0)&&(hi==0))) :
  Calls Tryz.prog 100 #[.agg #[.int .i64 k,.string (za3 x),.slice a m ca,.int .i64 lo,.int .i64 hi,.slice c n cc]] w (zam Bv w):=by
 have HB:=hh9 hB
 clear hB
 have HN:=hh9 (Oth.new w k lo hi (za3 x) (.slice a m ca) (.slice c n cc))
 have i1:inB [1,2,3] k=true:=by rcases hk with rfl | rfl<;>rfl
 have I1:=hh9 (zcg (X:=⟨k,za3 x,.slice a m ca,lo,hi,.slice c n cc⟩) i1 rfl rfl)
 have i2:inB [3] k=false:=by rcases hk with rfl | rfl<;>rfl
 have I2:=hh9 (zcg (X:=⟨k,za3 x,.slice a m ca,lo,hi,.slice c n cc⟩) i2 rfl rfl)
 have i3:inB [4,5] k=false:=by rcases hk with rfl | rfl<;>rfl
 have I3:=hh9 (zcg (X:=⟨k,za3 x,.slice a m ca,lo,hi,.slice c n cc⟩) i3 rfl rfl)
 have i4:inB [6,7] k=false:=by rcases hk with rfl | rfl<;>rfl
 have I4:=hh9 (zcg (X:=⟨k,za3 x,.slice a m ca,lo,hi,.slice c n cc⟩) i4 rfl rfl)
 unfold xobj at HN
 clear i1 i2 i3 i4 hk
 obtain ⟨S,hS⟩:∃ S,S=za3 x:=⟨_,rfl⟩
 have HSE:Hid (x.isEmpty=true->S.toList.isEmpty=true):=fun h=>by rw [hS];exact zc4 h
 have HSN:Hid (x.isEmpty=false->S.toList.isEmpty=false):=fun h=>by rw [hS];exact zc5 h
 rw [<- hS] at HN I1 I2 I3 I4 ⊢
 clear hS
 go_enter Tryz.func100,Tryz.ntmps100
 go_wp2_with fail
 refine (I1.out _ _ (ints_at (xs:=([1,2,3])) (by decide) (zb5 _ _ _ (by simp)))).mono ?_
 rintro e w1 ⟨rfl,hb⟩
 have HA1:=hh9 (HN.out.under (((Below.refl _ _).alloc (Nat.le_refl _) _).trans (hb.mono (by simp))))
 clear hb HN
 (try clear a0 a1 a2 a3 a4 a5 f0 f1 f2 f3 f4 f5)
 (try clear g5)
 (try clear g3 g4)
 obtain ⟨a0,a1,a2,a3,a4,a5⟩:=HA1.out.arg.cells
 obtain ⟨f0,f1,f2,f3,f4,f5⟩:=HA1.out.own.cells
 have g5:=HA1.out.own.frozen 5
 have HB2:=hh9 (HA1.out.setKs (.slice none 0 0))
 clear HA1
 go_wp2_with fail
 refine (I2.out _ _ (ints_at (xs:=([3])) (by decide) (zb5 _ _ _ (by simp)))).mono ?_
 rintro e w1 ⟨rfl,hb⟩
 have HA3:=hh9 (HB2.out.under (((Below.refl _ _).alloc (Nat.le_refl _) _).trans (hb.mono (by simp))))
 clear hb HB2
 (try clear a0 a1 a2 a3 a4 a5 f0 f1 f2 f3 f4 f5)
 (try clear g5)
 (try clear g3 g4)
 obtain ⟨a0,a1,a2,a3,a4,a5⟩:=HA3.out.arg.cells
 obtain ⟨f0,f1,f2,f3,f4,f5⟩:=HA3.out.own.cells
 go_wp2_with fail
 refine (I3.out _ _ (ints_at (xs:=([4,5])) (by decide) (zb5 _ _ _ (by simp)))).mono ?_
 rintro e w1 ⟨rfl,hb⟩
 have HA4:=hh9 (HA3.out.under (((Below.refl _ _).alloc (Nat.le_refl _) _).trans (hb.mono (by simp))))
 clear hb HA3
 (try clear a0 a1 a2 a3 a4 a5 f0 f1 f2 f3 f4 f5)
 (try clear g5)
 (try clear g3 g4)
 obtain ⟨a0,a1,a2,a3,a4,a5⟩:=HA4.out.arg.cells
 obtain ⟨f0,f1,f2,f3,f4,f5⟩:=HA4.out.own.cells
 go_wp2_with fail
 refine (I4.out _ _ (ints_at (xs:=([6,7])) (by decide) (zb5 _ _ _ (by simp)))).mono ?_
 rintro e w1 ⟨rfl,hb⟩
 have HA5:=hh9 (HA4.out.under (((Below.refl _ _).alloc (Nat.le_refl _) _).trans (hb.mono (by simp))))
 clear hb HA4
 (try clear a0 a1 a2 a3 a4 a5 f0 f1 f2 f3 f4 f5)
 (try clear g5)
 (try clear g3 g4)
 obtain ⟨a0,a1,a2,a3,a4,a5⟩:=HA5.out.arg.cells
 obtain ⟨f0,f1,f2,f3,f4,f5⟩:=HA5.out.own.cells
 have HBEL:=hh9 HA5.out.below
 cases hx:x.isEmpty
 ·have qx:=HSN.out hx
  have HV:=hh9 (show Bv=false by rw [HB.out];simp [hx])
  clear hx
  go_wp2_with fail
  go_ret
  exact ⟨by rw [HV.out];exact rfl,HBEL.out⟩
 ·have qx:=HSE.out hx
  have qx2:S.toList=[]:=List.isEmpty_iff.1 qx
  have HX:=hh9 hx
  clear hx
  by_cases hm:m=0
  ·subst hm
   by_cases hlo:lo=0
   ·subst hlo
    by_cases hhi:hi=0
    ·subst hhi
     have HV:=hh9 (show Bv=true by rw [HB.out];first | rfl | simp [HX.out])
     go_wp2_with fail
     go_ret
     exact ⟨by rw [HV.out];exact rfl,HBEL.out⟩
    ·have qhi:(hi==0)=false:=by simp;omega
     have shi:decide (hi=0)=false:=decide_eq_false (by omega)
     have HV:=hh9 (show Bv=false by rw [HB.out];simp [hhi])
     clear hhi
     go_wp2_with fail
     go_ret
     exact ⟨by rw [HV.out];exact rfl,HBEL.out⟩
   ·have qlo:(lo==0)=false:=by simp;omega
    have slo:decide (lo=0)=false:=decide_eq_false (by omega)
    have HV:=hh9 (show Bv=false by rw [HB.out];simp [hlo])
    clear hlo
    go_wp2_with fail
    go_ret
    exact ⟨by rw [HV.out];exact rfl,HBEL.out⟩
  ·have qm:((m:Int)==0)=false:=by simp;omega
   have rm:decide (m=0)=false:=decide_eq_false hm
   have sm:decide ((m:Int)=0)=false:=decide_eq_false (by omega)
   have HV:=hh9 (show Bv=false by rw [HB.out];simp [hm])
   clear hm
   go_wp2_with fail
   go_ret
   exact ⟨by rw [HV.out];exact rfl,HBEL.out⟩
theorem qbj {k:Int} (hk:k=3) {x:List Int} (lo hi:Int) (a c:Option Addr) (m ca n cc:Nat) (hm:m<=9223372036854775807) (hn:n<=9223372036854775807) (w:World) {Bv:Bool} (hB:Bv=((x.isEmpty)&&(decide (m=0)))) :
  Calls Tryz.prog 100 #[.agg #[.int .i64 k,.string (za3 x),.slice a m ca,.int .i64 lo,.int .i64 hi,.slice c n cc]] w (zam Bv w):=by
 have HB:=hh9 hB
 clear hB
 have HN:=hh9 (Oth.new w k lo hi (za3 x) (.slice a m ca) (.slice c n cc))
 have i1:inB [1,2,3] k=true:=by subst hk;rfl
 have I1:=hh9 (zcg (X:=⟨k,za3 x,.slice a m ca,lo,hi,.slice c n cc⟩) i1 rfl rfl)
 have i2:inB [3] k=true:=by subst hk;rfl
 have I2:=hh9 (zcg (X:=⟨k,za3 x,.slice a m ca,lo,hi,.slice c n cc⟩) i2 rfl rfl)
 have i3:inB [4,5] k=false:=by subst hk;rfl
 have I3:=hh9 (zcg (X:=⟨k,za3 x,.slice a m ca,lo,hi,.slice c n cc⟩) i3 rfl rfl)
 have i4:inB [6,7] k=false:=by subst hk;rfl
 have I4:=hh9 (zcg (X:=⟨k,za3 x,.slice a m ca,lo,hi,.slice c n cc⟩) i4 rfl rfl)
 unfold xobj at HN
 clear i1 i2 i3 i4 hk
 obtain ⟨S,hS⟩:∃ S,S=za3 x:=⟨_,rfl⟩
 have HSE:Hid (x.isEmpty=true->S.toList.isEmpty=true):=fun h=>by rw [hS];exact zc4 h
 have HSN:Hid (x.isEmpty=false->S.toList.isEmpty=false):=fun h=>by rw [hS];exact zc5 h
 rw [<- hS] at HN I1 I2 I3 I4 ⊢
 clear hS
 go_enter Tryz.func100,Tryz.ntmps100
 go_wp2_with fail
 refine (I1.out _ _ (ints_at (xs:=([1,2,3])) (by decide) (zb5 _ _ _ (by simp)))).mono ?_
 rintro e w1 ⟨rfl,hb⟩
 have HA1:=hh9 (HN.out.under (((Below.refl _ _).alloc (Nat.le_refl _) _).trans (hb.mono (by simp))))
 clear hb HN
 (try clear a0 a1 a2 a3 a4 a5 f0 f1 f2 f3 f4 f5)
 (try clear g5)
 (try clear g3 g4)
 obtain ⟨a0,a1,a2,a3,a4,a5⟩:=HA1.out.arg.cells
 obtain ⟨f0,f1,f2,f3,f4,f5⟩:=HA1.out.own.cells
 have g5:=HA1.out.own.frozen 5
 have HB2:=hh9 (HA1.out.setKs (.slice none 0 0))
 clear HA1
 go_wp2_with fail
 refine (I2.out _ _ (ints_at (xs:=([3])) (by decide) (zb5 _ _ _ (by simp)))).mono ?_
 rintro e w1 ⟨rfl,hb⟩
 have HA3:=hh9 (HB2.out.under (((Below.refl _ _).alloc (Nat.le_refl _) _).trans (hb.mono (by simp))))
 clear hb HB2
 (try clear a0 a1 a2 a3 a4 a5 f0 f1 f2 f3 f4 f5)
 (try clear g5)
 (try clear g3 g4)
 obtain ⟨a0,a1,a2,a3,a4,a5⟩:=HA3.out.arg.cells
 obtain ⟨f0,f1,f2,f3,f4,f5⟩:=HA3.out.own.cells
 have g3:=HA3.out.own.frozen 3
 have g4:=HA3.out.own.frozen 4
 have HB4:=hh9 ((HA3.out.setLo 0).setHi 0)
 clear HA3
 go_wp2_with fail
 refine (I3.out _ _ (ints_at (xs:=([4,5])) (by decide) (zb5 _ _ _ (by simp)))).mono ?_
 rintro e w1 ⟨rfl,hb⟩
 have HA5:=hh9 (HB4.out.under (((Below.refl _ _).alloc (Nat.le_refl _) _).trans (hb.mono (by simp))))
 clear hb HB4
 (try clear a0 a1 a2 a3 a4 a5 f0 f1 f2 f3 f4 f5)
 (try clear g5)
 (try clear g3 g4)
 obtain ⟨a0,a1,a2,a3,a4,a5⟩:=HA5.out.arg.cells
 obtain ⟨f0,f1,f2,f3,f4,f5⟩:=HA5.out.own.cells
 go_wp2_with fail
 refine (I4.out _ _ (ints_at (xs:=([6,7])) (by decide) (zb5 _ _ _ (by simp)))).mono ?_
 rintro e w1 ⟨rfl,hb⟩
 have HA6:=hh9 (HA5.out.under (((Below.refl _ _).alloc (Nat.le_refl _) _).trans (hb.mono (by simp))))
 clear hb HA5
 (try clear a0 a1 a2 a3 a4 a5 f0 f1 f2 f3 f4 f5)
 (try clear g5)
 (try clear g3 g4)
 obtain ⟨a0,a1,a2,a3,a4,a5⟩:=HA6.out.arg.cells
 obtain ⟨f0,f1,f2,f3,f4,f5⟩:=HA6.out.own.cells
 have HBEL:=hh9 HA6.out.below
 cases hx:x.isEmpty
 ·have qx:=HSN.out hx
  have HV:=hh9 (show Bv=false by rw [HB.out];simp [hx])
  clear hx
  go_wp2_with fail
  go_ret
  exact ⟨by rw [HV.out];exact rfl,HBEL.out⟩
 ·have qx:=HSE.out hx
  have qx2:S.toList=[]:=List.isEmpty_iff.1 qx
  have HX:=hh9 hx
  clear hx
  by_cases hm:m=0
  ·subst hm
   have HV:=hh9 (show Bv=true by rw [HB.out];first | rfl | simp [HX.out])
   go_wp2_with fail
   go_ret
   exact ⟨by rw [HV.out];exact rfl,HBEL.out⟩
  ·have qm:((m:Int)==0)=false:=by simp;omega
   have rm:decide (m=0)=false:=decide_eq_false hm
   have sm:decide ((m:Int)=0)=false:=decide_eq_false (by omega)
   have HV:=hh9 (show Bv=false by rw [HB.out];simp [hm])
   clear hm
   go_wp2_with fail
   go_ret
   exact ⟨by rw [HV.out];exact rfl,HBEL.out⟩
theorem zyg {k:Int} (hk:k=4\/k=5) {x:List Int} (lo hi:Int) (a c:Option Addr) (m ca n cc:Nat) (hm:m<=9223372036854775807) (hn:n<=9223372036854775807) (w:World) {Bv:Bool} (hB:Bv=((decide (m=0))&&(lo==0)&&(hi==0)&&(decide (n=0)))) :
  Calls Tryz.prog 100 #[.agg #[.int .i64 k,.string (za3 x),.slice a m ca,.int .i64 lo,.int .i64 hi,.slice c n cc]] w (zam Bv w):=by
 have HB:=hh9 hB
 clear hB
 have HN:=hh9 (Oth.new w k lo hi (za3 x) (.slice a m ca) (.slice c n cc))
 have i1:inB [1,2,3] k=false:=by rcases hk with rfl | rfl<;>rfl
 have I1:=hh9 (zcg (X:=⟨k,za3 x,.slice a m ca,lo,hi,.slice c n cc⟩) i1 rfl rfl)
 have i2:inB [3] k=false:=by rcases hk with rfl | rfl<;>rfl
 have I2:=hh9 (zcg (X:=⟨k,za3 x,.slice a m ca,lo,hi,.slice c n cc⟩) i2 rfl rfl)
 have i3:inB [4,5] k=true:=by rcases hk with rfl | rfl<;>rfl
 have I3:=hh9 (zcg (X:=⟨k,za3 x,.slice a m ca,lo,hi,.slice c n cc⟩) i3 rfl rfl)
 have i4:inB [6,7] k=false:=by rcases hk with rfl | rfl<;>rfl
 have I4:=hh9 (zcg (X:=⟨k,za3 x,.slice a m ca,lo,hi,.slice c n cc⟩) i4 rfl rfl)
 unfold xobj at HN
 clear i1 i2 i3 i4 hk
 obtain ⟨S,hS⟩:∃ S,S=za3 x:=⟨_,rfl⟩
 have HSE:Hid (x.isEmpty=true->S.toList.isEmpty=true):=fun h=>by rw [hS];exact zc4 h
 have HSN:Hid (x.isEmpty=false->S.toList.isEmpty=false):=fun h=>by rw [hS];exact zc5 h
 rw [<- hS] at HN I1 I2 I3 I4 ⊢
 clear hS
 go_enter Tryz.func100,Tryz.ntmps100
 go_wp2_with fail
 refine (I1.out _ _ (ints_at (xs:=([1,2,3])) (by decide) (zb5 _ _ _ (by simp)))).mono ?_
 rintro e w1 ⟨rfl,hb⟩
 have HA1:=hh9 (HN.out.under (((Below.refl _ _).alloc (Nat.le_refl _) _).trans (hb.mono (by simp))))
 clear hb HN
 (try clear a0 a1 a2 a3 a4 a5 f0 f1 f2 f3 f4 f5)
 (try clear g5)
 (try clear g3 g4)
 obtain ⟨a0,a1,a2,a3,a4,a5⟩:=HA1.out.arg.cells
 obtain ⟨f0,f1,f2,f3,f4,f5⟩:=HA1.out.own.cells
 go_wp2_with fail
 refine (I2.out _ _ (ints_at (xs:=([3])) (by decide) (zb5 _ _ _ (by simp)))).mono ?_
 rintro e w1 ⟨rfl,hb⟩
 have HA2:=hh9 (HA1.out.under (((Below.refl _ _).alloc (Nat.le_refl _) _).trans (hb.mono (by simp))))
 clear hb HA1
 (try clear a0 a1 a2 a3 a4 a5 f0 f1 f2 f3 f4 f5)
 (try clear g5)
 (try clear g3 g4)
 obtain ⟨a0,a1,a2,a3,a4,a5⟩:=HA2.out.arg.cells
 obtain ⟨f0,f1,f2,f3,f4,f5⟩:=HA2.out.own.cells
 go_wp2_with fail
 refine (I3.out _ _ (ints_at (xs:=([4,5])) (by decide) (zb5 _ _ _ (by simp)))).mono ?_
 rintro e w1 ⟨rfl,hb⟩
 have HA3:=hh9 (HA2.out.under (((Below.refl _ _).alloc (Nat.le_refl _) _).trans (hb.mono (by simp))))
 clear hb HA2
 (try clear a0 a1 a2 a3 a4 a5 f0 f1 f2 f3 f4 f5)
 (try clear g5)
 (try clear g3 g4)
 obtain ⟨a0,a1,a2,a3,a4,a5⟩:=HA3.out.arg.cells
 obtain ⟨f0,f1,f2,f3,f4,f5⟩:=HA3.out.own.cells
 have g5:=HA3.out.own.frozen 1
 have HB4:=hh9 (HA3.out.setS ⟨#[]⟩)
 clear HA3
 go_wp2_with fail
 refine (I4.out _ _ (ints_at (xs:=([6,7])) (by decide) (zb5 _ _ _ (by simp)))).mono ?_
 rintro e w1 ⟨rfl,hb⟩
 have HA5:=hh9 (HB4.out.under (((Below.refl _ _).alloc (Nat.le_refl _) _).trans (hb.mono (by simp))))
 clear hb HB4
 (try clear a0 a1 a2 a3 a4 a5 f0 f1 f2 f3 f4 f5)
 (try clear g5)
 (try clear g3 g4)
 obtain ⟨a0,a1,a2,a3,a4,a5⟩:=HA5.out.arg.cells
 obtain ⟨f0,f1,f2,f3,f4,f5⟩:=HA5.out.own.cells
 have HBEL:=hh9 HA5.out.below
 by_cases hm:m=0
 ·subst hm
  by_cases hlo:lo=0
  ·subst hlo
   by_cases hhi:hi=0
   ·subst hhi
    by_cases hn:n=0
    ·subst hn
     have HV:=hh9 (show Bv=true by rw [HB.out];first | rfl | simp [HX.out])
     go_wp2_with fail
     go_ret
     exact ⟨by rw [HV.out];exact rfl,HBEL.out⟩
    ·have qn:((n:Int)==0)=false:=by simp;omega
     have rn:decide (n=0)=false:=decide_eq_false hn
     have sn:decide ((n:Int)=0)=false:=decide_eq_false (by omega)
     have HV:=hh9 (show Bv=false by rw [HB.out];simp [hn])
     clear hn
     go_wp2_with fail
     go_ret
     exact ⟨by rw [HV.out];exact rfl,HBEL.out⟩
   ·have qhi:(hi==0)=false:=by simp;omega
    have shi:decide (hi=0)=false:=decide_eq_false (by omega)
    have HV:=hh9 (show Bv=false by rw [HB.out];simp [hhi])
    clear hhi
    go_wp2_with fail
    go_ret
    exact ⟨by rw [HV.out];exact rfl,HBEL.out⟩
  ·have qlo:(lo==0)=false:=by simp;omega
   have slo:decide (lo=0)=false:=decide_eq_false (by omega)
   have HV:=hh9 (show Bv=false by rw [HB.out];simp [hlo])
   clear hlo
   go_wp2_with fail
   go_ret
   exact ⟨by rw [HV.out];exact rfl,HBEL.out⟩
 ·have qm:((m:Int)==0)=false:=by simp;omega
  have rm:decide (m=0)=false:=decide_eq_false hm
  have sm:decide ((m:Int)=0)=false:=decide_eq_false (by omega)
  have HV:=hh9 (show Bv=false by rw [HB.out];simp [hm])
  clear hm
  go_wp2_with fail
  go_ret
  exact ⟨by rw [HV.out];exact rfl,HBEL.out⟩
theorem zyh {k:Int} (hk:k=6\/k=7) {x:List Int} (lo hi:Int) (a c:Option Addr) (m ca n cc:Nat) (hm:m<=9223372036854775807) (hn:n<=9223372036854775807) (w:World) {Bv:Bool} (hB:Bv=((x.isEmpty)&&(lo==0)&&(hi==0)&&(decide (n=0)))) :
  Calls Tryz.prog 100 #[.agg #[.int .i64 k,.string (za3 x),.slice a m ca,.int .i64 lo,.int .i64 hi,.slice c n cc]] w (zam Bv w):=by
 have HB:=hh9 hB
 clear hB
 have HN:=hh9 (Oth.new w k lo hi (za3 x) (.slice a m ca) (.slice c n cc))
 have i1:inB [1,2,3] k=false:=by rcases hk with rfl | rfl<;>rfl
 have I1:=hh9 (zcg (X:=⟨k,za3 x,.slice a m ca,lo,hi,.slice c n cc⟩) i1 rfl rfl)
 have i2:inB [3] k=false:=by rcases hk with rfl | rfl<;>rfl
 have I2:=hh9 (zcg (X:=⟨k,za3 x,.slice a m ca,lo,hi,.slice c n cc⟩) i2 rfl rfl)
 have i3:inB [4,5] k=false:=by rcases hk with rfl | rfl<;>rfl
 have I3:=hh9 (zcg (X:=⟨k,za3 x,.slice a m ca,lo,hi,.slice c n cc⟩) i3 rfl rfl)
 have i4:inB [6,7] k=true:=by rcases hk with rfl | rfl<;>rfl
 have I4:=hh9 (zcg (X:=⟨k,za3 x,.slice a m ca,lo,hi,.slice c n cc⟩) i4 rfl rfl)
 unfold xobj at HN
 clear i1 i2 i3 i4 hk
 obtain ⟨S,hS⟩:∃ S,S=za3 x:=⟨_,rfl⟩
 have HSE:Hid (x.isEmpty=true->S.toList.isEmpty=true):=fun h=>by rw [hS];exact zc4 h
 have HSN:Hid (x.isEmpty=false->S.toList.isEmpty=false):=fun h=>by rw [hS];exact zc5 h
 rw [<- hS] at HN I1 I2 I3 I4 ⊢
 clear hS
 go_enter Tryz.func100,Tryz.ntmps100
 go_wp2_with fail
 refine (I1.out _ _ (ints_at (xs:=([1,2,3])) (by decide) (zb5 _ _ _ (by simp)))).mono ?_
 rintro e w1 ⟨rfl,hb⟩
 have HA1:=hh9 (HN.out.under (((Below.refl _ _).alloc (Nat.le_refl _) _).trans (hb.mono (by simp))))
 clear hb HN
 (try clear a0 a1 a2 a3 a4 a5 f0 f1 f2 f3 f4 f5)
 (try clear g5)
 (try clear g3 g4)
 obtain ⟨a0,a1,a2,a3,a4,a5⟩:=HA1.out.arg.cells
 obtain ⟨f0,f1,f2,f3,f4,f5⟩:=HA1.out.own.cells
 go_wp2_with fail
 refine (I2.out _ _ (ints_at (xs:=([3])) (by decide) (zb5 _ _ _ (by simp)))).mono ?_
 rintro e w1 ⟨rfl,hb⟩
 have HA2:=hh9 (HA1.out.under (((Below.refl _ _).alloc (Nat.le_refl _) _).trans (hb.mono (by simp))))
 clear hb HA1
 (try clear a0 a1 a2 a3 a4 a5 f0 f1 f2 f3 f4 f5)
 (try clear g5)
 (try clear g3 g4)
 obtain ⟨a0,a1,a2,a3,a4,a5⟩:=HA2.out.arg.cells
 obtain ⟨f0,f1,f2,f3,f4,f5⟩:=HA2.out.own.cells
 go_wp2_with fail
 refine (I3.out _ _ (ints_at (xs:=([4,5])) (by decide) (zb5 _ _ _ (by simp)))).mono ?_
 rintro e w1 ⟨rfl,hb⟩
 have HA3:=hh9 (HA2.out.under (((Below.refl _ _).alloc (Nat.le_refl _) _).trans (hb.mono (by simp))))
 clear hb HA2
 (try clear a0 a1 a2 a3 a4 a5 f0 f1 f2 f3 f4 f5)
 (try clear g5)
 (try clear g3 g4)
 obtain ⟨a0,a1,a2,a3,a4,a5⟩:=HA3.out.arg.cells
 obtain ⟨f0,f1,f2,f3,f4,f5⟩:=HA3.out.own.cells
 go_wp2_with fail
 refine (I4.out _ _ (ints_at (xs:=([6,7])) (by decide) (zb5 _ _ _ (by simp)))).mono ?_
 rintro e w1 ⟨rfl,hb⟩
 have HA4:=hh9 (HA3.out.under (((Below.refl _ _).alloc (Nat.le_refl _) _).trans (hb.mono (by simp))))
 clear hb HA3
 (try clear a0 a1 a2 a3 a4 a5 f0 f1 f2 f3 f4 f5)
 (try clear g5)
 (try clear g3 g4)
 obtain ⟨a0,a1,a2,a3,a4,a5⟩:=HA4.out.arg.cells
 obtain ⟨f0,f1,f2,f3,f4,f5⟩:=HA4.out.own.cells
 have g5:=HA4.out.own.frozen 2
 have HB5:=hh9 (HA4.out.setNs (.slice none 0 0))
 clear HA4
 have HBEL:=hh9 HB5.out.below
 cases hx:x.isEmpty
 ·have qx:=HSN.out hx
  have HV:=hh9 (show Bv=false by rw [HB.out];simp [hx])
  clear hx
  go_wp2_with fail
  go_ret
  exact ⟨by rw [HV.out];exact rfl,HBEL.out⟩
 ·have qx:=HSE.out hx
  have qx2:S.toList=[]:=List.isEmpty_iff.1 qx
  have HX:=hh9 hx
  clear hx
  by_cases hlo:lo=0
  ·subst hlo
   by_cases hhi:hi=0
   ·subst hhi
    by_cases hn:n=0
    ·subst hn
     have HV:=hh9 (show Bv=true by rw [HB.out];first | rfl | simp [HX.out])
     go_wp2_with fail
     go_ret
     exact ⟨by rw [HV.out];exact rfl,HBEL.out⟩
    ·have qn:((n:Int)==0)=false:=by simp;omega
     have rn:decide (n=0)=false:=decide_eq_false hn
     have sn:decide ((n:Int)=0)=false:=decide_eq_false (by omega)
     have HV:=hh9 (show Bv=false by rw [HB.out];simp [hn])
     clear hn
     go_wp2_with fail
     go_ret
     exact ⟨by rw [HV.out];exact rfl,HBEL.out⟩
   ·have qhi:(hi==0)=false:=by simp;omega
    have shi:decide (hi=0)=false:=decide_eq_false (by omega)
    have HV:=hh9 (show Bv=false by rw [HB.out];simp [hhi])
    clear hhi
    go_wp2_with fail
    go_ret
    exact ⟨by rw [HV.out];exact rfl,HBEL.out⟩
  ·have qlo:(lo==0)=false:=by simp;omega
   have slo:decide (lo=0)=false:=decide_eq_false (by omega)
   have HV:=hh9 (show Bv=false by rw [HB.out];simp [hlo])
   clear hlo
   go_wp2_with fail
   go_ret
   exact ⟨by rw [HV.out];exact rfl,HBEL.out⟩
theorem zyi {k:Int} (hk:k≠1/\k≠2/\k≠3/\k≠4/\k≠5/\k≠6/\k≠7) {x:List Int} (lo hi:Int) (a c:Option Addr) (m ca n cc:Nat) (hm:m<=9223372036854775807) (hn:n<=9223372036854775807) (w:World) {Bv:Bool} (hB:Bv=((x.isEmpty)&&(decide (m=0))&&(lo==0)&&(hi==0)&&(decide (n=0)))) :
  Calls Tryz.prog 100 #[.agg #[.int .i64 k,.string (za3 x),.slice a m ca,.int .i64 lo,.int .i64 hi,.slice c n cc]] w (zam Bv w):=by
 have HB:=hh9 hB
 clear hB
 have HN:=hh9 (Oth.new w k lo hi (za3 x) (.slice a m ca) (.slice c n cc))
 have i1:inB [1,2,3] k=false:=by simp [inB];omega
 have I1:=hh9 (zcg (X:=⟨k,za3 x,.slice a m ca,lo,hi,.slice c n cc⟩) i1 rfl rfl)
 have i2:inB [3] k=false:=by simp [inB];omega
 have I2:=hh9 (zcg (X:=⟨k,za3 x,.slice a m ca,lo,hi,.slice c n cc⟩) i2 rfl rfl)
 have i3:inB [4,5] k=false:=by simp [inB];omega
 have I3:=hh9 (zcg (X:=⟨k,za3 x,.slice a m ca,lo,hi,.slice c n cc⟩) i3 rfl rfl)
 have i4:inB [6,7] k=false:=by simp [inB];omega
 have I4:=hh9 (zcg (X:=⟨k,za3 x,.slice a m ca,lo,hi,.slice c n cc⟩) i4 rfl rfl)
 unfold xobj at HN
 clear i1 i2 i3 i4 hk
 obtain ⟨S,hS⟩:∃ S,S=za3 x:=⟨_,rfl⟩
 have HSE:Hid (x.isEmpty=true->S.toList.isEmpty=true):=fun h=>by rw [hS];exact zc4 h
 have HSN:Hid (x.isEmpty=false->S.toList.isEmpty=false):=fun h=>by rw [hS];exact zc5 h
 rw [<- hS] at HN I1 I2 I3 I4 ⊢
 clear hS
 go_enter Tryz.func100,Tryz.ntmps100
 go_wp2_with fail
 refine (I1.out _ _ (ints_at (xs:=([1,2,3])) (by decide) (zb5 _ _ _ (by simp)))).mono ?_
 rintro e w1 ⟨rfl,hb⟩
 have HA1:=hh9 (HN.out.under (((Below.refl _ _).alloc (Nat.le_refl _) _).trans (hb.mono (by simp))))
 clear hb HN
 (try clear a0 a1 a2 a3 a4 a5 f0 f1 f2 f3 f4 f5)
 (try clear g5)
 (try clear g3 g4)
 obtain ⟨a0,a1,a2,a3,a4,a5⟩:=HA1.out.arg.cells
 obtain ⟨f0,f1,f2,f3,f4,f5⟩:=HA1.out.own.cells
 go_wp2_with fail
 refine (I2.out _ _ (ints_at (xs:=([3])) (by decide) (zb5 _ _ _ (by simp)))).mono ?_
 rintro e w1 ⟨rfl,hb⟩
 have HA2:=hh9 (HA1.out.under (((Below.refl _ _).alloc (Nat.le_refl _) _).trans (hb.mono (by simp))))
 clear hb HA1
 (try clear a0 a1 a2 a3 a4 a5 f0 f1 f2 f3 f4 f5)
 (try clear g5)
 (try clear g3 g4)
 obtain ⟨a0,a1,a2,a3,a4,a5⟩:=HA2.out.arg.cells
 obtain ⟨f0,f1,f2,f3,f4,f5⟩:=HA2.out.own.cells
 go_wp2_with fail
 refine (I3.out _ _ (ints_at (xs:=([4,5])) (by decide) (zb5 _ _ _ (by simp)))).mono ?_
 rintro e w1 ⟨rfl,hb⟩
 have HA3:=hh9 (HA2.out.under (((Below.refl _ _).alloc (Nat.le_refl _) _).trans (hb.mono (by simp))))
 clear hb HA2
 (try clear a0 a1 a2 a3 a4 a5 f0 f1 f2 f3 f4 f5)
 (try clear g5)
 (try clear g3 g4)
 obtain ⟨a0,a1,a2,a3,a4,a5⟩:=HA3.out.arg.cells
 obtain ⟨f0,f1,f2,f3,f4,f5⟩:=HA3.out.own.cells
 go_wp2_with fail
 refine (I4.out _ _ (ints_at (xs:=([6,7])) (by decide) (zb5 _ _ _ (by simp)))).mono ?_
 rintro e w1 ⟨rfl,hb⟩
 have HA4:=hh9 (HA3.out.under (((Below.refl _ _).alloc (Nat.le_refl _) _).trans (hb.mono (by simp))))
 clear hb HA3
 (try clear a0 a1 a2 a3 a4 a5 f0 f1 f2 f3 f4 f5)
 (try clear g5)
 (try clear g3 g4)
 obtain ⟨a0,a1,a2,a3,a4,a5⟩:=HA4.out.arg.cells
 obtain ⟨f0,f1,f2,f3,f4,f5⟩:=HA4.out.own.cells
 have HBEL:=hh9 HA4.out.below
 cases hx:x.isEmpty
 ·have qx:=HSN.out hx
  have HV:=hh9 (show Bv=false by rw [HB.out];simp [hx])
  clear hx
  go_wp2_with fail
  go_ret
  exact ⟨by rw [HV.out];exact rfl,HBEL.out⟩
 ·have qx:=HSE.out hx
  have qx2:S.toList=[]:=List.isEmpty_iff.1 qx
  have HX:=hh9 hx
  clear hx
  by_cases hm:m=0
  ·subst hm
   by_cases hlo:lo=0
   ·subst hlo
    by_cases hhi:hi=0
    ·subst hhi
     by_cases hn:n=0
     ·subst hn
      have HV:=hh9 (show Bv=true by rw [HB.out];first | rfl | simp [HX.out])
      go_wp2_with fail
      go_ret
      exact ⟨by rw [HV.out];exact rfl,HBEL.out⟩
     ·have qn:((n:Int)==0)=false:=by simp;omega
      have rn:decide (n=0)=false:=decide_eq_false hn
      have sn:decide ((n:Int)=0)=false:=decide_eq_false (by omega)
      have HV:=hh9 (show Bv=false by rw [HB.out];simp [hn])
      clear hn
      go_wp2_with fail
      go_ret
      exact ⟨by rw [HV.out];exact rfl,HBEL.out⟩
    ·have qhi:(hi==0)=false:=by simp;omega
     have shi:decide (hi=0)=false:=decide_eq_false (by omega)
     have HV:=hh9 (show Bv=false by rw [HB.out];simp [hhi])
     clear hhi
     go_wp2_with fail
     go_ret
     exact ⟨by rw [HV.out];exact rfl,HBEL.out⟩
   ·have qlo:(lo==0)=false:=by simp;omega
    have slo:decide (lo=0)=false:=decide_eq_false (by omega)
    have HV:=hh9 (show Bv=false by rw [HB.out];simp [hlo])
    clear hlo
    go_wp2_with fail
    go_ret
    exact ⟨by rw [HV.out];exact rfl,HBEL.out⟩
  ·have qm:((m:Int)==0)=false:=by simp;omega
   have rm:decide (m=0)=false:=decide_eq_false hm
   have sm:decide ((m:Int)=0)=false:=decide_eq_false (by omega)
   have HV:=hh9 (show Bv=false by rw [HB.out];simp [hm])
   clear hm
   go_wp2_with fail
   go_ret
   exact ⟨by rw [HV.out];exact rfl,HBEL.out⟩
theorem qbk {X:XV} {k lo hi:Int} {x ns:List Int} {kids:List Tree} {w:World} (h:ETree w X (.mk k x ns lo hi kids)):Calls Tryz.prog 100 #[X.val] w (zam (othB k x ns lo hi kids.length) w):=by
 cases h with
 | @mk _ _ _ nv kv _ _ _ vs h0 hl h1 h2 h3 h4 =>
  obtain ⟨a,ca,rfl,hm⟩:=h1.slice
  obtain ⟨c,cc,rfl,hn⟩:=h2.slice
  show Calls _ _ #[.agg #[.int .i64 k,.string (za3 x),.slice a ns.length ca,.int .i64 lo,.int .i64 hi,.slice c kids.length cc]] w _
  have e0:ns.isEmpty=decide (ns.length=0):=by cases ns<;>simp
  by_cases k12:k=1\/k=2
  ·exact qbi k12 lo hi a c _ ca _ cc hm hn w (by unfold othB;rw [e0];rcases k12 with rfl | rfl<;>simp)
  by_cases k3:k=3
  ·exact qbj k3 lo hi a c _ ca _ cc hm hn w (by unfold othB;rw [e0];subst k3;simp)
  by_cases k45:k=4\/k=5
  ·exact zyg k45 lo hi a c _ ca _ cc hm hn w (by unfold othB;rw [e0];rcases k45 with rfl | rfl<;>simp)
  by_cases k67:k=6\/k=7
  ·exact zyh k67 lo hi a c _ ca _ cc hm hn w (by unfold othB;rw [e0];rcases k67 with rfl | rfl<;>simp)
  ·exact zyi (by omega) lo hi a c _ ca _ cc hm hn w (by
    unfold othB
    rw [e0,decide_eq_false k45,decide_eq_false k67,decide_eq_false k3,show decide (k=1\/k=2\/k=3)=false from decide_eq_false (by omega)]
    simp)
end Go.Proofs.YtekjnfldgjcgeaaGreatDoor
