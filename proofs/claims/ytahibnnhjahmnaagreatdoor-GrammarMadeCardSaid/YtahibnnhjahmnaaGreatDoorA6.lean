/- Part 6 of what the laws of the grammar rest on. -/
import Derived.Test.YtahibnnhjahmnaaGreatDoorA5
import Derived.MapKept
set_option linter.all false
set_option maxRecDepth 100000
set_option maxHeartbeats 8000000
namespace Go.Proofs.YtahibnnhjahmnaaGreatDoor
open Go.RowKit
def X6(W:World)(g:Nat)(k lo hi:Int)(s:ByteArray)(ns ks:Value):Prop:=W.heap[g]?=some (.cells #[.int .i64 k,.string s,ns,.int .i64 lo,.int .i64 hi,ks] 29 (0,0))
theorem X6.lt{W:World}{g:Nat}{k lo hi:Int}{s:ByteArray}{ns ks:Value}(h:X6 W g k lo hi s ns ks):g<W.heap.size:=(zbD.1 h).1
theorem X6.under{W W1:World}{g:Nat}{k lo hi:Int}{s:ByteArray}{ns ks:Value}(h:X6 W g k lo hi s ns ks)(hb:Below W.heap.size W W1):X6 W1 g k lo hi s ns ks:=(hb.block g h.lt).trans h
theorem X6.alloc{W:World}{g:Nat}{k lo hi:Int}{s:ByteArray}{ns ks:Value}(h:X6 W g k lo hi s ns ks)(o:Obj):X6 (W.alloc o) g k lo hi s ns ks:=h.under ((zbE _ _).alloc (zbA _) o)
theorem X6.cells{W:World}{g:Nat}{k lo hi:Int}{s:ByteArray}{ns ks:Value}(h:X6 W g k lo hi s ns ks) :
  W.cell? ⟨g,0,none⟩=some (.int .i64 k)/\W.cell? ⟨g,1,none⟩=some (.string s)/\W.cell? ⟨g,2,none⟩=some ns/\W.cell? ⟨g,3,none⟩=some (.int .i64 lo)/\W.cell? ⟨g,4,none⟩=some (.int .i64 hi)/\W.cell? ⟨g,5,none⟩=some ks:=by
 unfold X6 at h;simp[World.cell?,h]
theorem X6.frozen{W:World}{g:Nat}{k lo hi:Int}{s:ByteArray}{ns ks:Value}(h:X6 W g k lo hi s ns ks)(j:Nat):W.frozen? ⟨g,j,none⟩=false:=by
 unfold X6 at h;simp[World.frozen?,h]
theorem X6.new(W:World)(k lo hi:Int)(s:ByteArray)(ns ks:Value):X6 (W.alloc (aB k lo hi s ns ks)) W.heap.size k lo hi s ns ks:=zbO W _
theorem X6.set{W:World}{g:Nat}{k lo hi:Int}{s:ByteArray}{ns ks:Value}(h:X6 W g k lo hi s ns ks)(j:Nat)(v:Value) :
  (W.setCell ⟨g,j,none⟩ v).heap[g]?=some (.cells ((#[.int .i64 k,.string s,ns,.int .i64 lo,.int .i64 hi,ks]:Array Value).setIfInBounds j v) 29 (0,0)):=by
 rw[setCell_eq_setRow _ _ _ _ _ _ _ h];exact setRow_heap _ _ _ _ _ _ h
theorem X6.other{W:World}{g b j:Nat}{k lo hi:Int}{s:ByteArray}{ns ks v:Value}(h:X6 W g k lo hi s ns ks)(hne:b≠g):X6 (W.setCell ⟨b,j,none⟩ v) g k lo hi s ns ks:=(zbQ _ _ _ _ hne.symm).trans h
structure nT (w W:World) (k lo hi k' lo' hi':Int) (s s':ByteArray) (ns ks ns' ks':Value):Prop where
 arg:X6 W w.heap.size k lo hi s ns ks
 own:X6 W (w.heap.size+1) k' lo' hi' s' ns' ks'
 below:Below w.heap.size w W
theorem nT.under{w W W1:World}{k lo hi k' lo' hi':Int}{s s':ByteArray}{ns ks ns' ks':Value}(h:nT w W k lo hi k' lo' hi' s s' ns ks ns' ks')(hb:Below W.heap.size W W1):nT w W1 k lo hi k' lo' hi' s s' ns ks ns' ks' :=
 ⟨h.arg.under hb,h.own.under hb,aJ h.below hb⟩
theorem nT.new(w:World)(k lo hi:Int)(s:ByteArray)(ns ks:Value):nT w ((w.alloc (aB k lo hi s ns ks)).alloc (aB k lo hi s ns ks)) k lo hi k lo hi s s ns ks ns ks:=by
 have h:=X6.new (w.alloc (aB k lo hi s ns ks)) k lo hi s ns ks;rw[show (w.alloc (aB k lo hi s ns ks)).heap.size=w.heap.size+1 by simp]at h;exact⟨(X6.new w k lo hi s ns ks).alloc _,h,((zbE _ _).alloc (zbA _) _).alloc (by simp) _⟩
theorem nT.Dv{w W:World}{k lo hi k' lo' hi':Int}{s s':ByteArray}{ns ks ns' ks':Value}(h:nT w W k lo hi k' lo' hi' s s' ns ks ns' ks')(v:Value):nT w (W.setCell ⟨w.heap.size+1,5,none⟩ v) k lo hi k' lo' hi' s s' ns ks ns' v :=
 ⟨h.arg.other (by omega),h.own.set 5 v,h.below.setCell (by simp) _⟩
theorem nT.JF{w W:World}{k lo hi k' lo' hi':Int}{s s':ByteArray}{ns ks ns' ks':Value}(h:nT w W k lo hi k' lo' hi' s s' ns ks ns' ks')(v:Value):nT w (W.setCell ⟨w.heap.size+1,2,none⟩ v) k lo hi k' lo' hi' s s' ns ks v ks' :=
 ⟨h.arg.other (by omega),h.own.set 2 v,h.below.setCell (by simp) _⟩
theorem nT.QA{w W:World}{k lo hi k' lo' hi':Int}{s s':ByteArray}{ns ks ns' ks':Value}(h:nT w W k lo hi k' lo' hi' s s' ns ks ns' ks')(v:ByteArray):nT w (W.setCell ⟨w.heap.size+1,1,none⟩ (.string v)) k lo hi k' lo' hi' s v ns ks ns' ks' :=
 ⟨h.arg.other (by omega),h.own.set 1 _,h.below.setCell (by simp) _⟩
theorem nT.JG{w W:World}{k lo hi k' lo' hi':Int}{s s':ByteArray}{ns ks ns' ks':Value}(h:nT w W k lo hi k' lo' hi' s s' ns ks ns' ks')(v:Int):nT w (W.setCell ⟨w.heap.size+1,3,none⟩ (.int .i64 v)) k lo hi k' v hi' s s' ns ks ns' ks' :=
 ⟨h.arg.other (by omega),h.own.set 3 _,h.below.setCell (by simp) _⟩
theorem nT.JH{w W:World}{k lo hi k' lo' hi':Int}{s s':ByteArray}{ns ks ns' ks':Value}(h:nT w W k lo hi k' lo' hi' s s' ns ks ns' ks')(v:Int):nT w (W.setCell ⟨w.heap.size+1,4,none⟩ (.int .i64 v)) k lo hi k' lo' v s s' ns ks ns' ks' :=
 ⟨h.arg.other (by omega),h.own.set 4 _,h.below.setCell (by simp) _⟩
theorem wJ{x:List Int}(h:x.isEmpty=true):(ak x).toList.isEmpty=true:=by
 rw[List.isEmpty_iff.1 h,GQ,Lib.toList_data];rfl
theorem wK{x:List Int}(h:x.isEmpty=false):(ak x).toList.isEmpty=false:=by
 refine Qu ?_;rw[eP]
 cases x with
 |nil=>cases h
 |cons a l=>simp
theorem pW{X:XV}{xs:List Int}{b:Bool}(h:eF xs X.kind=b)(h1:X.ns.oneCell'=true)(h2:X.ks.oneCell'=true)(W:World)(v:Value)(hv:au W v xs.length (dA xs)):Calls Tryz.prog 108 #[X.val,v] W (gG b W):=by
 rw[<- h];exact zzt W hv h1 h2
theorem ints_at{W:World}{b:Nat}{xs:List Int}(hl:xs.length<=1000)(h:W.heap[b]?=some (.cells (dA xs).toArray 3 (0,0))):au W (.slice (some ⟨b,0,none⟩) xs.length xs.length) xs.length (dA xs):=by
 refine .inr ⟨b,0,xs.length,rfl,zbA _,by unfold maxLen;omega,(zbD.1 h).1,fun j u hj=>?_⟩;simp only[World.cell?,h,Nat.zero_add];simpa using hj
theorem oq(W:World)(o:Obj)(b:Nat)(h:b=W.heap.size):(W.alloc o).heap[b]?=some o:=by subst h;exact zbO W o
theorem qcu{k:Int}(hk:k=1\/k=2){x:List Int}(lo hi:Int)(a c:Option Addr)(m ca n cc:Nat)(hm:m<=9223372036854775807)(hn:n<=9223372036854775807)(w:World){Bv:Bool}(hB:Bv=((x.isEmpty)&&(decide (m=0))&&(lo==0)&&(hi==0))) :
  Calls Tryz.prog 102 #[.agg #[.int .i64 k,.string (ak x),.slice a m ca,.int .i64 lo,.int .i64 hi,.slice c n cc]] w (gG Bv w):=by
 have HB:=hh9 hB;clear hB;have HN:=hh9 (nT.new w k lo hi (ak x) (.slice a m ca) (.slice c n cc));have i1:eF [1,2,3] k=true:=by rcases hk with rfl|rfl<;>rfl
 have I1:=hh9 (pW (X:=⟨k,ak x,.slice a m ca,lo,hi,.slice c n cc⟩) i1 rfl rfl);have i2:eF [3] k=false:=by rcases hk with rfl|rfl<;>rfl
 have I2:=hh9 (pW (X:=⟨k,ak x,.slice a m ca,lo,hi,.slice c n cc⟩) i2 rfl rfl);have i3:eF [4,5] k=false:=by rcases hk with rfl|rfl<;>rfl
 have I3:=hh9 (pW (X:=⟨k,ak x,.slice a m ca,lo,hi,.slice c n cc⟩) i3 rfl rfl);have i4:eF [6,7] k=false:=by rcases hk with rfl|rfl<;>rfl
 have I4:=hh9 (pW (X:=⟨k,ak x,.slice a m ca,lo,hi,.slice c n cc⟩) i4 rfl rfl);unfold aB at HN;clear i1 i2 i3 i4 hk;obtain⟨S,hS⟩:∃ S,S=ak x:=⟨_,rfl⟩
 have pG:Hid (x.isEmpty=true->S.toList.isEmpty=true):=fun h=>by rw[hS];exact wJ h
 have nU:Hid (x.isEmpty=false->S.toList.isEmpty=false):=fun h=>by rw[hS];exact wK h
 rw[<- hS]at HN I1 I2 I3 I4 ⊢;clear hS;go_enter Tryz.func102,Tryz.ntmps102;go_wp2_with fail
 refine(I1.out _ _ (ints_at (xs:=([1,2,3])) (by decide) (oq _ _ _ (by simp)))).mono ?_;rintro e w1 ⟨rfl,hb⟩;have HA1:=hh9 (HN.out.under (((zbE _ _).alloc (zbA _) _).trans (hb.mono (by simp))));clear hb HN
 (try clear a0 a1 a2 a3 a4 a5 f0 f1 f2 f3 f4 f5)
 (try clear g5)
 (try clear g3 g4)
 obtain⟨a0,a1,a2,a3,a4,a5⟩:=HA1.out.arg.cells;obtain⟨f0,f1,f2,f3,f4,f5⟩:=HA1.out.own.cells;have g5:=HA1.out.own.frozen 5;have HB2:=hh9 (HA1.out.Dv (.slice none 0 0));clear HA1;go_wp2_with fail
 refine(I2.out _ _ (ints_at (xs:=([3])) (by decide) (oq _ _ _ (by simp)))).mono ?_;rintro e w1 ⟨rfl,hb⟩;have aC:=hh9 (HB2.out.under (((zbE _ _).alloc (zbA _) _).trans (hb.mono (by simp))));clear hb HB2
 (try clear a0 a1 a2 a3 a4 a5 f0 f1 f2 f3 f4 f5)
 (try clear g5)
 (try clear g3 g4)
 obtain⟨a0,a1,a2,a3,a4,a5⟩:=aC.out.arg.cells;obtain⟨f0,f1,f2,f3,f4,f5⟩:=aC.out.own.cells;go_wp2_with fail
 refine(I3.out _ _ (ints_at (xs:=([4,5])) (by decide) (oq _ _ _ (by simp)))).mono ?_;rintro e w1 ⟨rfl,hb⟩;have bf:=hh9 (aC.out.under (((zbE _ _).alloc (zbA _) _).trans (hb.mono (by simp))));clear hb aC
 (try clear a0 a1 a2 a3 a4 a5 f0 f1 f2 f3 f4 f5)
 (try clear g5)
 (try clear g3 g4)
 obtain⟨a0,a1,a2,a3,a4,a5⟩:=bf.out.arg.cells;obtain⟨f0,f1,f2,f3,f4,f5⟩:=bf.out.own.cells;go_wp2_with fail
 refine(I4.out _ _ (ints_at (xs:=([6,7])) (by decide) (oq _ _ _ (by simp)))).mono ?_;rintro e w1 ⟨rfl,hb⟩;have bQ:=hh9 (bf.out.under (((zbE _ _).alloc (zbA _) _).trans (hb.mono (by simp))));clear hb bf
 (try clear a0 a1 a2 a3 a4 a5 f0 f1 f2 f3 f4 f5)
 (try clear g5)
 (try clear g3 g4)
 obtain⟨a0,a1,a2,a3,a4,a5⟩:=bQ.out.arg.cells;obtain⟨f0,f1,f2,f3,f4,f5⟩:=bQ.out.own.cells;have aA:=hh9 bQ.out.below
 cases hx:x.isEmpty
 ·have qx:=nU.out hx;have HV:=hh9 (show Bv=false by rw[HB.out];simp[hx]);clear hx;go_wp2_with fail
  go_ret;exact⟨by rw[HV.out];exact rfl,aA.out⟩
 ·have qx:=pG.out hx;have BL:S.toList=[]:=List.isEmpty_iff.1 qx;have HX:=hh9 hx;clear hx;by_cases hm:m=0
  ·subst hm;by_cases hlo:lo=0
   ·subst hlo;by_cases hhi:hi=0
    ·subst hhi;have HV:=hh9 (show Bv=true by rw[HB.out];first|rfl|simp[HX.out]);go_wp2_with fail
     go_ret;exact⟨by rw[HV.out];exact rfl,aA.out⟩
    ·have Ar:(hi==0)=false:=by simp;omega
     have QB:decide (hi=0)=false:=zbM (by omega);have HV:=hh9 (show Bv=false by rw[HB.out];simp[hhi]);clear hhi;go_wp2_with fail
     go_ret;exact⟨by rw[HV.out];exact rfl,aA.out⟩
   ·have Au:(lo==0)=false:=by simp;omega
    have QC:decide (lo=0)=false:=zbM (by omega);have HV:=hh9 (show Bv=false by rw[HB.out];simp[hlo]);clear hlo;go_wp2_with fail
    go_ret;exact⟨by rw[HV.out];exact rfl,aA.out⟩
  ·have qm:((m:Int)==0)=false:=by simp;omega
   have rm:decide (m=0)=false:=zbM hm;have sm:decide ((m:Int)=0)=false:=zbM (by omega);have HV:=hh9 (show Bv=false by rw[HB.out];simp[hm]);clear hm;go_wp2_with fail
   go_ret;exact⟨by rw[HV.out];exact rfl,aA.out⟩
theorem qcv{k:Int}(hk:k=3){x:List Int}(lo hi:Int)(a c:Option Addr)(m ca n cc:Nat)(hm:m<=9223372036854775807)(hn:n<=9223372036854775807)(w:World){Bv:Bool}(hB:Bv=((x.isEmpty)&&(decide (m=0)))) :
  Calls Tryz.prog 102 #[.agg #[.int .i64 k,.string (ak x),.slice a m ca,.int .i64 lo,.int .i64 hi,.slice c n cc]] w (gG Bv w):=by
 have HB:=hh9 hB;clear hB;have HN:=hh9 (nT.new w k lo hi (ak x) (.slice a m ca) (.slice c n cc));have i1:eF [1,2,3] k=true:=by subst hk;rfl
 have I1:=hh9 (pW (X:=⟨k,ak x,.slice a m ca,lo,hi,.slice c n cc⟩) i1 rfl rfl);have i2:eF [3] k=true:=by subst hk;rfl
 have I2:=hh9 (pW (X:=⟨k,ak x,.slice a m ca,lo,hi,.slice c n cc⟩) i2 rfl rfl);have i3:eF [4,5] k=false:=by subst hk;rfl
 have I3:=hh9 (pW (X:=⟨k,ak x,.slice a m ca,lo,hi,.slice c n cc⟩) i3 rfl rfl);have i4:eF [6,7] k=false:=by subst hk;rfl
 have I4:=hh9 (pW (X:=⟨k,ak x,.slice a m ca,lo,hi,.slice c n cc⟩) i4 rfl rfl);unfold aB at HN;clear i1 i2 i3 i4 hk;obtain⟨S,hS⟩:∃ S,S=ak x:=⟨_,rfl⟩
 have pG:Hid (x.isEmpty=true->S.toList.isEmpty=true):=fun h=>by rw[hS];exact wJ h
 have nU:Hid (x.isEmpty=false->S.toList.isEmpty=false):=fun h=>by rw[hS];exact wK h
 rw[<- hS]at HN I1 I2 I3 I4 ⊢;clear hS;go_enter Tryz.func102,Tryz.ntmps102;go_wp2_with fail
 refine(I1.out _ _ (ints_at (xs:=([1,2,3])) (by decide) (oq _ _ _ (by simp)))).mono ?_;rintro e w1 ⟨rfl,hb⟩;have HA1:=hh9 (HN.out.under (((zbE _ _).alloc (zbA _) _).trans (hb.mono (by simp))));clear hb HN
 (try clear a0 a1 a2 a3 a4 a5 f0 f1 f2 f3 f4 f5)
 (try clear g5)
 (try clear g3 g4)
 obtain⟨a0,a1,a2,a3,a4,a5⟩:=HA1.out.arg.cells;obtain⟨f0,f1,f2,f3,f4,f5⟩:=HA1.out.own.cells;have g5:=HA1.out.own.frozen 5;have HB2:=hh9 (HA1.out.Dv (.slice none 0 0));clear HA1;go_wp2_with fail
 refine(I2.out _ _ (ints_at (xs:=([3])) (by decide) (oq _ _ _ (by simp)))).mono ?_;rintro e w1 ⟨rfl,hb⟩;have aC:=hh9 (HB2.out.under (((zbE _ _).alloc (zbA _) _).trans (hb.mono (by simp))));clear hb HB2
 (try clear a0 a1 a2 a3 a4 a5 f0 f1 f2 f3 f4 f5)
 (try clear g5)
 (try clear g3 g4)
 obtain⟨a0,a1,a2,a3,a4,a5⟩:=aC.out.arg.cells;obtain⟨f0,f1,f2,f3,f4,f5⟩:=aC.out.own.cells;have g3:=aC.out.own.frozen 3;have g4:=aC.out.own.frozen 4;have eB:=hh9 ((aC.out.JG 0).JH 0);clear aC;go_wp2_with fail
 refine(I3.out _ _ (ints_at (xs:=([4,5])) (by decide) (oq _ _ _ (by simp)))).mono ?_;rintro e w1 ⟨rfl,hb⟩;have bQ:=hh9 (eB.out.under (((zbE _ _).alloc (zbA _) _).trans (hb.mono (by simp))));clear hb eB
 (try clear a0 a1 a2 a3 a4 a5 f0 f1 f2 f3 f4 f5)
 (try clear g5)
 (try clear g3 g4)
 obtain⟨a0,a1,a2,a3,a4,a5⟩:=bQ.out.arg.cells;obtain⟨f0,f1,f2,f3,f4,f5⟩:=bQ.out.own.cells;go_wp2_with fail
 refine(I4.out _ _ (ints_at (xs:=([6,7])) (by decide) (oq _ _ _ (by simp)))).mono ?_;rintro e w1 ⟨rfl,hb⟩;have jL:=hh9 (bQ.out.under (((zbE _ _).alloc (zbA _) _).trans (hb.mono (by simp))));clear hb bQ
 (try clear a0 a1 a2 a3 a4 a5 f0 f1 f2 f3 f4 f5)
 (try clear g5)
 (try clear g3 g4)
 obtain⟨a0,a1,a2,a3,a4,a5⟩:=jL.out.arg.cells;obtain⟨f0,f1,f2,f3,f4,f5⟩:=jL.out.own.cells;have aA:=hh9 jL.out.below
 cases hx:x.isEmpty
 ·have qx:=nU.out hx;have HV:=hh9 (show Bv=false by rw[HB.out];simp[hx]);clear hx;go_wp2_with fail
  go_ret;exact⟨by rw[HV.out];exact rfl,aA.out⟩
 ·have qx:=pG.out hx;have BL:S.toList=[]:=List.isEmpty_iff.1 qx;have HX:=hh9 hx;clear hx;by_cases hm:m=0
  ·subst hm;have HV:=hh9 (show Bv=true by rw[HB.out];first|rfl|simp[HX.out]);go_wp2_with fail
   go_ret;exact⟨by rw[HV.out];exact rfl,aA.out⟩
  ·have qm:((m:Int)==0)=false:=by simp;omega
   have rm:decide (m=0)=false:=zbM hm;have sm:decide ((m:Int)=0)=false:=zbM (by omega);have HV:=hh9 (show Bv=false by rw[HB.out];simp[hm]);clear hm;go_wp2_with fail
   go_ret;exact⟨by rw[HV.out];exact rfl,aA.out⟩
theorem zzw{k:Int}(hk:k=4\/k=5){x:List Int}(lo hi:Int)(a c:Option Addr)(m ca n cc:Nat)(hm:m<=9223372036854775807)(hn:n<=9223372036854775807)(w:World){Bv:Bool}(hB:Bv=((decide (m=0))&&(lo==0)&&(hi==0)&&(decide (n=0)))) :
  Calls Tryz.prog 102 #[.agg #[.int .i64 k,.string (ak x),.slice a m ca,.int .i64 lo,.int .i64 hi,.slice c n cc]] w (gG Bv w):=by
 have HB:=hh9 hB;clear hB;have HN:=hh9 (nT.new w k lo hi (ak x) (.slice a m ca) (.slice c n cc));have i1:eF [1,2,3] k=false:=by rcases hk with rfl|rfl<;>rfl
 have I1:=hh9 (pW (X:=⟨k,ak x,.slice a m ca,lo,hi,.slice c n cc⟩) i1 rfl rfl);have i2:eF [3] k=false:=by rcases hk with rfl|rfl<;>rfl
 have I2:=hh9 (pW (X:=⟨k,ak x,.slice a m ca,lo,hi,.slice c n cc⟩) i2 rfl rfl);have i3:eF [4,5] k=true:=by rcases hk with rfl|rfl<;>rfl
 have I3:=hh9 (pW (X:=⟨k,ak x,.slice a m ca,lo,hi,.slice c n cc⟩) i3 rfl rfl);have i4:eF [6,7] k=false:=by rcases hk with rfl|rfl<;>rfl
 have I4:=hh9 (pW (X:=⟨k,ak x,.slice a m ca,lo,hi,.slice c n cc⟩) i4 rfl rfl);unfold aB at HN;clear i1 i2 i3 i4 hk;obtain⟨S,hS⟩:∃ S,S=ak x:=⟨_,rfl⟩
 have pG:Hid (x.isEmpty=true->S.toList.isEmpty=true):=fun h=>by rw[hS];exact wJ h
 have nU:Hid (x.isEmpty=false->S.toList.isEmpty=false):=fun h=>by rw[hS];exact wK h
 rw[<- hS]at HN I1 I2 I3 I4 ⊢;clear hS;go_enter Tryz.func102,Tryz.ntmps102;go_wp2_with fail
 refine(I1.out _ _ (ints_at (xs:=([1,2,3])) (by decide) (oq _ _ _ (by simp)))).mono ?_;rintro e w1 ⟨rfl,hb⟩;have HA1:=hh9 (HN.out.under (((zbE _ _).alloc (zbA _) _).trans (hb.mono (by simp))));clear hb HN
 (try clear a0 a1 a2 a3 a4 a5 f0 f1 f2 f3 f4 f5)
 (try clear g5)
 (try clear g3 g4)
 obtain⟨a0,a1,a2,a3,a4,a5⟩:=HA1.out.arg.cells;obtain⟨f0,f1,f2,f3,f4,f5⟩:=HA1.out.own.cells;go_wp2_with fail
 refine(I2.out _ _ (ints_at (xs:=([3])) (by decide) (oq _ _ _ (by simp)))).mono ?_;rintro e w1 ⟨rfl,hb⟩;have HA2:=hh9 (HA1.out.under (((zbE _ _).alloc (zbA _) _).trans (hb.mono (by simp))));clear hb HA1
 (try clear a0 a1 a2 a3 a4 a5 f0 f1 f2 f3 f4 f5)
 (try clear g5)
 (try clear g3 g4)
 obtain⟨a0,a1,a2,a3,a4,a5⟩:=HA2.out.arg.cells;obtain⟨f0,f1,f2,f3,f4,f5⟩:=HA2.out.own.cells;go_wp2_with fail
 refine(I3.out _ _ (ints_at (xs:=([4,5])) (by decide) (oq _ _ _ (by simp)))).mono ?_;rintro e w1 ⟨rfl,hb⟩;have aC:=hh9 (HA2.out.under (((zbE _ _).alloc (zbA _) _).trans (hb.mono (by simp))));clear hb HA2
 (try clear a0 a1 a2 a3 a4 a5 f0 f1 f2 f3 f4 f5)
 (try clear g5)
 (try clear g3 g4)
 obtain⟨a0,a1,a2,a3,a4,a5⟩:=aC.out.arg.cells;obtain⟨f0,f1,f2,f3,f4,f5⟩:=aC.out.own.cells;have g5:=aC.out.own.frozen 1;have eB:=hh9 (aC.out.QA ⟨#[]⟩);clear aC;go_wp2_with fail
 refine(I4.out _ _ (ints_at (xs:=([6,7])) (by decide) (oq _ _ _ (by simp)))).mono ?_;rintro e w1 ⟨rfl,hb⟩;have bQ:=hh9 (eB.out.under (((zbE _ _).alloc (zbA _) _).trans (hb.mono (by simp))));clear hb eB
 (try clear a0 a1 a2 a3 a4 a5 f0 f1 f2 f3 f4 f5)
 (try clear g5)
 (try clear g3 g4)
 obtain⟨a0,a1,a2,a3,a4,a5⟩:=bQ.out.arg.cells;obtain⟨f0,f1,f2,f3,f4,f5⟩:=bQ.out.own.cells;have aA:=hh9 bQ.out.below;by_cases hm:m=0
 ·subst hm;by_cases hlo:lo=0
  ·subst hlo;by_cases hhi:hi=0
   ·subst hhi;by_cases hn:n=0
    ·subst hn;have HV:=hh9 (show Bv=true by rw[HB.out];first|rfl|simp[HX.out]);go_wp2_with fail
     go_ret;exact⟨by rw[HV.out];exact rfl,aA.out⟩
    ·have qn:((n:Int)==0)=false:=by simp;omega
     have rn:decide (n=0)=false:=zbM hn;have sn:decide ((n:Int)=0)=false:=zbM (by omega);have HV:=hh9 (show Bv=false by rw[HB.out];simp[hn]);clear hn;go_wp2_with fail
     go_ret;exact⟨by rw[HV.out];exact rfl,aA.out⟩
   ·have Ar:(hi==0)=false:=by simp;omega
    have QB:decide (hi=0)=false:=zbM (by omega);have HV:=hh9 (show Bv=false by rw[HB.out];simp[hhi]);clear hhi;go_wp2_with fail
    go_ret;exact⟨by rw[HV.out];exact rfl,aA.out⟩
  ·have Au:(lo==0)=false:=by simp;omega
   have QC:decide (lo=0)=false:=zbM (by omega);have HV:=hh9 (show Bv=false by rw[HB.out];simp[hlo]);clear hlo;go_wp2_with fail
   go_ret;exact⟨by rw[HV.out];exact rfl,aA.out⟩
 ·have qm:((m:Int)==0)=false:=by simp;omega
  have rm:decide (m=0)=false:=zbM hm;have sm:decide ((m:Int)=0)=false:=zbM (by omega);have HV:=hh9 (show Bv=false by rw[HB.out];simp[hm]);clear hm;go_wp2_with fail
  go_ret;exact⟨by rw[HV.out];exact rfl,aA.out⟩
theorem zzx{k:Int}(hk:k=6\/k=7){x:List Int}(lo hi:Int)(a c:Option Addr)(m ca n cc:Nat)(hm:m<=9223372036854775807)(hn:n<=9223372036854775807)(w:World){Bv:Bool}(hB:Bv=((x.isEmpty)&&(lo==0)&&(hi==0)&&(decide (n=0)))) :
  Calls Tryz.prog 102 #[.agg #[.int .i64 k,.string (ak x),.slice a m ca,.int .i64 lo,.int .i64 hi,.slice c n cc]] w (gG Bv w):=by
 have HB:=hh9 hB;clear hB;have HN:=hh9 (nT.new w k lo hi (ak x) (.slice a m ca) (.slice c n cc));have i1:eF [1,2,3] k=false:=by rcases hk with rfl|rfl<;>rfl
 have I1:=hh9 (pW (X:=⟨k,ak x,.slice a m ca,lo,hi,.slice c n cc⟩) i1 rfl rfl);have i2:eF [3] k=false:=by rcases hk with rfl|rfl<;>rfl
 have I2:=hh9 (pW (X:=⟨k,ak x,.slice a m ca,lo,hi,.slice c n cc⟩) i2 rfl rfl);have i3:eF [4,5] k=false:=by rcases hk with rfl|rfl<;>rfl
 have I3:=hh9 (pW (X:=⟨k,ak x,.slice a m ca,lo,hi,.slice c n cc⟩) i3 rfl rfl);have i4:eF [6,7] k=true:=by rcases hk with rfl|rfl<;>rfl
 have I4:=hh9 (pW (X:=⟨k,ak x,.slice a m ca,lo,hi,.slice c n cc⟩) i4 rfl rfl);unfold aB at HN;clear i1 i2 i3 i4 hk;obtain⟨S,hS⟩:∃ S,S=ak x:=⟨_,rfl⟩
 have pG:Hid (x.isEmpty=true->S.toList.isEmpty=true):=fun h=>by rw[hS];exact wJ h
 have nU:Hid (x.isEmpty=false->S.toList.isEmpty=false):=fun h=>by rw[hS];exact wK h
 rw[<- hS]at HN I1 I2 I3 I4 ⊢;clear hS;go_enter Tryz.func102,Tryz.ntmps102;go_wp2_with fail
 refine(I1.out _ _ (ints_at (xs:=([1,2,3])) (by decide) (oq _ _ _ (by simp)))).mono ?_;rintro e w1 ⟨rfl,hb⟩;have HA1:=hh9 (HN.out.under (((zbE _ _).alloc (zbA _) _).trans (hb.mono (by simp))));clear hb HN
 (try clear a0 a1 a2 a3 a4 a5 f0 f1 f2 f3 f4 f5)
 (try clear g5)
 (try clear g3 g4)
 obtain⟨a0,a1,a2,a3,a4,a5⟩:=HA1.out.arg.cells;obtain⟨f0,f1,f2,f3,f4,f5⟩:=HA1.out.own.cells;go_wp2_with fail
 refine(I2.out _ _ (ints_at (xs:=([3])) (by decide) (oq _ _ _ (by simp)))).mono ?_;rintro e w1 ⟨rfl,hb⟩;have HA2:=hh9 (HA1.out.under (((zbE _ _).alloc (zbA _) _).trans (hb.mono (by simp))));clear hb HA1
 (try clear a0 a1 a2 a3 a4 a5 f0 f1 f2 f3 f4 f5)
 (try clear g5)
 (try clear g3 g4)
 obtain⟨a0,a1,a2,a3,a4,a5⟩:=HA2.out.arg.cells;obtain⟨f0,f1,f2,f3,f4,f5⟩:=HA2.out.own.cells;go_wp2_with fail
 refine(I3.out _ _ (ints_at (xs:=([4,5])) (by decide) (oq _ _ _ (by simp)))).mono ?_;rintro e w1 ⟨rfl,hb⟩;have aC:=hh9 (HA2.out.under (((zbE _ _).alloc (zbA _) _).trans (hb.mono (by simp))));clear hb HA2
 (try clear a0 a1 a2 a3 a4 a5 f0 f1 f2 f3 f4 f5)
 (try clear g5)
 (try clear g3 g4)
 obtain⟨a0,a1,a2,a3,a4,a5⟩:=aC.out.arg.cells;obtain⟨f0,f1,f2,f3,f4,f5⟩:=aC.out.own.cells;go_wp2_with fail
 refine(I4.out _ _ (ints_at (xs:=([6,7])) (by decide) (oq _ _ _ (by simp)))).mono ?_;rintro e w1 ⟨rfl,hb⟩;have bf:=hh9 (aC.out.under (((zbE _ _).alloc (zbA _) _).trans (hb.mono (by simp))));clear hb aC
 (try clear a0 a1 a2 a3 a4 a5 f0 f1 f2 f3 f4 f5)
 (try clear g5)
 (try clear g3 g4)
 obtain⟨a0,a1,a2,a3,a4,a5⟩:=bf.out.arg.cells;obtain⟨f0,f1,f2,f3,f4,f5⟩:=bf.out.own.cells;have g5:=bf.out.own.frozen 2;have iR:=hh9 (bf.out.JF (.slice none 0 0));clear bf;have aA:=hh9 iR.out.below
 cases hx:x.isEmpty
 ·have qx:=nU.out hx;have HV:=hh9 (show Bv=false by rw[HB.out];simp[hx]);clear hx;go_wp2_with fail
  go_ret;exact⟨by rw[HV.out];exact rfl,aA.out⟩
 ·have qx:=pG.out hx;have BL:S.toList=[]:=List.isEmpty_iff.1 qx;have HX:=hh9 hx;clear hx;by_cases hlo:lo=0
  ·subst hlo;by_cases hhi:hi=0
   ·subst hhi;by_cases hn:n=0
    ·subst hn;have HV:=hh9 (show Bv=true by rw[HB.out];first|rfl|simp[HX.out]);go_wp2_with fail
     go_ret;exact⟨by rw[HV.out];exact rfl,aA.out⟩
    ·have qn:((n:Int)==0)=false:=by simp;omega
     have rn:decide (n=0)=false:=zbM hn;have sn:decide ((n:Int)=0)=false:=zbM (by omega);have HV:=hh9 (show Bv=false by rw[HB.out];simp[hn]);clear hn;go_wp2_with fail
     go_ret;exact⟨by rw[HV.out];exact rfl,aA.out⟩
   ·have Ar:(hi==0)=false:=by simp;omega
    have QB:decide (hi=0)=false:=zbM (by omega);have HV:=hh9 (show Bv=false by rw[HB.out];simp[hhi]);clear hhi;go_wp2_with fail
    go_ret;exact⟨by rw[HV.out];exact rfl,aA.out⟩
  ·have Au:(lo==0)=false:=by simp;omega
   have QC:decide (lo=0)=false:=zbM (by omega);have HV:=hh9 (show Bv=false by rw[HB.out];simp[hlo]);clear hlo;go_wp2_with fail
   go_ret;exact⟨by rw[HV.out];exact rfl,aA.out⟩
theorem zzy{k:Int}(hk:k≠1/\k≠2/\k≠3/\k≠4/\k≠5/\k≠6/\k≠7){x:List Int}(lo hi:Int)(a c:Option Addr)(m ca n cc:Nat)(hm:m<=9223372036854775807)(hn:n<=9223372036854775807)(w:World){Bv:Bool}(hB:Bv=((x.isEmpty)&&(decide (m=0))&&(lo==0)&&(hi==0)&&(decide (n=0)))) :
  Calls Tryz.prog 102 #[.agg #[.int .i64 k,.string (ak x),.slice a m ca,.int .i64 lo,.int .i64 hi,.slice c n cc]] w (gG Bv w):=by
 have HB:=hh9 hB;clear hB;have HN:=hh9 (nT.new w k lo hi (ak x) (.slice a m ca) (.slice c n cc));have i1:eF [1,2,3] k=false:=by simp[eF];omega
 have I1:=hh9 (pW (X:=⟨k,ak x,.slice a m ca,lo,hi,.slice c n cc⟩) i1 rfl rfl);have i2:eF [3] k=false:=by simp[eF];omega
 have I2:=hh9 (pW (X:=⟨k,ak x,.slice a m ca,lo,hi,.slice c n cc⟩) i2 rfl rfl);have i3:eF [4,5] k=false:=by simp[eF];omega
 have I3:=hh9 (pW (X:=⟨k,ak x,.slice a m ca,lo,hi,.slice c n cc⟩) i3 rfl rfl);have i4:eF [6,7] k=false:=by simp[eF];omega
 have I4:=hh9 (pW (X:=⟨k,ak x,.slice a m ca,lo,hi,.slice c n cc⟩) i4 rfl rfl);unfold aB at HN;clear i1 i2 i3 i4 hk;obtain⟨S,hS⟩:∃ S,S=ak x:=⟨_,rfl⟩
 have pG:Hid (x.isEmpty=true->S.toList.isEmpty=true):=fun h=>by rw[hS];exact wJ h
 have nU:Hid (x.isEmpty=false->S.toList.isEmpty=false):=fun h=>by rw[hS];exact wK h
 rw[<- hS]at HN I1 I2 I3 I4 ⊢;clear hS;go_enter Tryz.func102,Tryz.ntmps102;go_wp2_with fail
 refine(I1.out _ _ (ints_at (xs:=([1,2,3])) (by decide) (oq _ _ _ (by simp)))).mono ?_;rintro e w1 ⟨rfl,hb⟩;have HA1:=hh9 (HN.out.under (((zbE _ _).alloc (zbA _) _).trans (hb.mono (by simp))));clear hb HN
 (try clear a0 a1 a2 a3 a4 a5 f0 f1 f2 f3 f4 f5)
 (try clear g5)
 (try clear g3 g4)
 obtain⟨a0,a1,a2,a3,a4,a5⟩:=HA1.out.arg.cells;obtain⟨f0,f1,f2,f3,f4,f5⟩:=HA1.out.own.cells;go_wp2_with fail
 refine(I2.out _ _ (ints_at (xs:=([3])) (by decide) (oq _ _ _ (by simp)))).mono ?_;rintro e w1 ⟨rfl,hb⟩;have HA2:=hh9 (HA1.out.under (((zbE _ _).alloc (zbA _) _).trans (hb.mono (by simp))));clear hb HA1
 (try clear a0 a1 a2 a3 a4 a5 f0 f1 f2 f3 f4 f5)
 (try clear g5)
 (try clear g3 g4)
 obtain⟨a0,a1,a2,a3,a4,a5⟩:=HA2.out.arg.cells;obtain⟨f0,f1,f2,f3,f4,f5⟩:=HA2.out.own.cells;go_wp2_with fail
 refine(I3.out _ _ (ints_at (xs:=([4,5])) (by decide) (oq _ _ _ (by simp)))).mono ?_;rintro e w1 ⟨rfl,hb⟩;have aC:=hh9 (HA2.out.under (((zbE _ _).alloc (zbA _) _).trans (hb.mono (by simp))));clear hb HA2
 (try clear a0 a1 a2 a3 a4 a5 f0 f1 f2 f3 f4 f5)
 (try clear g5)
 (try clear g3 g4)
 obtain⟨a0,a1,a2,a3,a4,a5⟩:=aC.out.arg.cells;obtain⟨f0,f1,f2,f3,f4,f5⟩:=aC.out.own.cells;go_wp2_with fail
 refine(I4.out _ _ (ints_at (xs:=([6,7])) (by decide) (oq _ _ _ (by simp)))).mono ?_;rintro e w1 ⟨rfl,hb⟩;have bf:=hh9 (aC.out.under (((zbE _ _).alloc (zbA _) _).trans (hb.mono (by simp))));clear hb aC
 (try clear a0 a1 a2 a3 a4 a5 f0 f1 f2 f3 f4 f5)
 (try clear g5)
 (try clear g3 g4)
 obtain⟨a0,a1,a2,a3,a4,a5⟩:=bf.out.arg.cells;obtain⟨f0,f1,f2,f3,f4,f5⟩:=bf.out.own.cells;have aA:=hh9 bf.out.below
 cases hx:x.isEmpty
 ·have qx:=nU.out hx;have HV:=hh9 (show Bv=false by rw[HB.out];simp[hx]);clear hx;go_wp2_with fail
  go_ret;exact⟨by rw[HV.out];exact rfl,aA.out⟩
 ·have qx:=pG.out hx;have BL:S.toList=[]:=List.isEmpty_iff.1 qx;have HX:=hh9 hx;clear hx;by_cases hm:m=0
  ·subst hm;by_cases hlo:lo=0
   ·subst hlo;by_cases hhi:hi=0
    ·subst hhi;by_cases hn:n=0
     ·subst hn;have HV:=hh9 (show Bv=true by rw[HB.out];first|rfl|simp[HX.out]);go_wp2_with fail
      go_ret;exact⟨by rw[HV.out];exact rfl,aA.out⟩
     ·have qn:((n:Int)==0)=false:=by simp;omega
      have rn:decide (n=0)=false:=zbM hn;have sn:decide ((n:Int)=0)=false:=zbM (by omega);have HV:=hh9 (show Bv=false by rw[HB.out];simp[hn]);clear hn;go_wp2_with fail
      go_ret;exact⟨by rw[HV.out];exact rfl,aA.out⟩
    ·have Ar:(hi==0)=false:=by simp;omega
     have QB:decide (hi=0)=false:=zbM (by omega);have HV:=hh9 (show Bv=false by rw[HB.out];simp[hhi]);clear hhi;go_wp2_with fail
     go_ret;exact⟨by rw[HV.out];exact rfl,aA.out⟩
   ·have Au:(lo==0)=false:=by simp;omega
    have QC:decide (lo=0)=false:=zbM (by omega);have HV:=hh9 (show Bv=false by rw[HB.out];simp[hlo]);clear hlo;go_wp2_with fail
    go_ret;exact⟨by rw[HV.out];exact rfl,aA.out⟩
  ·have qm:((m:Int)==0)=false:=by simp;omega
   have rm:decide (m=0)=false:=zbM hm;have sm:decide ((m:Int)=0)=false:=zbM (by omega);have HV:=hh9 (show Bv=false by rw[HB.out];simp[hm]);clear hm;go_wp2_with fail
   go_ret;exact⟨by rw[HV.out];exact rfl,aA.out⟩
theorem qcw{X:XV}{k lo hi:Int}{x ns:List Int}{kids:List Tree}{w:World}(h:aM w X (.mk k x ns lo hi kids)):Calls Tryz.prog 102 #[X.val] w (gG (aY k x ns lo hi kids.length) w):=by
 cases h with
 |@mk _ _ _ nv kv _ _ _ vs h0 hl h1 h2 h3 h4 =>
  obtain⟨a,ca,rfl,hm⟩:=h1.slice;obtain⟨c,cc,rfl,hn⟩:=h2.slice;show Calls _ _ #[.agg #[.int .i64 k,.string (ak x),.slice a ns.length ca,.int .i64 lo,.int .i64 hi,.slice c kids.length cc]] w _
  have e0:ns.isEmpty=decide (ns.length=0):=by cases ns<;>simp
  by_cases k12:k=1\/k=2
  ·exact qcu k12 lo hi a c _ ca _ cc hm hn w (by unfold aY;rw[e0];rcases k12 with rfl|rfl<;>simp)
  by_cases k3:k=3
  ·exact qcv k3 lo hi a c _ ca _ cc hm hn w (by unfold aY;rw[e0];subst k3;simp)
  by_cases QD:k=4\/k=5
  ·exact zzw QD lo hi a c _ ca _ cc hm hn w (by unfold aY;rw[e0];rcases QD with rfl|rfl<;>simp)
  by_cases QE:k=6\/k=7
  ·exact zzx QE lo hi a c _ ca _ cc hm hn w (by unfold aY;rw[e0];rcases QE with rfl|rfl<;>simp)
  ·exact zzy (by omega) lo hi a c _ ca _ cc hm hn w (by
    unfold aY;rw[e0,zbM QD,zbM QE,zbM k3,show decide (k=1\/k=2\/k=3)=false from zbM (by omega)];simp)
end Go.Proofs.YtahibnnhjahmnaaGreatDoor
