/- Part 39 of what the laws of the grammar rest on. -/
import Derived.Test.YtekjnfldgjcgeaaGreatDoorA11
import Derived.Test.YtekjnfldgjcgeaaGreatDoorA22
import Derived.Test.YtekjnfldgjcgeaaGreatDoorA26
import Derived.Test.YtekjnfldgjcgeaaGreatDoorA27
import Derived.Test.YtekjnfldgjcgeaaGreatDoorA38
set_option linter.all false
set_option maxRecDepth 100000
set_option maxHeartbeats 8000000
namespace Go.Proofs.YtekjnfldgjcgeaaGreatDoor
open Go.RowKit
noncomputable def qao (n:Nat):Code->Array Oper
 | .region m ops _=>if m=n then ops else #[]
 | .seq a b=>if (qao n a).size=0 then qao n b else qao n a
 | _=>#[]
noncomputable def opsC:Array Oper:=((Tryz.prog.funcs[31]?.bind (·.body)).map (qao 7)).getD #[]
theorem zpg:opsC.size=52:=by kernel_rfl
theorem zu7:(opsC.toList.zipIdx.all fun x=>x.1.after.all fun e=>decide (e.on<x.2))=true:=by kernel_rfl
theorem qap (i:Nat) (o:Oper) (h:opsC[i]?=some o):∀ e∈o.after,e.on<i:=by
 have h1:=List.all_eq_true.1 zu7 (o,i) (by rw [List.mem_zipIdx_iff_getElem?];simpa using h)
 intro e he
 simpa using (Array.all_eq_true_iff_forall_mem.1 h1) e he
def dC (i:Nat):Nat:=if i=51 then 0 else i+25
def sC (B:Nat):List SP:=[
 .x (spT 65 90),
 .x (spT 97 122),
 .k [spT 65 90,spT 97 122],
 .x (alT [spT 65 90,spT 97 122]),
 .r ⟨znn,alT [spT 65 90,spT 97 122]⟩,
 .x (foT [48]),
 .x (foT [49]),
 .k [foT [48],foT [49]],
 .x (alT [foT [48],foT [49]]),
 .r ⟨nBit,alT [foT [48],foT [49]]⟩,
 .x (spT 1 127),
 .r ⟨qbd,spT 1 127⟩,
 .x (nuT 13),
 .r ⟨nCr,nuT 13⟩,
 .x (rfT nCr),
 .x (rfT nLf),
 .k [rfT nCr,rfT nLf],
 .x (seT [rfT nCr,rfT nLf]),
 .r ⟨zgm,seT [rfT nCr,rfT nLf]⟩,
 .x (spT 0 31),
 .x (nuT 127),
 .k [spT 0 31,nuT 127],
 .x (alT [spT 0 31,nuT 127]),
 .r ⟨nCtl,alT [spT 0 31,nuT 127]⟩,
 .x (spT 48 57),
 .r ⟨zbb,spT 48 57⟩,
 .x (nuT 34),
 .r ⟨zpm,nuT 34⟩,
 .k [rfT zbb,foT [97],foT [98],foT [99],foT [100],foT [101],foT [102]],
 .x (alT [rfT zbb,foT [97],foT [98],foT [99],foT [100],foT [101],foT [102]]),
 .r ⟨zje,alT [rfT zbb,foT [97],foT [98],foT [99],foT [100],foT [101],foT [102]]⟩,
 .x (nuT 9),
 .r ⟨zkz,nuT 9⟩,
 .x (nuT 10),
 .r ⟨nLf,nuT 10⟩,
 .x (alT [rfT nWsp,seT [rfT zgm,rfT nWsp]]),
 .k [alT [rfT nWsp,seT [rfT zgm,rfT nWsp]]],
 .x (.mk 3 [] [] 0 (-1) [alT [rfT nWsp,seT [rfT zgm,rfT nWsp]]]),
 .r ⟨zub,.mk 3 [] [] 0 (-1) [alT [rfT nWsp,seT [rfT zgm,rfT nWsp]]]⟩,
 .x (spT 0 255),
 .r ⟨zuc,spT 0 255⟩,
 .x (nuT 32),
 .r ⟨nSp,nuT 32⟩,
 .x (spT 33 126),
 .r ⟨zud,spT 33 126⟩,
 .x (rfT nSp),
 .x (rfT zkz),
 .k [rfT nSp,rfT zkz],
 .x (alT [rfT nSp,rfT zkz]),
 .r ⟨nWsp,alT [rfT nSp,rfT zkz]⟩,
 .rs B zbs,
 .rs B zbs]
def JC (W:World) (V:Value) (g:Nat) (L:Array Bool) (a:Act) (w:World):Prop :=
 a.tmps.size=76/\a.defers=[]/\Below W.heap.size W w/\a.tmps.getD 1 undef=V/\a.tmps.getD 3 undef=.pointer (some ⟨g,0,none⟩)/\∀ (i:Nat) (s:SP),(sC W.heap.size)[i]?=some s->L.getD i false=true->s.at w (a.tmps.getD (dC i) undef)
theorem qb9 {B i:Nat} {s:SP} (h:(sC B)[i]?=some s):i<52:=(List.getElem?_eq_some_iff.1 h).1
section
variable {W w w':World} {V v:Value} {g i j:Nat} {L:Array Bool} {a:Act} {s:SP} {K:Act → World → Prop} {Q:Exit → Act → World → Prop}
theorem JC.step (h:JC W V g L a w) (hi:(sC W.heap.size)[i]?=some s) (hL:L.size=52) (hs:s.at w' v) (hb:Below w.heap.size w w'):JC W V g (L.setIfInBounds i true) (a.put (some (dC i)) v) w':=by
 obtain ⟨h1,h2,h3,h4,h5,h6⟩:=h
 have hi':=qb9 hi
 have hd:dC i<76/\dC i≠1/\dC i≠3:=by unfold dC;split<;>omega
 refine ⟨by simpa [Act.put] using h1,h2,za0 h3 hb,?_,?_,fun k s' hk hl=>?_⟩
 ·simp only [Act.put]
  rw [Array.getD_eq_getD_getElem?,Array.getElem?_setIfInBounds_ne hd.2.1,<- Array.getD_eq_getD_getElem?]
  exact h4
 ·simp only [Act.put]
  rw [Array.getD_eq_getD_getElem?,Array.getElem?_setIfInBounds_ne hd.2.2,<- Array.getD_eq_getD_getElem?]
  exact h5
 ·have hk':=qb9 hk
  simp only [Act.put]
  by_cases e:k=i
  ·subst e
   rw [hi] at hk
   obtain rfl:=Option.some.inj hk
   rw [Array.getD_eq_getD_getElem?,Array.getElem?_setIfInBounds_self_of_lt (by omega)]
   exact hs
  ·have hne:dC i≠dC k:=by unfold dC;split<;>split<;>omega
   rw [Array.getD_eq_getD_getElem?,Array.getElem?_setIfInBounds_ne hne,<- Array.getD_eq_getD_getElem?]
   rw [Array.getD_eq_getD_getElem?,Array.getElem?_setIfInBounds_ne (Ne.symm e),<- Array.getD_eq_getD_getElem?] at hl
   exact SP.under (h6 k s' hk hl) hb
theorem JC.get (h:JC W V g L a w) (hr:i∈Region.ready .any opsC L) (hd:((opsC[i]?).map fun o=>o.after.any fun e=>decide (e.on=j)&&Region.binds .any e)=some true) (hj:(sC W.heap.size)[j]?=some s):s.at w (a.tmps.getD (dC j) undef):=by
 obtain ⟨_,_,o,ho,h3⟩:=zg6.1 hr
 rw [ho] at hd
 have hd':(o.after.any fun e=>decide (e.on=j)&&Region.binds .any e)=true:=Option.some.inj hd
 rw [<- Array.any_toList] at hd'
 obtain ⟨e,he,hc⟩:=List.any_eq_true.1 hd'
 have he:=Array.mem_toList_iff.1 he
 simp only [Bool.and_eq_true,decide_eq_true_eq] at hc
 have:=h3 e he hc.2
 rw [hc.1] at this
 exact h.2.2.2.2.2 j s hj this
theorem zbx {d:Nat} {X:Op} (hm:((opsC[i]?).map fun o=>(o.dst,o.op,o.guard))=some (some d,X,none)) (h:∀ o:Oper,o.op=X->o.dst=some d->o.wp Tryz.prog a w K Q):wpOp Tryz.prog opsC Q i K a w:=by
 obtain ⟨o,ho,he⟩:=Option.map_eq_some_iff.1 hm
 simp only [Prod.mk.injEq] at he
 unfold wpOp
 rw [ho]
 show if Region.wanted o _ then _ else _
 rw [if_pos (by unfold Region.wanted;rw [he.2.2])]
 exact .inl (h o he.2.1 he.1)
theorem qcn {k:Int} {tx:ByteArray} {lo hi:Int} {a1:Option Addr} {n1 c1:Nat} {a2:Option Addr} {n2 c2:Nat} (hV:(SP.k [rfT zbb,foT [97],foT [98],foT [99],foT [100],foT [101],foT [102]]).at W V) (hg2:g<W.heap.size) (hg:W.heap[g]?=some (.cells #[.int .i64 k,.string tx,.slice a1 n1 c1,.int .i64 lo,.int .i64 hi,.slice a2 n2 c2] 35 (0,0))) (hE:ETP W (fun _=>True) ⟨k,tx,.slice a1 n1 c1,lo,hi,.slice a2 n2 c2⟩ (alT [rfT nWsp,seT [rfT zgm,rfT nWsp]]))
  (hL:L.size=52) (hJ:JC W V g L a w) (hr:i∈Region.ready .any opsC L) (hi52:i<52):wpOp Tryz.prog opsC Q i (JC W V g (L.setIfInBounds i true)) a w:=by
 match i,hi52 with
 | 0,_=>exact zbx (d:=25) (by kernel_rfl) fun o ho hd=>zgx (n:=65) (m:=90) (T:=#[3,3]) ho (fun v w' hs hb=>by rw [hd];exact hJ.step (i:=0) rfl hL hs hb)
 | 1,_=>exact zbx (d:=26) (by kernel_rfl) fun o ho hd=>zgx (n:=97) (m:=122) (T:=#[3,3]) ho (fun v w' hs hb=>by rw [hd];exact hJ.step (i:=1) rfl hL hs hb)
 | 2,_=>exact zbx (d:=27) (by kernel_rfl) fun o ho hd=>zpf (d1:=25) (d2:=26) (hJ.get (i:=2) (j:=0) hr (by kernel_rfl) rfl) (hJ.get (i:=2) (j:=1) hr (by kernel_rfl) rfl) ho (fun v w' hs hb=>by rw [hd];exact hJ.step (i:=2) rfl hL hs hb)
 | 3,_=>exact zbx (d:=28) (by kernel_rfl) fun o ho hd=>zkx (d:=27) (T:=#[33]) (hJ.get (i:=3) (j:=2) hr (by kernel_rfl) rfl) ho (fun v w' hs hb=>by rw [hd];exact hJ.step (i:=3) rfl hL hs hb)
 | 4,_=>exact zbx (d:=29) (by kernel_rfl) fun o ho hd=>zd2 (d:=28) (S:=⟨#[97,108,112,104,97]⟩) znn (hJ.get (i:=4) (j:=3) hr (by kernel_rfl) rfl) (by kernel_rfl) (by unfold zar;decide) ho (fun v w' hs hb=>by rw [hd];exact hJ.step (i:=4) rfl hL hs hb)
 | 5,_=>exact zbx (d:=30) (by kernel_rfl) fun o ho hd=>qb8 (S:=⟨#[48]⟩) [48] (by kernel_rfl) (by unfold zar;decide) ho (fun v w' hs hb=>by rw [hd];exact hJ.step (i:=5) rfl hL hs hb)
 | 6,_=>exact zbx (d:=31) (by kernel_rfl) fun o ho hd=>qb8 (S:=⟨#[49]⟩) [49] (by kernel_rfl) (by unfold zar;decide) ho (fun v w' hs hb=>by rw [hd];exact hJ.step (i:=6) rfl hL hs hb)
 | 7,_=>exact zbx (d:=32) (by kernel_rfl) fun o ho hd=>zpf (d1:=30) (d2:=31) (hJ.get (i:=7) (j:=5) hr (by kernel_rfl) rfl) (hJ.get (i:=7) (j:=6) hr (by kernel_rfl) rfl) ho (fun v w' hs hb=>by rw [hd];exact hJ.step (i:=7) rfl hL hs hb)
 | 8,_=>exact zbx (d:=33) (by kernel_rfl) fun o ho hd=>zkx (d:=32) (T:=#[33]) (hJ.get (i:=8) (j:=7) hr (by kernel_rfl) rfl) ho (fun v w' hs hb=>by rw [hd];exact hJ.step (i:=8) rfl hL hs hb)
 | 9,_=>exact zbx (d:=34) (by kernel_rfl) fun o ho hd=>zd2 (d:=33) (S:=⟨#[98,105,116]⟩) nBit (hJ.get (i:=9) (j:=8) hr (by kernel_rfl) rfl) (by kernel_rfl) (by unfold zar;decide) ho (fun v w' hs hb=>by rw [hd];exact hJ.step (i:=9) rfl hL hs hb)
 | 10,_=>exact zbx (d:=35) (by kernel_rfl) fun o ho hd=>zgx (n:=1) (m:=127) (T:=#[3,3]) ho (fun v w' hs hb=>by rw [hd];exact hJ.step (i:=10) rfl hL hs hb)
 | 11,_=>exact zbx (d:=36) (by kernel_rfl) fun o ho hd=>zd2 (d:=35) (S:=⟨#[99,104,97,114]⟩) qbd (hJ.get (i:=11) (j:=10) hr (by kernel_rfl) rfl) (by kernel_rfl) (by unfold zar;decide) ho (fun v w' hs hb=>by rw [hd];exact hJ.step (i:=11) rfl hL hs hb)
 | 12,_=>exact zbx (d:=37) (by kernel_rfl) fun o ho hd=>zm9 (n:=13) (T:=#[3]) ho (fun v w' hs hb=>by rw [hd];exact hJ.step (i:=12) rfl hL hs hb)
 | 13,_=>exact zbx (d:=38) (by kernel_rfl) fun o ho hd=>zd2 (d:=37) (S:=⟨#[99,114]⟩) nCr (hJ.get (i:=13) (j:=12) hr (by kernel_rfl) rfl) (by kernel_rfl) (by unfold zar;decide) ho (fun v w' hs hb=>by rw [hd];exact hJ.step (i:=13) rfl hL hs hb)
 | 14,_=>exact zbx (d:=39) (by kernel_rfl) fun o ho hd=>zsf (S:=⟨#[99,114]⟩) (T:=#[9]) nCr (by kernel_rfl) (by unfold zar;decide) ho (fun v w' hs hb=>by rw [hd];exact hJ.step (i:=14) rfl hL hs hb)
 | 15,_=>exact zbx (d:=40) (by kernel_rfl) fun o ho hd=>zsf (S:=⟨#[108,102]⟩) (T:=#[9]) nLf (by kernel_rfl) (by unfold zar;decide) ho (fun v w' hs hb=>by rw [hd];exact hJ.step (i:=15) rfl hL hs hb)
 | 16,_=>exact zbx (d:=41) (by kernel_rfl) fun o ho hd=>zpf (d1:=39) (d2:=40) (hJ.get (i:=16) (j:=14) hr (by kernel_rfl) rfl) (hJ.get (i:=16) (j:=15) hr (by kernel_rfl) rfl) ho (fun v w' hs hb=>by rw [hd];exact hJ.step (i:=16) rfl hL hs hb)
 | 17,_=>exact zbx (d:=42) (by kernel_rfl) fun o ho hd=>qe0 (d:=41) (hJ.get (i:=17) (j:=16) hr (by kernel_rfl) rfl) ho (fun v w' hs hb=>by rw [hd];exact hJ.step (i:=17) rfl hL hs hb)
 | 18,_=>exact zbx (d:=43) (by kernel_rfl) fun o ho hd=>zd2 (d:=42) (S:=⟨#[99,114,108,102]⟩) zgm (hJ.get (i:=18) (j:=17) hr (by kernel_rfl) rfl) (by kernel_rfl) (by unfold zar;decide) ho (fun v w' hs hb=>by rw [hd];exact hJ.step (i:=18) rfl hL hs hb)
 | 19,_=>exact zbx (d:=44) (by kernel_rfl) fun o ho hd=>zgx (n:=0) (m:=31) (T:=#[3,3]) ho (fun v w' hs hb=>by rw [hd];exact hJ.step (i:=19) rfl hL hs hb)
 | 20,_=>exact zbx (d:=45) (by kernel_rfl) fun o ho hd=>zm9 (n:=127) (T:=#[3]) ho (fun v w' hs hb=>by rw [hd];exact hJ.step (i:=20) rfl hL hs hb)
 | 21,_=>exact zbx (d:=46) (by kernel_rfl) fun o ho hd=>zpf (d1:=44) (d2:=45) (hJ.get (i:=21) (j:=19) hr (by kernel_rfl) rfl) (hJ.get (i:=21) (j:=20) hr (by kernel_rfl) rfl) ho (fun v w' hs hb=>by rw [hd];exact hJ.step (i:=21) rfl hL hs hb)
 | 22,_=>exact zbx (d:=47) (by kernel_rfl) fun o ho hd=>zkx (d:=46) (T:=#[33]) (hJ.get (i:=22) (j:=21) hr (by kernel_rfl) rfl) ho (fun v w' hs hb=>by rw [hd];exact hJ.step (i:=22) rfl hL hs hb)
 | 23,_=>exact zbx (d:=48) (by kernel_rfl) fun o ho hd=>zd2 (d:=47) (S:=⟨#[99,116,108]⟩) nCtl (hJ.get (i:=23) (j:=22) hr (by kernel_rfl) rfl) (by kernel_rfl) (by unfold zar;decide) ho (fun v w' hs hb=>by rw [hd];exact hJ.step (i:=23) rfl hL hs hb)
 | 24,_=>exact zbx (d:=49) (by kernel_rfl) fun o ho hd=>zgx (n:=48) (m:=57) (T:=#[3,3]) ho (fun v w' hs hb=>by rw [hd];exact hJ.step (i:=24) rfl hL hs hb)
 | 25,_=>exact zbx (d:=50) (by kernel_rfl) fun o ho hd=>zd2 (d:=49) (S:=⟨#[100,105,103,105,116]⟩) zbb (hJ.get (i:=25) (j:=24) hr (by kernel_rfl) rfl) (by kernel_rfl) (by unfold zar;decide) ho (fun v w' hs hb=>by rw [hd];exact hJ.step (i:=25) rfl hL hs hb)
 | 26,_=>exact zbx (d:=51) (by kernel_rfl) fun o ho hd=>zm9 (n:=34) (T:=#[3]) ho (fun v w' hs hb=>by rw [hd];exact hJ.step (i:=26) rfl hL hs hb)
 | 27,_=>exact zbx (d:=52) (by kernel_rfl) fun o ho hd=>zd2 (d:=51) (S:=⟨#[100,113,117,111,116,101]⟩) zpm (hJ.get (i:=27) (j:=26) hr (by kernel_rfl) rfl) (by kernel_rfl) (by unfold zar;decide) ho (fun v w' hs hb=>by rw [hd];exact hJ.step (i:=27) rfl hL hs hb)
 | 28,_=>exact zbx (d:=53) (by kernel_rfl) fun o ho hd=>qcm (d:=1) (s:=.k [rfT zbb,foT [97],foT [98],foT [99],foT [100],foT [101],foT [102]]) (by rw [hJ.2.2.2.1];exact SP.under hV hJ.2.2.1) ho (fun v w' hs hb=>by rw [hd];exact hJ.step (i:=28) rfl hL hs hb)
 | 29,_=>exact zbx (d:=54) (by kernel_rfl) fun o ho hd=>zkx (d:=53) (T:=#[33]) (hJ.get (i:=29) (j:=28) hr (by kernel_rfl) rfl) ho (fun v w' hs hb=>by rw [hd];exact hJ.step (i:=29) rfl hL hs hb)
 | 30,_=>exact zbx (d:=55) (by kernel_rfl) fun o ho hd=>zd2 (d:=54) (S:=⟨#[104,101,120,100,105,103]⟩) zje (hJ.get (i:=30) (j:=29) hr (by kernel_rfl) rfl) (by kernel_rfl) (by unfold zar;decide) ho (fun v w' hs hb=>by rw [hd];exact hJ.step (i:=30) rfl hL hs hb)
 | 31,_=>exact zbx (d:=56) (by kernel_rfl) fun o ho hd=>zm9 (n:=9) (T:=#[3]) ho (fun v w' hs hb=>by rw [hd];exact hJ.step (i:=31) rfl hL hs hb)
 | 32,_=>exact zbx (d:=57) (by kernel_rfl) fun o ho hd=>zd2 (d:=56) (S:=⟨#[104,116,97,98]⟩) zkz (hJ.get (i:=32) (j:=31) hr (by kernel_rfl) rfl) (by kernel_rfl) (by unfold zar;decide) ho (fun v w' hs hb=>by rw [hd];exact hJ.step (i:=32) rfl hL hs hb)
 | 33,_=>exact zbx (d:=58) (by kernel_rfl) fun o ho hd=>zm9 (n:=10) (T:=#[3]) ho (fun v w' hs hb=>by rw [hd];exact hJ.step (i:=33) rfl hL hs hb)
 | 34,_=>exact zbx (d:=59) (by kernel_rfl) fun o ho hd=>zd2 (d:=58) (S:=⟨#[108,102]⟩) nLf (hJ.get (i:=34) (j:=33) hr (by kernel_rfl) rfl) (by kernel_rfl) (by unfold zar;decide) ho (fun v w' hs hb=>by rw [hd];exact hJ.step (i:=34) rfl hL hs hb)
 | 35,_=>exact zbx (d:=60) (by kernel_rfl) fun o ho hd=>qam (d:=3) hJ.2.2.2.2.1 ((hJ.2.2.1.block g hg2).trans hg) (hE.under hJ.2.2.1) ho (fun v w' hs hb=>by rw [hd];exact hJ.step (i:=35) rfl hL hs hb)
 | 36,_=>exact zbx (d:=61) (by kernel_rfl) fun o ho hd=>zxw (d1:=60) (hJ.get (i:=36) (j:=35) hr (by kernel_rfl) rfl) ho (fun v w' hs hb=>by rw [hd];exact hJ.step (i:=36) rfl hL hs hb)
 | 37,_=>exact zbx (d:=62) (by kernel_rfl) fun o ho hd=>qe1 (d:=61) (hJ.get (i:=37) (j:=36) hr (by kernel_rfl) rfl) ho (fun v w' hs hb=>by rw [hd];exact hJ.step (i:=37) rfl hL hs hb)
 | 38,_=>exact zbx (d:=63) (by kernel_rfl) fun o ho hd=>zd2 (d:=62) (S:=⟨#[108,119,115,112]⟩) zub (hJ.get (i:=38) (j:=37) hr (by kernel_rfl) rfl) (by kernel_rfl) (by unfold zar;decide) ho (fun v w' hs hb=>by rw [hd];exact hJ.step (i:=38) rfl hL hs hb)
 | 39,_=>exact zbx (d:=64) (by kernel_rfl) fun o ho hd=>zgx (n:=0) (m:=255) (T:=#[3,3]) ho (fun v w' hs hb=>by rw [hd];exact hJ.step (i:=39) rfl hL hs hb)
 | 40,_=>exact zbx (d:=65) (by kernel_rfl) fun o ho hd=>zd2 (d:=64) (S:=⟨#[111,99,116,101,116]⟩) zuc (hJ.get (i:=40) (j:=39) hr (by kernel_rfl) rfl) (by kernel_rfl) (by unfold zar;decide) ho (fun v w' hs hb=>by rw [hd];exact hJ.step (i:=40) rfl hL hs hb)
 | 41,_=>exact zbx (d:=66) (by kernel_rfl) fun o ho hd=>zm9 (n:=32) (T:=#[3]) ho (fun v w' hs hb=>by rw [hd];exact hJ.step (i:=41) rfl hL hs hb)
 | 42,_=>exact zbx (d:=67) (by kernel_rfl) fun o ho hd=>zd2 (d:=66) (S:=⟨#[115,112]⟩) nSp (hJ.get (i:=42) (j:=41) hr (by kernel_rfl) rfl) (by kernel_rfl) (by unfold zar;decide) ho (fun v w' hs hb=>by rw [hd];exact hJ.step (i:=42) rfl hL hs hb)
 | 43,_=>exact zbx (d:=68) (by kernel_rfl) fun o ho hd=>zgx (n:=33) (m:=126) (T:=#[3,3]) ho (fun v w' hs hb=>by rw [hd];exact hJ.step (i:=43) rfl hL hs hb)
 | 44,_=>exact zbx (d:=69) (by kernel_rfl) fun o ho hd=>zd2 (d:=68) (S:=⟨#[118,99,104,97,114]⟩) zud (hJ.get (i:=44) (j:=43) hr (by kernel_rfl) rfl) (by kernel_rfl) (by unfold zar;decide) ho (fun v w' hs hb=>by rw [hd];exact hJ.step (i:=44) rfl hL hs hb)
 | 45,_=>exact zbx (d:=70) (by kernel_rfl) fun o ho hd=>zsf (S:=⟨#[115,112]⟩) (T:=#[9]) nSp (by kernel_rfl) (by unfold zar;decide) ho (fun v w' hs hb=>by rw [hd];exact hJ.step (i:=45) rfl hL hs hb)
 | 46,_=>exact zbx (d:=71) (by kernel_rfl) fun o ho hd=>zsf (S:=⟨#[104,116,97,98]⟩) (T:=#[9]) zkz (by kernel_rfl) (by unfold zar;decide) ho (fun v w' hs hb=>by rw [hd];exact hJ.step (i:=46) rfl hL hs hb)
 | 47,_=>exact zbx (d:=72) (by kernel_rfl) fun o ho hd=>zpf (d1:=70) (d2:=71) (hJ.get (i:=47) (j:=45) hr (by kernel_rfl) rfl) (hJ.get (i:=47) (j:=46) hr (by kernel_rfl) rfl) ho (fun v w' hs hb=>by rw [hd];exact hJ.step (i:=47) rfl hL hs hb)
 | 48,_=>exact zbx (d:=73) (by kernel_rfl) fun o ho hd=>zkx (d:=72) (T:=#[33]) (hJ.get (i:=48) (j:=47) hr (by kernel_rfl) rfl) ho (fun v w' hs hb=>by rw [hd];exact hJ.step (i:=48) rfl hL hs hb)
 | 49,_=>exact zbx (d:=74) (by kernel_rfl) fun o ho hd=>zd2 (d:=73) (S:=⟨#[119,115,112]⟩) nWsp (hJ.get (i:=49) (j:=48) hr (by kernel_rfl) rfl) (by kernel_rfl) (by unfold zar;decide) ho (fun v w' hs hb=>by rw [hd];exact hJ.step (i:=49) rfl hL hs hb)
 | 50,_=>exact zbx (d:=75) (by kernel_rfl) fun o ho hd=>qan (B:=W.heap.size) hJ.2.2.1.size (d0:=29) (d1:=34) (d2:=36) (d3:=38) (d4:=43) (d5:=48) (d6:=50) (d7:=52) (d8:=55) (d9:=57) (d10:=59) (d11:=63) (d12:=65) (d13:=67) (d14:=69) (d15:=74) (hJ.get (i:=50) (j:=4) hr (by kernel_rfl) rfl) (hJ.get (i:=50) (j:=9) hr (by kernel_rfl) rfl) (hJ.get (i:=50) (j:=11) hr (by kernel_rfl) rfl) (hJ.get (i:=50) (j:=13) hr (by kernel_rfl) rfl) (hJ.get (i:=50) (j:=18) hr (by kernel_rfl) rfl) (hJ.get (i:=50) (j:=23) hr (by kernel_rfl) rfl) (hJ.get (i:=50) (j:=25) hr (by kernel_rfl) rfl) (hJ.get (i:=50) (j:=27) hr (by kernel_rfl) rfl) (hJ.get (i:=50) (j:=30) hr (by kernel_rfl) rfl) (hJ.get (i:=50) (j:=32) hr (by kernel_rfl) rfl) (hJ.get (i:=50) (j:=34) hr (by kernel_rfl) rfl) (hJ.get (i:=50) (j:=38) hr (by kernel_rfl) rfl) (hJ.get (i:=50) (j:=40) hr (by kernel_rfl) rfl) (hJ.get (i:=50) (j:=42) hr (by kernel_rfl) rfl) (hJ.get (i:=50) (j:=44) hr (by kernel_rfl) rfl) (hJ.get (i:=50) (j:=49) hr (by kernel_rfl) rfl) ho (fun v w' hs hb=>by rw [hd];exact hJ.step (i:=50) rfl hL hs hb)
 | 51,_=>exact zbx (d:=0) (by kernel_rfl) fun o ho hd=>zxx (d:=75) (s:=.rs W.heap.size zbs) (hJ.get (i:=51) (j:=50) hr (by kernel_rfl) rfl) ho (fun v w' hs hb=>by rw [hd];exact hJ.step (i:=51) rfl hL hs hb)
 | n+52,h=>omega
end
theorem zqn {W:World} {tmps:Array Value} {V:Value} {g:Nat} {ops:Array Oper} {Q:Exit->Act->World->Prop} {k:Int} {tx:ByteArray} {lo hi:Int} {a1:Option Addr} {n1 c1:Nat} {a2:Option Addr} {n2 c2:Nat} (hops:opsC=ops) (hsz:tmps.size=76) (h1:tmps.getD 1 undef=V) (h3:tmps.getD 3 undef=.pointer (some ⟨g,0,none⟩))
  (hV:(SP.k [rfT zbb,foT [97],foT [98],foT [99],foT [100],foT [101],foT [102]]).at W V) (hg:W.heap[g]?=some (.cells #[.int .i64 k,.string tx,.slice a1 n1 c1,.int .i64 lo,.int .i64 hi,.slice a2 n2 c2] 35 (0,0))) (hE:ETP W (fun _=>True) ⟨k,tx,.slice a1 n1 c1,lo,hi,.slice a2 n2 c2⟩ (alT [rfT nWsp,seT [rfT zgm,rfT nWsp]]))
  (hQ:∀ (tm:Array Value) (w:World) (v:Value) (ys:List RV),tm.getD 0 undef=v->zd0 w v ys zbs->(∃ g c,v=.slice (some ⟨g,0,none⟩) zbs.length c/\W.heap.size<=g)->Below W.heap.size W w->Q .normal ⟨tm,[]⟩ w):(Code.region 7 ops true).wp Tryz.prog Q ⟨tmps,[]⟩ W:=by
 subst hops
 have hm:Tryz.prog.follows .mixedOrders=true:=by kernel_rfl
 have hg2:g<W.heap.size:=(Array.getElem?_eq_some_iff.1 hg).1
 refine zng (JC W V g) hm ⟨hsz,rfl,⟨rfl,rfl,rfl,Nat.le_refl _,fun k _=>rfl⟩,h1,h3,fun i s hs hl=>?_⟩ (fun L a w i hL hJ hr=>?_) (fun L a w hL hJ hr=>?_)
 ·exfalso
  rw [Array.getD_eq_getD_getElem?,Array.getElem?_replicate] at hl
  split at hl<;>simp at hl
 ·have hi:=(zg6.1 hr).1
  rw [zpg] at hi hL
  exact qcn hV hg2 hg hE hL hJ hr hi
 ·have hl:=zu2 qap hL hr 51 (by rw [zpg];omega)
  obtain ⟨tm,df⟩:=a
  obtain ⟨j1,j2,j3,j4,j5,j6⟩:=hJ
  simp only at j2
  subst j2
  obtain ⟨ys,gn,cn,hv,hgn,hys⟩:=j6 51 (.rs W.heap.size zbs) rfl hl
  exact hQ _ _ _ ys rfl hys ⟨gn,cn,hv,hgn⟩ j3
theorem zxy {w:World}:Calls Tryz.prog 31 #[] w (fun e w'=>∃ v ys,e=.returned v/\zd0 w' v ys zbs/\(∃ g c,v=.slice (some ⟨g,0,none⟩) zbs.length c/\w.heap.size<=g)/\Below w.heap.size w w'):=by
 have hdig:zar zbb:=by unfold zar;decide
 have ed:(⟨#[100,105,103,105,116]⟩:ByteArray)=za3 zbb:=by kernel_rfl
 have HREF:=hh9 (fun (W:World) (S:ByteArray) (x:List Int) (hS:S=za3 x) (hx:zar x)=>zsd (w:=W) hS hx)
 have HED:=hh9 ed
 have HDIG:=hh9 hdig
 clear ed hdig
 go_enter Tryz.func31,Tryz.ntmps31
 go_wp2_with fail
 refine (HREF.out w _ _ HED.out HDIG.out).mono ?_
 rintro e w1 ⟨k,tx,lo,hi,a1,n1,c1,a2,n2,c2,rfl,hE1,hb1⟩
 have HB1:=hh9 hb1
 have HE1:=hh9 hE1
 have hrow:=row_of_block (base:=w.heap.size) (size:=6) (n:=1) hb1.size (heap_alloc_new w1 (.cells #[.int .i64 k,.string tx,.slice a1 n1 c1,.int .i64 lo,.int .i64 hi,.slice a2 n2 c2] 35)) (by unfold maxLen;omega) rfl
 have HROW0:=hh9 hrow
 have HBA:Hid (Below w1.heap.size w1 (w1.alloc (.cells #[.int .i64 k,.string tx,.slice a1 n1 c1,.int .i64 lo,.int .i64 hi,.slice a2 n2 c2] 35))):=(Below.refl _ _).alloc (Nat.le_refl _) _
 clear hb1 hE1 hrow
 go_wp2_with fail
 go_loopw [1,2] (fun s v wr=>∃ (i:Nat) (sa:Option Addr) (sc:Nat),s=.slice sa (i+1) sc/\v=.int .i64 (97+i)/\i<=6/\Hid (wr.ownsRow w.heap.size 35 6 (.slice sa (i+1) sc) (i+1) ((hexX ⟨k,tx,.slice a1 n1 c1,lo,hi,.slice a2 n2 c2⟩ i).flatMap XV.cells))/\Hid (Below w.heap.size w wr/\ETP wr (fun _=>True) ⟨k,tx,.slice a1 n1 c1,lo,hi,.slice a2 n2 c2⟩ (rfT zbb))) (fun _ v _=>(103-intOf v).toNat)
 case atStart=>exact ⟨0,_,_,rfl,rfl,by omega,HROW0,za0 HB1.out HBA.out,HE1.out.under HBA.out⟩
 case round =>
  obtain ⟨i,sa,sc,rfl,rfl,hi6,HROW,HBE⟩:=hrel
  by_cases hlt:i<6
  ·have q1:decide ((97:Int)+(i:Int)<103)=true:=decide_eq_true (by omega)
   have kc:=fun (W:World)=>zna W (97+(i:Int)) (by omega) (by omega)
   have hb3:Below wr.heap.size wr ((wr.alloc (.cells #[.int .u8 (97+(i:Int))] 5)).alloc (.cells #[.int .i64 5,.string (za3 [97+(i:Int)]),.slice none 0 0,.int .i64 0,.int .i64 0,.slice none 0 0] 35)):=((Below.refl _ _).alloc (Nat.le_refl _) _).alloc (by simp) _
   have HB3:=hh9 hb3
   have HROWB:=hh9 (show ((wr.alloc (.cells #[.int .u8 (97+(i:Int))] 5)).alloc (.cells #[.int .i64 5,.string (za3 [97+(i:Int)]),.slice none 0 0,.int .i64 0,.int .i64 0,.slice none 0 0] 35)).ownsRow w.heap.size 35 6 (.slice sa (i+1) sc) (hexX ⟨k,tx,.slice a1 n1 c1,lo,hi,.slice a2 n2 c2⟩ i).length ((hexX ⟨k,tx,.slice a1 n1 c1,lo,hi,.slice a2 n2 c2⟩ i).flatMap XV.cells) by rw [zja];exact zb3 HROW.out hb3)
   have hx:=heap_alloc_new (wr.alloc (.cells #[.int .u8 (97+(i:Int))] 5)) (.cells #[.int .i64 5,.string (za3 [97+(i:Int)]),.slice none 0 0,.int .i64 0,.int .i64 0,.slice none 0 0] 35)
   rw [World.size_alloc] at hx
   have HRA:=hh9 (zhf (X:=zql (97+(i:Int))) hx)
   have hwr:=HBE.out.1.size
   have hs3:((wr.alloc (.cells #[.int .u8 (97+(i:Int))] 5)).alloc (.cells #[.int .i64 5,.string (za3 [97+(i:Int)]),.slice none 0 0,.int .i64 0,.int .i64 0,.slice none 0 0] 35)).heap.size=wr.heap.size+2:=by simp
   have HONE:Hid (∀ u∈[zql (97+(i:Int))].flatMap XV.cells,u.oneCell'=true):=fun u hu=>by
    simp [XV.cells,zql] at hu
    rcases hu with rfl | rfl | rfl | rfl | rfl | rfl<;>rfl
   have HLE:Hid ((hexX ⟨k,tx,.slice a1 n1 c1,lo,hi,.slice a2 n2 c2⟩ i).length+[zql (97+(i:Int))].length<=100000000):=by unfold Hid;rw [zja];simp;omega
   have HS3:=hh9 hs3
   have hw8:wrap64 (97+(i:Int))=97+i:=by unfold wrap64;omega
   have hw9:IntKind.u8.wrap (97+(i:Int))=97+i:=by simp [IntKind.wrap,IntKind.signed,IntKind.bits];omega
   clear hb3 hx hs3
   go_wp2_with (at_builtin;go_loud (refine zfb rfl _ _ rfl w.heap.size _ _ (hexX ⟨k,tx,.slice a1 n1 c1,lo,hi,.slice a2 n2 c2⟩ i) [zql (97+(i:Int))] rfl rfl HROWB.out HRA.out (by simp) HONE.out HLE.out (by rw [HS3.out];omega) ?_);intro v4 w4 hown4 hgrow4 hat4;have HOWN4:=hh9 hown4;have HGROW4:Hid (World.grownBy _ w4 (Value.ownBlock (.slice sa (i+1) sc))):=hgrow4;clear hown4 hgrow4 hat4)
   have h4:w4.ownsRow w.heap.size 35 6 v4 (i+1+1) ((hexX ⟨k,tx,.slice a1 n1 c1,lo,hi,.slice a2 n2 c2⟩ (i+1)).flatMap XV.cells):=by
    have h:=HOWN4.out
    rw [<- zxt,zja] at h
    exact h
   obtain ⟨a4,c4,rfl⟩:=zbj h4
   have hob:=zcd HROWB.out
   refine ⟨⟨i+1,a4,c4,rfl,by go_num,by omega,h4,((HBE.out.1.trans (HB3.out.mono hwr)).grown HGROW4.out (by rw [HS3.out];omega) (fun b e=>by have:=hob b e;omega)),qdz HBE.out.2⟩,?_⟩
   simp [intOf]
   omega
  ·obtain rfl:i=6:=by omega
   have q1:decide ((97:Int)+((6:Nat):Int)<103)=false:=by decide
   have HK:=hh9 (qak (by omega) HBE.out.2 HROW.out)
   go_wp2_with fail
   have HEW:=hh9 (show (⟨#[119,115,112]⟩:ByteArray)=za3 nWsp by kernel_rfl)
   have HEC:=hh9 (show (⟨#[99,114,108,102]⟩:ByteArray)=za3 zgm by kernel_rfl)
   have HTW:Hid (zar nWsp):=(show zar nWsp by unfold zar;decide)
   have HTC:Hid (zar zgm):=(show zar zgm by unfold zar;decide)
   refine (HREF.out _ _ _ HEW.out HTW.out).mono ?_
   rintro e w5 ⟨k5,t5,l5,h5,a5,b5,c5,d5,e5,f5,rfl,hE5,hb5⟩
   have HB5:=hh9 hb5
   have HE5:=hh9 hE5
   clear hb5 hE5
   go_wp2_with fail
   refine (HREF.out _ _ _ HEC.out HTC.out).mono ?_
   rintro e w6 ⟨k6,t6,l6,h6,p1,p2,p3,p4,p5,p6,rfl,hE6,hb6⟩
   have HB6:=hh9 hb6
   have HE6:=hh9 hE6
   clear hb6 hE6
   go_wp2_with fail
   refine (HREF.out _ _ _ HEW.out HTW.out).mono ?_
   rintro e w7 ⟨k7,t7,l7,h7,r1,r2,r3,r4,r5,r6,rfl,hE7,hb7⟩
   have HB7:=hh9 hb7
   have HE7:=hh9 hE7
   clear hb7 hE7
   have HKA:=hh9 (zni w7 ⟨k6,t6,.slice p1 p2 p3,l6,h6,.slice p4 p5 p6⟩ ⟨k7,t7,.slice r1 r2 r3,l7,h7,.slice r4 r5 r6⟩ ((HE6.out).under HB7.out) HE7.out)
   have hkb:=(zni (w7.alloc (.cells (two5 ⟨k6,t6,.slice p1 p2 p3,l6,h6,.slice p4 p5 p6⟩ ⟨k7,t7,.slice r1 r2 r3,l7,h7,.slice r4 r5 r6⟩) 35)) ⟨k5,t5,.slice a5 b5 c5,l5,h5,.slice d5 e5 f5⟩ _ (((HE5.out.under HB6.out).under HB7.out).under ((Below.refl _ _).alloc (Nat.le_refl _) _)) (HKA.out.tree 2 0 0))
   rw [World.size_alloc] at hkb
   simp only [two5] at hkb
   have HKB:=hh9 hkb
   clear hkb
   go_wp2_with fail
   have HRES:=fun (W:World)=>hh9 (zav W)
   refine (zpe HKB.out).mono ?_
   rintro e w8 ⟨k8,t8,l8,h8,x1,x2,x3,x4,x5,x6,rfl,hE8,hb8⟩
   have HB8:=hh9 hb8
   have HE8:=hh9 hE8
   clear hb8 hE8
   go_wp2_with (refine za6 rfl _ _ rfl w8.heap.size ⟨k8,t8,.slice x1 x2 x3,l8,h8,.slice x4 x5 x6⟩ rfl rfl (HRES w8).out rfl rfl ?_)
   have hkeep:Below w8.heap.size w8 ((w8.alloc (.cells #[.int .i64 0,.string ⟨#[]⟩,.slice none 0 0,.int .i64 0,.int .i64 0,.slice none 0 0] 35)).setRow w8.heap.size (XV.arr ⟨k8,t8,.slice x1 x2 x3,l8,h8,.slice x4 x5 x6⟩)):=zhn (Nat.le_refl _) ((Below.refl _ _).alloc (Nat.le_refl _) _) _
   have hbw:Below wr.heap.size wr w8:=za0 (za0 (za0 (za0 HB5.out HB6.out) HB7.out) (((Below.refl w7.heap.size w7).alloc (Nat.le_refl _) _).alloc (by simp) _)) HB8.out
   have hV:(SP.k [rfT zbb,foT [97],foT [98],foT [99],foT [100],foT [101],foT [102]]).at ((w8.alloc (.cells #[.int .i64 0,.string ⟨#[]⟩,.slice none 0 0,.int .i64 0,.int .i64 0,.slice none 0 0] 35)).setRow w8.heap.size (XV.arr ⟨k8,t8,.slice x1 x2 x3,l8,h8,.slice x4 x5 x6⟩)) (.slice sa 7 sc):=⟨sa,sc,_,rfl,(HK.out.under hbw).under hkeep⟩
   have hg8:=zdn (HRES w8).out (XV.arr ⟨k8,t8,.slice x1 x2 x3,l8,h8,.slice x4 x5 x6⟩)
   have HQ:=hh9 (show Below w.heap.size w w8 from za0 HBE.out.1 hbw)
   refine zqn (V:=.slice sa 7 sc) (g:=w8.heap.size) (by kernel_rfl) rfl rfl rfl hV hg8 (HE8.out.under hkeep) ?_
   intro tm w9 v ys hv hr hnew hb
   have hnew2:∃ g c,v=.slice (some ⟨g,0,none⟩) zbs.length c/\w.heap.size<=g:=by
    obtain ⟨gn,cn,e,hg⟩:=hnew
    exact ⟨gn,cn,e,Nat.le_trans (Nat.le_trans HQ.out.size hkeep.size) hg⟩
   have hres:(results Tryz.f31 tm).run Tryz.prog w9=.ok v w9:=by
    have hf:Tryz.f31.results=#[.tmp 0]:=by kernel_rfl
    subst hv
    simp [results,hf]
   refine (by assumption:∀ (a:Act) (w:World),Code.wp Tryz.prog Code.ret _ a w->_) _ _ ?_
   have hend:∃ v' ys,Ending.returned v=.returned v'/\zd0 w9 v' ys zbs/\(∃ g c,v'=.slice (some ⟨g,0,none⟩) zbs.length c/\w.heap.size<=g)/\Below w.heap.size w w9:=⟨v,ys,rfl,hr,hnew2,za0 HQ.out (za0 hkeep hb)⟩
   have h:=bodyPost_ret_by (P:=Tryz.prog) (fn:=Tryz.f31) (R:=fun e w'=>∃ v ys,e=.returned v/\zd0 w' v ys zbs/\(∃ g c,v=.slice (some ⟨g,0,none⟩) zbs.length c/\w.heap.size<=g)/\Below w.heap.size w w') (a:=⟨tm,[]⟩) hres rfl hend
   exact wp_ret h
def zit (W:World) (a:Option Addr) (ns:List (List Int)) (v:Value):Prop:=0<ns.length->∃ gN,a=some ⟨gN,0,none⟩/\gN<W.heap.size/\v.ownBlock≠some gN/\∀ (q:Nat) (u:Value),(zbr ns)[q]?=some u->W.cell? ⟨gN,q,none⟩=some u
theorem zit.below {W W':World} {a:Option Addr} {ns:List (List Int)} {v:Value} (h:zit W a ns v) (hb:Below W.heap.size W W'):zit W' a ns v:=fun h0=>by
 obtain ⟨g,e,h1,h2,h3⟩:=h h0
 exact ⟨g,e,Nat.lt_of_lt_of_le h1 hb.size,h2,fun q u hq=>(hb.cell (p:=⟨g,q,none⟩) h1).trans (h3 q u hq)⟩
theorem zit.push {W W':World} {a:Option Addr} {ns:List (List Int)} {v v':Value} (h:zit W a ns v) (hg:W.grownBy W' v.ownBlock) (hat:v'.ownBlock=v.ownBlock\/v'.ownBlock=some W.heap.size):zit W' a ns v':=fun h0=>by
 obtain ⟨g,e,h1,h2,h3⟩:=h h0
 refine ⟨g,e,Nat.lt_of_lt_of_le h1 hg.size,fun e2=>?_,fun q u hq=>(World.cell?_of_block (a:=⟨g,q,none⟩) (hg.block g h1 (Ne.symm h2))).trans (h3 q u hq)⟩
 rcases hat with e3 | e3
 ·exact h2 (e3.symm.trans e2)
 ·rw [e3] at e2
  have:=Option.some.inj e2
  omega
theorem zit.start {W W':World} {base k:Nat} {nv v:Value} {ns:List (List Int)} {xs:List Value} (hr:W'.ownsRow W.heap.size 9 1 nv ns.length (zbr ns)) (hv:W.ownsRow base 9 1 v k xs):∃ a c,nv=.slice a ns.length c/\zit W' a ns v:=by
 rcases zan hr with ⟨rfl,h0⟩ | ⟨g,cap,rfl⟩
 ·exact ⟨none,0,by rw [h0],fun h=>by omega⟩
 ·obtain ⟨h1,_,_,h4⟩:=zb0 hr
  refine ⟨_,_,rfl,fun _=>⟨g,rfl,h4,fun e=>?_,fun q u hq=>by simpa using zaq hr hq⟩⟩
  obtain ⟨cur,hc⟩:=zbk hv e
  have:=(Array.getElem?_eq_some_iff.1 hc).1
  omega
structure RI (w:World) (g:List GR) (wr:World) (s:Value) (out:List (List Int)):Prop where
 row:wr.ownsRow w.heap.size 9 1 s out.length (zbr out)
 bel:Below w.heap.size w wr
 ok:∀ y∈out,zar y
 few:out.length+zir (zbo g) out<=1000001
theorem RI.below {w wr W:World} {g:List GR} {s:Value} {out:List (List Int)} (h:RI w g wr s out) (hb:Below wr.heap.size wr W):RI w g W s out:=⟨zb3 h.row hb,za0 h.bel hb,h.ok,h.few⟩
theorem RI.len {w wr:World} {g:List GR} {s:Value} {out:List (List Int)} (h:RI w g wr s out):out.length<=1000001:=by have:=h.few;omega
theorem ETree.named {W:World} {X:XV} {t:Tree} (h:ETree W X t):∀ y∈zai t,zar y:=by
 induction h with
 | @mk k lo hi ns ks tx nums kids vs h0 hl0 h1 h2 h3 h4 ih =>
  intro y hy
  rw [zdt] at hy
  rcases List.mem_append.1 hy with hy | hy
  ·split at hy
   ·simp at hy
    subst hy
    exact ⟨h0,hl0⟩
   ·cases hy
  ·obtain ⟨l,hl,hy⟩:=List.mem_flatten.1 hy
   obtain ⟨t,ht,rfl⟩:=List.mem_map.1 hl
   obtain ⟨i,hi⟩:=List.getElem?_of_mem ht
   have hlt:=(List.getElem?_eq_some_iff.1 hi).1
   exact ih i (vs[i]'(by rw [h3];exact hlt)) t (List.getElem?_eq_getElem _) hi y hy
def RowQ (W:World) (P:Nat->Prop) (v:Value) (n:Nat) (xs:List Value):Prop :=
 (n=0/\∃ a cap,v=.slice a 0 cap)\/∃ g off cap,v=.slice (some ⟨g,off,none⟩) n cap/\n<=cap/\cap<=maxLen/\g<W.heap.size/\P g/\∀ (j:Nat) (u:Value),xs[j]?=some u->W.cell? ⟨g,off+j,none⟩=some u
theorem RowQ.any {W:World} {P:Nat->Prop} {v:Value} {n:Nat} {xs:List Value} (h:RowQ W P v n xs):RowAny W v n xs:=by
 rcases h with h | ⟨g,off,cap,h1,h2,h3,h4,_,h5⟩
 ·exact .inl h
 ·exact .inr ⟨g,off,cap,h1,h2,h3,h4,h5⟩
theorem RowQ.of {W:World} {P:Nat->Prop} {v:Value} {n:Nat} {xs:List Value} (h:RowAny W v n xs) (hP:∀ b,b<W.heap.size->P b):RowQ W P v n xs:=by
 rcases h with h | ⟨g,off,cap,h1,h2,h3,h4,h5⟩
 ·exact .inl h
 ·exact .inr ⟨g,off,cap,h1,h2,h3,h4,hP g h4,h5⟩
def ziq (W W':World) (P P':Nat->Prop):Prop:=W.heap.size<=W'.heap.size/\∀ b,P b->b<W.heap.size->W'.heap[b]?=W.heap[b]?/\P' b
theorem RowQ.kept {W W':World} {P P':Nat->Prop} {v:Value} {n:Nat} {xs:List Value} (h:RowQ W P v n xs) (hk:ziq W W' P P'):RowQ W' P' v n xs:=by
 rcases h with h | ⟨g,off,cap,h1,h2,h3,h4,hP,h5⟩
 ·exact .inl h
 ·exact .inr ⟨g,off,cap,h1,h2,h3,Nat.lt_of_lt_of_le h4 hk.1,(hk.2 g hP h4).2,fun j u hj=>(World.cell?_of_block (a:=⟨g,off+j,none⟩) (hk.2 g hP h4).1).trans (h5 j u hj)⟩
inductive ETQ (W:World) (P:Nat->Prop):XV->Tree->Prop
 | mk {k lo hi:Int} {ns ks:Value} {x nums:List Int} {kids:List Tree} (vs:List XV) :
   (∀ c∈x,0<=c/\c<=255)->x.length<=9223372036854775807->RowQ W P ns nums.length (zat nums)->RowQ W P ks kids.length (vs.flatMap XV.cells)->vs.length=kids.length ->
   (∀ (i:Nat) (y:XV) (t:Tree),vs[i]?=some y->kids[i]?=some t->ETQ W P y t)->ETQ W P ⟨k,za3 x,ns,lo,hi,ks⟩ (.mk k x nums lo hi kids)
theorem ETQ.any {W:World} {P:Nat->Prop} {X:XV} {t:Tree} (h:ETQ W P X t):ETree W X t:=by
 induction h with
 | mk vs h0 hl h1 h2 h3 _ ih=>exact .mk vs h0 hl h1.any h2.any h3 ih
theorem ETQ.of {W:World} {P:Nat->Prop} {X:XV} {t:Tree} (h:ETree W X t) (hP:∀ b,b<W.heap.size->P b):ETQ W P X t:=by
 induction h with
 | mk vs h0 hl h1 h2 h3 _ ih=>exact .mk vs h0 hl (RowQ.of h1 hP) (RowQ.of h2 hP) h3 ih
theorem ETQ.kept {W W':World} {P P':Nat->Prop} {X:XV} {t:Tree} (h:ETQ W P X t) (hk:ziq W W' P P'):ETQ W' P' X t:=by
 induction h with
 | mk vs h0 hl h1 h2 h3 _ ih=>exact .mk vs h0 hl (h1.kept hk) (h2.kept hk) h3 ih
theorem RowQ.one {W:World} {P:Nat->Prop} {v:Value} {n:Nat} {xs:List Value} (h:RowQ W P v n xs):∃ a c,v=.slice a n c:=by
 rcases h with ⟨rfl,a,c,rfl⟩ | ⟨g,off,cap,rfl,_⟩
 ·exact ⟨_,_,rfl⟩
 ·exact ⟨_,_,rfl⟩
theorem ETQ.forms {W:World} {P:Nat->Prop} {X:XV} {t:Tree} (h:ETQ W P X t):∃ k tx lo hi a1 n1 c1 a2 n2 c2,X=⟨k,tx,.slice a1 n1 c1,lo,hi,.slice a2 n2 c2⟩:=by
 cases h with
 | mk vs h0 hl h1 h2 h3 h4 =>
  obtain ⟨a1,c1,rfl⟩:=h1.one
  obtain ⟨a2,c2,rfl⟩:=h2.one
  exact ⟨_,_,_,_,_,_,_,_,_,_,rfl⟩
theorem ETQ.alts {W:World} {P:Nat->Prop} {X:XV} {t:Tree} (h:ETQ W P X t) (hp:0<(zbt t).length) :
  ∃ vs:List XV,vs.length=(zbt t).length/\(∀ (i:Nat) (y:XV) (u:Tree),vs[i]?=some y->(zbt t)[i]?=some u->ETQ W P y u)/\((X.kind=1/\RowAny W X.ks vs.length (vs.flatMap XV.cells))\/(X.kind≠1/\vs=[X])):=by
 have h':=h
 cases h with
 | @mk k lo hi ns ks x nums kids vs h0 hl h1 h2 h3 h4 =>
  by_cases hk:k=1
  ·have e:zbt (.mk k x nums lo hi kids)=kids:=by rw [zi9,if_pos hk]
   exact ⟨vs,by rw [e];exact h3,fun i y u hy hu=>h4 i y u hy (by rwa [e] at hu),.inl ⟨hk,by rw [h3];exact h2.any⟩⟩
  ·have e:zbt (.mk k x nums lo hi kids)=[.mk k x nums lo hi kids]:=by rw [zi9,if_neg hk]
   refine ⟨[_],by rw [e];rfl,fun i y u hy hu=>?_,.inr ⟨hk,rfl⟩⟩
   rw [e] at hu
   cases i with
   | zero =>
    simp at hy hu
    subst hy hu
    exact h'
   | succ i=>simp at hy
theorem zxz {W:World} {P:Nat->Prop} {vs:List XV} {ts:List Tree} (hl:vs.length=ts.length) (h:∀ (i:Nat) (y:XV) (u:Tree),vs[i]?=some y->ts[i]?=some u->ETQ W P y u):∀ u∈vs.flatMap XV.cells,u.oneCell'=true:=by
 intro u hu
 obtain ⟨y,hy,hu⟩:=List.mem_flatMap.1 hu
 obtain ⟨i,hi⟩:=List.getElem?_of_mem hy
 have hlt:=(List.getElem?_eq_some_iff.1 hi).1
 obtain ⟨k,tx,lo,hi',a1,n1,c1,a2,n2,c2,rfl⟩:=(h i y (ts[i]'(by omega)) hi (List.getElem?_eq_getElem _)).forms
 simp [XV.cells] at hu
 rcases hu with rfl | rfl | rfl | rfl | rfl | rfl<;>rfl
structure D5 (w wr:World) (v:Value) (ys:List RV) (g:List GR):Prop where
 row:wr.ownsRow w.heap.size 39 7 v g.length (ys.flatMap RV.cells)
 len:ys.length=g.length
 each:∀ (i:Nat) (y:RV) (r:GR),ys[i]?=some y->g[i]?=some r->y.name=za3 r.name/\zar r.name/\ETQ wr (fun b=>some b≠v.ownBlock) y.expr r.expr
 bel:Below w.heap.size w wr
theorem D5.rules {w wr:World} {v:Value} {ys:List RV} {g:List GR} (h:D5 w wr v ys g):zdg wr v ys g:=⟨zcr h.row,h.len,fun i y r hy hr=>⟨(h.each i y r hy hr).1,(h.each i y r hy hr).2.1,(h.each i y r hy hr).2.2.any⟩⟩
theorem D5.below {w wr W:World} {v:Value} {ys:List RV} {g:List GR} (h:D5 w wr v ys g) (hb:Below wr.heap.size wr W):D5 w W v ys g :=
 ⟨zb3 h.row hb,h.len,fun i y r hy hr=>⟨(h.each i y r hy hr).1,(h.each i y r hy hr).2.1,(h.each i y r hy hr).2.2.kept ⟨hb.size,fun b hp hl=>⟨hb.block b hl,hp⟩⟩⟩,za0 h.bel hb⟩
theorem D5.start (w:World):D5 w w (.slice none 0 0) [] []:=⟨World.ownsRow_nil _ _ _ _,rfl,fun i y r hy=>by simp at hy,Below.refl _ _⟩
theorem D5.push {w W w':World} {v v':Value} {ys:List RV} {g:List GR} {y:RV} {r:GR} (h:D5 w W v ys g) (hown:w'.ownsRow w.heap.size 39 7 v' (g++[r]).length ((ys++[y]).flatMap RV.cells)) (hg:W.grownBy w' v.ownBlock) (hat:v'.ownBlock=v.ownBlock\/v'.ownBlock=some W.heap.size)
  (hy:y.name=za3 r.name) (hto:zar r.name) (hE:ETQ W (fun b=>some b≠v.ownBlock) y.expr r.expr):D5 w w' v' (ys++[y]) (g++[r]):=by
 have hk:ziq W w' (fun b=>some b≠v.ownBlock) (fun b=>some b≠v'.ownBlock):=⟨hg.size,fun b hp hl=>⟨hg.block b hl hp,fun e=>by
  rcases hat with h1 | h1
  ·exact hp (e.trans h1)
  ·have:=Option.some.inj (e.trans h1)
   omega⟩⟩
 refine ⟨hown,by simp [h.len],fun i z u hz hu=>?_,h.bel.grown hg h.bel.size (zcd h.row)⟩
 by_cases hi:i<g.length
 ·rw [List.getElem?_append_left (by rw [h.len];exact hi)] at hz
  rw [List.getElem?_append_left hi] at hu
  obtain ⟨a,b,c⟩:=h.each i z u hz hu
  exact ⟨a,b,c.kept hk⟩
 ·have hl:=h.len
  have hi2:=(List.getElem?_eq_some_iff.1 hu).1
  simp at hi2
  obtain rfl:i=g.length:=by omega
  rw [List.getElem?_append_right (Nat.le_refl _)] at hu
  rw [List.getElem?_append_right (by omega)] at hz
  simp [hl] at hz hu
  subst hz hu
  exact ⟨hy,hto,hE.kept hk⟩
theorem D5.store {w W:World} {gr cap i n:Nat} {ys:List RV} {g:List GR} {y:RV} {r:GR} {x:XV} {t:Tree} (hn:n=g.length) (h:D5 w W (.slice (some ⟨gr,0,none⟩) n cap) ys g) (hy:ys[i]?=some y) (hr:g[i]?=some r) (hE:ETQ W (fun b=>some b≠some gr) x t) :
  D5 w (set6 W gr (i*7+1) x) (.slice (some ⟨gr,0,none⟩) n cap) (ys.set i ⟨y.name,x⟩) (g.set i ⟨r.name,t⟩):=by
 subst hn
 have hk:ziq W (set6 W gr (i*7+1) x) (fun b=>some b≠some gr) (fun b=>some b≠some gr):=⟨(zed _ _ _ _).size,fun b hp hl=>⟨(zed _ _ _ _).block b hl hp,hp⟩⟩
 refine ⟨?_,by simpa using h.len,fun q z u hz hu=>?_,h.bel.grown (zed _ _ _ _) h.bel.size (zcd h.row)⟩
 ·have h6:=zbe (zbe (zbe (zbe (zbe (zbe h.row (i*7+1) (.int .i64 x.kind)) (i*7+1+1) (.string x.text)) (i*7+1+2) x.ns) (i*7+1+3) (.int .i64 x.lo)) (i*7+1+4) (.int .i64 x.hi)) (i*7+1+5) x.ks
  rw [zlz ys i y x hy] at h6
  rw [List.length_set]
  exact h6
 ·by_cases hq:q=i
  ·subst hq
   rw [List.getElem?_set_self (List.getElem?_eq_some_iff.1 hy).1] at hz
   rw [List.getElem?_set_self (List.getElem?_eq_some_iff.1 hr).1] at hu
   have e1:=Option.some.inj hz
   have e2:=Option.some.inj hu
   subst e1 e2
   obtain ⟨a,b,_⟩:=h.each q y r hy hr
   exact ⟨a,b,hE.kept hk⟩
  ·rw [List.getElem?_set_ne (Ne.symm hq)] at hz hu
   obtain ⟨a,b,c⟩:=h.each q z u hz hu
   exact ⟨a,b,c.kept hk⟩
theorem ETQ.merged {W w':World} {P:Nat->Prop} {base n:Nat} {v:Value} {vs1 vs2:List XV} {t1 t2:Tree} (hP:∀ b,base<=b->P b) (h1:vs1.length=(zbt t1).length) (h2:vs2.length=(zbt t2).length) (hk:ziq W w' P P)
  (e1:∀ (i:Nat) (y:XV) (u:Tree),vs1[i]?=some y->(zbt t1)[i]?=some u->ETQ W P y u) (e2:∀ (i:Nat) (y:XV) (u:Tree),vs2[i]?=some y->(zbt t2)[i]?=some u->ETQ W P y u)
  (hown:w'.ownsRow base 35 6 v (vs1++vs2).length ((vs1++vs2).flatMap XV.cells)):ETQ w' P ⟨1,⟨#[]⟩,.slice none 0 0,0,0,v⟩ (zeh t1 t2):=by
 refine ETQ.mk (x:=[]) (nums:=[]) (vs1++vs2) (by simp) (by simp) (.inl ⟨rfl,_,_,rfl⟩) ?_ (by simp [h1,h2]) (fun i y u hy hu=>?_)
 ·have hl:(zbt t1++zbt t2).length=(vs1++vs2).length:=by simp [h1,h2]
  rw [hl]
  rcases zan hown with ⟨rfl,h0⟩ | ⟨g,cap,rfl⟩
  ·rw [h0]
   exact .inl ⟨rfl,_,_,rfl⟩
  ·obtain ⟨q1,q2,q3,q4⟩:=zb0 hown
   exact .inr ⟨g,0,cap,rfl,q2,q3,q4,hP g q1,fun j u hj=>by rw [Nat.zero_add];exact zaq hown hj⟩
 ·by_cases hi:i<vs1.length
  ·rw [List.getElem?_append_left hi] at hy
   rw [List.getElem?_append_left (by omega)] at hu
   exact (e1 i y u hy hu).kept hk
  ·rw [List.getElem?_append_right (by omega)] at hy
   rw [List.getElem?_append_right (by omega),<- h1] at hu
   exact (e2 _ y u hy hu).kept hk
end Go.Proofs.YtekjnfldgjcgeaaGreatDoor
