/- Part 14 of what the laws of the grammar rest on. -/
import Derived.Test.YtekjnfldgjcgeaaGreatDoorA0
import Derived.Test.YtekjnfldgjcgeaaGreatDoorA7
import Derived.Test.YtekjnfldgjcgeaaGreatDoorA9
import Derived.Test.YtekjnfldgjcgeaaGreatDoorA10
import Derived.Test.YtekjnfldgjcgeaaGreatDoorA13
import Derived.Maps.AppendAt
import Derived.BigQuiet
import Derived.Deep.QuietTactic
import Derived.WalkMore
set_option linter.all false
set_option maxRecDepth 100000
set_option maxHeartbeats 8000000
namespace Go.Proofs.YtekjnfldgjcgeaaGreatDoor
open Go.RowKit
def InB8 (X:List Int):Prop:=∀ c∈X,0<=c/\c<=255
instance (X:List Int):Decidable (InB8 X):=by unfold InB8;infer_instance
theorem qbz {X:List Int} (hX:InB8 X):Has (rd (za3 X)) 0 X:=fun i c hc=>by
 rw [Nat.zero_add]
 obtain ⟨hi,rfl⟩:=List.getElem?_eq_some_iff.1 hc
 rw [zes (by rw [za9];exact hi)]
 have:=hX X[i] (List.getElem_mem hi)
 show (((X.map byt).toArray[i]'(by simpa using hi)).toNat:Int)=X[i]
 simp [byt]
 omega
theorem qc1 (X:List Int):rd (za3 X) (0+X.length)<0:=by
 rw [zrd,za9]
 omega
theorem zk7 {l:List Rule} (h1:zl4 l=true) (hl:l.length<=500) (hb:InB8 ((l.map zb9).flatten)) (hs:((l.map zb9).flatten).length<=49000) {r:Got (List Rule)} (ha:zeo (za3 ((l.map zb9).flatten)) r):∃ q,r=.ok l q:=by
 unfold zeo at ha
 rw [if_neg (by rw [za9];omega)] at ha
 have:=zld l [] 0 h1 (by simp;omega) (qbz hb) (qc1 _)
 exact ⟨_,ha.one _ (by simpa using this)⟩
def zi1:List Rule:=zbs.map fun r=>⟨r.name,false,r.expr⟩
def zvv:List Int:=(zi1.map zb9).flatten
theorem zt8:zl4 zi1=true:=by decide +kernel
theorem zt9:InB8 zvv:=by decide +kernel
theorem zoa:zvv.length<=49000:=by decide +kernel
theorem zz8:zi1.length<=500:=by decide +kernel
theorem zq3 {r:Got (List Rule)} (h:zeo (za3 zvv) r):∃ q,r=.ok zi1 q:=by
 have h1:=zt8
 have h2:=zz8
 have h3:=zt9
 have h4:=zoa
 unfold zvv at h h3 h4
 revert h h1 h2 h3 h4
 generalize zi1=l
 intro h h1 h2 h3 h4
 exact zk7 h1 h2 h3 h4 h
def At (w:World) (R:Nat) (s:ByteArray) (p d:Nat):Prop:=w.heap[R]?=some (.cells #[.string s,.int .i64 p,.int .i64 d] 130 (0,0))
theorem At.lt {w:World} {R:Nat} {s:ByteArray} {p d:Nat} (h:At w R s p d):R<w.heap.size:=(Array.getElem?_eq_some_iff.1 h).1
theorem At.cells {w:World} {R:Nat} {s:ByteArray} {p d:Nat} (h:At w R s p d):w.cell? ⟨R,0,none⟩=some (.string s)/\w.cell? ⟨R,1,none⟩=some (.int .i64 p)/\w.cell? ⟨R,2,none⟩=some (.int .i64 d) /\
  w.frozen? ⟨R,0,none⟩=false/\w.frozen? ⟨R,1,none⟩=false/\w.frozen? ⟨R,2,none⟩=false:=by
 unfold At at h
 simp [World.cell?,World.frozen?,h]
theorem At.drew {w:World} {R:Nat} {s:ByteArray} {p d:Nat} (h:At w R s p d) (n:Nat):At (w.drewN n) R s p d:=h
theorem At.kept {w w':World} {R:Nat} {row:Option Nat} {s:ByteArray} {p d:Nat} (h:At w R s p d) (hg:w.grownBy w' row) (hr:some R≠row):At w' R s p d:=(hg.block R h.lt hr).trans h
theorem At.alloc {w:World} {R:Nat} {s:ByteArray} {p d:Nat} (h:At w R s p d) (o:Obj):At (w.alloc o) R s p d:=h.kept (World.grownBy_alloc w o none) (by simp)
theorem At.set {w:World} {R:Nat} {s:ByteArray} {p d:Nat} (h:At w R s p d) (q:Nat):At (w.setCell ⟨R,1,none⟩ (.int .i64 q)) R s q d:=by
 unfold At at h ⊢
 unfold World.setCell
 simp only [Array.getElem?_modify,h]
 simp
theorem At.setd {w:World} {R:Nat} {s:ByteArray} {p d:Nat} (h:At w R s p d) (q:Nat):At (w.setCell ⟨R,2,none⟩ (.int .i64 q)) R s p q:=by
 unfold At at h ⊢
 unfold World.setCell
 simp only [Array.getElem?_modify,h]
 simp
def zob (R:Nat) (s:ByteArray) (d:Nat) (v:Value) (q:Nat) (w:World) (e:Ending) (w':World):Prop:=e=.returned v/\At w' R s q d/\w.grownBy w' (some R)
def zq4 (R:Nat) (c:Int) (w:World) (e:Ending) (w':World):Prop:=e=.panicked [{ v:=.iface 127 (.agg #[.int .i64 c]),recovered:=false }]/\w.grownBy w' (some R)
theorem zco (c:Int) (w:World):Calls Tryz.prog 134 #[.int .u8 c] w (zd3 (isBl c) w):=by
 by_cases h1:c=32
 ·subst h1
  go_enter Tryz.func134,Tryz.ntmps134
  go_wp2
  go_ret
  exact ⟨rfl,rfl⟩
 ·have e1:(c==32)=false:=by simpa using h1
  by_cases h2:c=9
  ·subst h2
   go_enter Tryz.func134,Tryz.ntmps134
   go_wp2
   go_ret
   exact ⟨rfl,rfl⟩
  ·have e2:(c==9)=false:=by simpa using h2
   have hb:isBl c=false:=by unfold isBl;rw [e1,e2];rfl
   rw [hb]
   clear hb
   go_enter Tryz.func134,Tryz.ntmps134
   go_wp2
   go_ret
   exact ⟨rfl,rfl⟩
theorem zaw (c:Int) (w:World):Calls Tryz.prog 110 #[.int .u8 c] w (zd3 (isAl c) w):=by
 have hu:isAl c=((decide (97<=c)&&decide (c<=122))||(decide (65<=c)&&decide (c<=90))):=rfl
 by_cases h1:97<=c<;>by_cases h2:c<=122<;>by_cases h3:65<=c<;>by_cases h4:c<=90
 all_goals try (exfalso;omega)
 all_goals
  simp only [h1,h2,h3,h4,decide_true,decide_false,Bool.and_true,Bool.and_false,Bool.or_true,Bool.or_false,Bool.and_self,Bool.or_self] at hu
  rw [hu]
  clear hu
  go_enter Tryz.func110,Tryz.ntmps110
  go_wp2
  go_ret
  exact ⟨rfl,rfl⟩
theorem zoc (c:Int) (h0:0<=c) (h1:c<=255) (w:World):Calls Tryz.prog 184 #[.int .u8 c] w (SaysI (dig c) w):=by
 by_cases a:48<=c/\c<=57
 ·have hd:dig c=c-48:=by unfold dig;rw [if_pos a]
  obtain ⟨a1,a2⟩:=a
  rw [hd]
  clear hd
  go_enter Tryz.func184,Tryz.ntmps184
  go_wp2
  go_ret
  exact ⟨rfl,rfl⟩
 ·by_cases b:97<=c/\c<=102
  ·have hd:dig c=c-97+10:=by unfold dig;rw [if_neg a,if_pos b];omega
   obtain ⟨b1,b2⟩:=b
   rw [hd]
   clear hd
   have a2:¬ c<=57:=by omega
   clear a
   go_enter Tryz.func184,Tryz.ntmps184
   go_wp2
   all_goals go_ret
   all_goals exact ⟨rfl,rfl⟩
  ·by_cases d:65<=c/\c<=70
   ·have hd:dig c=c-65+10:=by unfold dig;rw [if_neg a,if_neg b,if_pos d];omega
    obtain ⟨d1,d2⟩:=d
    rw [hd]
    clear hd
    have a2:¬ c<=57:=by omega
    have b2:¬ 97<=c:=by omega
    clear a b
    go_enter Tryz.func184,Tryz.ntmps184
    go_wp2
    all_goals go_ret
    all_goals exact ⟨rfl,rfl⟩
   ·have hd:dig c=16:=by unfold dig;rw [if_neg a,if_neg b,if_neg d]
    rw [hd]
    clear hd
    by_cases h1:48<=c<;>by_cases h2:c<=57<;>by_cases h3:97<=c<;>by_cases h4:c<=102<;>by_cases h5:65<=c<;>by_cases h6:c<=70
    all_goals try (exfalso;omega)
    all_goals
     clear a b d
     go_enter Tryz.func184,Tryz.ntmps184
     go_wp2
     all_goals go_ret
     all_goals exact ⟨rfl,rfl⟩
theorem zdp (c b:Int) (h0:0<=c) (h1:c<=255) (w:World):Calls Tryz.prog 181 #[.int .u8 c,.int .i64 b] w (zd3 (isDg b c) w):=by
 go_enter Tryz.func181,Tryz.ntmps181
 go_wp2_with fail
 refine (zoc c h0 h1 _).mono ?_
 rintro e w' ⟨rfl,rfl⟩
 go_wp2
 go_ret
 exact ⟨rfl,rfl⟩
theorem zbh (c:Int) (h0:0<=c) (h1:c<=255) (w:World):Calls Tryz.prog 172 #[.int .u8 c] w (zd3 (isDc c) w):=by
 rw [<- zj1]
 go_enter Tryz.func172,Tryz.ntmps172
 go_wp2_with fail
 refine (zdp c 10 h0 h1 _).mono ?_
 rintro e w' ⟨rfl,rfl⟩
 go_wp2
 go_ret
 exact ⟨rfl,rfl⟩
theorem zri (c:Int) (h0:0<=c) (h1:c<=255) (w:World):Calls Tryz.prog 158 #[.int .u8 c] w (zd3 (isNm c) w):=by
 have hu:isNm c=(isAl c||isDc c||c==45):=rfl
 rw [hu]
 cases ha:isAl c
 ·cases hd:isDc c
  ·by_cases h45:c=45
   ·subst h45
    clear ha hd hu
    go_enter Tryz.func158,Tryz.ntmps158
    go_wp2_with fail
    refine (zaw _ _).mono ?_
    rw [show isAl 45=false by decide]
    rintro e w' ⟨rfl,rfl⟩
    go_wp2_with fail
    refine (zbh _ (by omega) (by omega) _).mono ?_
    rw [show isDc 45=false by decide]
    rintro e w' ⟨rfl,rfl⟩
    go_wp2
    go_ret
    exact ⟨rfl,rfl⟩
   ·have e1:(c==45)=false:=by simpa using h45
    have HA:=hh9 ha
    have HD:=hh9 hd
    clear ha hd hu
    rw [e1]
    go_enter Tryz.func158,Tryz.ntmps158
    go_wp2_with fail
    refine (zaw _ _).mono ?_
    rw [HA.out]
    rintro e w' ⟨rfl,rfl⟩
    go_wp2_with fail
    refine (zbh _ h0 h1 _).mono ?_
    rw [HD.out]
    rintro e w' ⟨rfl,rfl⟩
    go_wp2
    go_ret
    exact ⟨rfl,rfl⟩
  ·have HA:=hh9 ha
   have HD:=hh9 hd
   clear ha hd hu
   go_enter Tryz.func158,Tryz.ntmps158
   go_wp2_with fail
   refine (zaw _ _).mono ?_
   rw [HA.out]
   rintro e w' ⟨rfl,rfl⟩
   go_wp2_with fail
   refine (zbh _ h0 h1 _).mono ?_
   rw [HD.out]
   rintro e w' ⟨rfl,rfl⟩
   go_wp2
   go_ret
   exact ⟨rfl,rfl⟩
 ·have HA:=hh9 ha
  clear ha hu
  go_enter Tryz.func158,Tryz.ntmps158
  go_wp2_with fail
  refine (zaw _ _).mono ?_
  rw [HA.out]
  rintro e w' ⟨rfl,rfl⟩
  go_wp2
  go_ret
  exact ⟨rfl,rfl⟩
theorem zls (c:Int) (w:World):Calls Tryz.prog 191 #[.int .u8 c] w (zd3 (isSt c) w):=by
 have hu:isSt c=(decide (32<=c)&&decide (c<=126)&&!(c==34)):=rfl
 rw [hu]
 clear hu
 by_cases h3:c=34
 ·subst h3
  go_enter Tryz.func191,Tryz.ntmps191
  go_wp2
  go_ret
  exact ⟨rfl,rfl⟩
 ·have e3:(c==34)=false:=by simpa using h3
  have e3':(c != 34)=true:=by simpa using h3
  by_cases h1:32<=c<;>by_cases h2:c<=126
  all_goals try (exfalso;omega)
  all_goals
   rw [e3]
   simp only [h1,h2,decide_true,decide_false,Bool.and_true,Bool.and_false,Bool.and_self,Bool.not_false]
   go_enter Tryz.func191,Tryz.ntmps191
   go_wp2
   go_ret
   exact ⟨rfl,rfl⟩
theorem zk8 (c:Int) (w:World):Calls Tryz.prog 171 #[.int .u8 c] w (zd3 (isCm c) w):=by
 have hu:isCm c=(isBl c||(decide (33<=c)&&decide (c<=126))):=rfl
 rw [hu]
 clear hu
 cases hb:isBl c
 ·have HB:=hh9 hb
  clear hb
  cases q1:decide (33<=c)<;>cases q2:decide (c<=126)
  all_goals
   simp only [Bool.and_true,Bool.and_false,Bool.and_self,Bool.false_or,Bool.or_false,Bool.false_and]
   go_enter Tryz.func171,Tryz.ntmps171
   go_wp2_with fail
   refine (zco _ _).mono ?_
   rw [HB.out]
   rintro e w' ⟨rfl,rfl⟩
   go_wp2
   go_ret
   exact ⟨rfl,rfl⟩
 ·have HB:=hh9 hb
  clear hb
  go_enter Tryz.func171,Tryz.ntmps171
  go_wp2_with fail
  refine (zco _ _).mono ?_
  rw [HB.out]
  rintro e w' ⟨rfl,rfl⟩
  go_wp2
  go_ret
  exact ⟨rfl,rfl⟩
theorem zlt (c:Int) (h0:0<=c) (h1:c<=255) (w:World):Calls Tryz.prog 175 #[.int .u8 c] w (zd3 (isRp c) w):=by
 cases ha:isAl c
 ·cases hd:isDc c
  ·by_cases hc:c=34\/c=37\/c=40\/c=42\/c=91
   ·rcases hc with rfl | rfl | rfl | rfl | rfl
    all_goals
     clear ha hd
     go_enter Tryz.func175,Tryz.ntmps175
     go_wp2_with fail
     refine (zaw _ _).mono ?_
     first | rw [show isAl 34=false by decide] | rw [show isAl 37=false by decide] | rw [show isAl 40=false by decide] | rw [show isAl 42=false by decide] | rw [show isAl 91=false by decide]
     rintro e w' ⟨rfl,rfl⟩
     go_wp2_with fail
     refine (zbh _ (by omega) (by omega) _).mono ?_
     first | rw [show isDc 34=false by decide] | rw [show isDc 37=false by decide] | rw [show isDc 40=false by decide] | rw [show isDc 42=false by decide] | rw [show isDc 91=false by decide]
     rintro e w' ⟨rfl,rfl⟩
     go_wp2
     go_ret
     exact ⟨rfl,rfl⟩
   ·have e1:(c==34)=false:=by simp;omega
    have e2:(c==37)=false:=by simp;omega
    have e3:(c==40)=false:=by simp;omega
    have e4:(c==42)=false:=by simp;omega
    have e5:(c==91)=false:=by simp;omega
    rw [zvk ha hd (by omega) (by omega) (by omega) (by omega) (by omega)]
    have HA:=hh9 ha
    have HD:=hh9 hd
    clear ha hd hc
    go_enter Tryz.func175,Tryz.ntmps175
    go_wp2_with fail
    refine (zaw _ _).mono ?_
    rw [HA.out]
    rintro e w' ⟨rfl,rfl⟩
    go_wp2_with fail
    refine (zbh _ h0 h1 _).mono ?_
    rw [HD.out]
    rintro e w' ⟨rfl,rfl⟩
    go_wp2
    go_ret
    exact ⟨rfl,rfl⟩
  ·rw [show isRp c=true by unfold isRp;simp [hd]]
   have HA:=hh9 ha
   have HD:=hh9 hd
   clear ha hd
   go_enter Tryz.func175,Tryz.ntmps175
   go_wp2_with fail
   refine (zaw _ _).mono ?_
   rw [HA.out]
   rintro e w' ⟨rfl,rfl⟩
   go_wp2_with fail
   refine (zbh _ h0 h1 _).mono ?_
   rw [HD.out]
   rintro e w' ⟨rfl,rfl⟩
   go_wp2
   go_ret
   exact ⟨rfl,rfl⟩
 ·rw [show isRp c=true by unfold isRp;simp [ha]]
  have HA:=hh9 ha
  clear ha
  go_enter Tryz.func175,Tryz.ntmps175
  go_wp2_with fail
  refine (zaw _ _).mono ?_
  rw [HA.out]
  rintro e w' ⟨rfl,rfl⟩
  go_wp2
  go_ret
  exact ⟨rfl,rfl⟩
theorem zea (c:Int) (w:World):Calls Tryz.prog 114 #[.int .i64 c] w fun e w'=>e=.panicked [{ v:=.iface 127 (.agg #[.int .i64 c]),recovered:=false }]/\w=w':=by
 go_enter Tryz.func114,Tryz.ntmps114
 go_wp2
 exact ⟨rfl,rfl,rfl⟩
theorem zag {R p d:Nat} {s:ByteArray} {w:World} (h:At w R s p d) (hs:s.size<=50000) (hp:p<=s.size) :
  Calls Tryz.prog 111 #[.pointer (some ⟨R,0,none⟩)] w (SaysC (nx (rd s) p) w):=by
 obtain ⟨c0,c1,c2,z0,z1,z2⟩:=h.cells
 clear h
 by_cases hlt:p<s.size
 ·rw [zmt hlt]
  have q1:decide (p=s.size)=false:=by simp;omega
  go_enter Tryz.func111,Tryz.ntmps111
  go_wp2_with fail
  go_quiet (fail)
  go_wp2_with fail
  go_quiet (fail)
  go_wp2_with fail
  go_ret
  exact ⟨rfl,_,zvl _ _ _⟩
 ·rw [zil hlt]
  obtain rfl:p=s.size:=by omega
  have q1:decide (s.size=s.size)=true:=by simp
  go_enter Tryz.func111,Tryz.ntmps111
  go_wp2_with fail
  go_quiet (fail)
  go_wp2_with fail
  go_ret
  exact ⟨rfl,_,rfl⟩
theorem At.step {w:World} {R:Nat} {s:ByteArray} {p d:Nat} (h:At w R s p d):At (w.setCell ⟨R,1,none⟩ (.int .i64 ((p:Int)+1))) R s (p+1) d:=by
 have:=h.set (p+1)
 rwa [show ((p+1:Nat):Int)=(p:Int)+1 by omega] at this
theorem zca {R p d:Nat} {s:ByteArray} {w:World} (h:At w R s p d) (hs:s.size<=50000) (c:Int) (hc:0<c) (hy:rd s p=c) :
  Calls Tryz.prog 139 #[.pointer (some ⟨R,0,none⟩),.int .u8 c] w (zob R s d (.bool true) (p+1) w):=by
 have hlt:p<s.size:=by
  by_cases g:p<s.size
  ·exact g
  ·rw [zbz g] at hy;omega
 have hn:=(zfz hc).2 hy
 obtain ⟨c0,c1,c2,z0,z1,z2⟩:=h.cells
 have HN:=hh9 hn
 have H:=hh9 h
 have HG:=hh9 (zag h hs (by omega))
 clear hn h hy
 go_enter Tryz.func139,Tryz.ntmps139
 go_wp2_with fail
 refine HG.out.mono ?_
 rw [HN.out]
 rintro e w' ⟨rfl,n,rfl⟩
 go_wp2_with fail
 go_ret
 exact ⟨rfl,(H.out.drew n).step,zah (za5 (zak _ _) n) _ _⟩
theorem zci {R p d:Nat} {s:ByteArray} {w:World} (h:At w R s p d) (hs:s.size<=50000) (hp:p<=s.size) (c:Int) (hc:0<c) (hy:rd s p≠c) :
  Calls Tryz.prog 139 #[.pointer (some ⟨R,0,none⟩),.int .u8 c] w (zob R s d (.bool false) p w):=by
 have hn:¬ nx (rd s) p=c:=fun g=>hy ((zfz hc).1 g)
 have hb1:(nx (rd s) p != c)=true:=by simpa using hn
 have H:=hh9 h
 have HG:=hh9 (zag h hs hp)
 clear hn h hy
 go_enter Tryz.func139,Tryz.ntmps139
 go_wp2_with fail
 refine HG.out.mono ?_
 rintro e w' ⟨rfl,n,rfl⟩
 go_wp2_with fail
 go_ret
 exact ⟨rfl,H.out.drew n,za5 (zak _ _) n⟩
def qc2 (R:Nat) (s:ByteArray) (d:Nat) (q:Nat) (w:World) (e:Ending) (w':World):Prop:=zob R s d (.tuple #[]) q w e w'
theorem zb1 {R p d:Nat} {s:ByteArray} {w:World} (h:At w R s p d) (hs:s.size<=50000) (c:Int) (hc:0<c) (hy:rd s p=c) :
  Calls Tryz.prog 138 #[.pointer (some ⟨R,0,none⟩),.int .u8 c] w (qc2 R s d (p+1) w):=by
 have HG:=hh9 (zca h hs c hc hy)
 clear hy h
 go_enter Tryz.func138,Tryz.ntmps138
 go_wp2_with fail
 refine HG.out.mono ?_
 rintro e w' ⟨rfl,ha,hg⟩
 have HA:=hh9 ha
 have HG:=hh9 hg
 clear ha hg
 go_wp2_with fail
 go_end0
 exact ⟨rfl,HA.out,HG.out⟩
theorem zi2 {R p d:Nat} {s:ByteArray} {w:World} (h:At w R s p d) (hs:s.size<=50000) (hp:p<=s.size) (c:Int) (hc:0<c) (hy:rd s p≠c) :
  Calls Tryz.prog 138 #[.pointer (some ⟨R,0,none⟩),.int .u8 c] w (zq4 R 20 w):=by
 have HG:=hh9 (zci h hs hp c hc hy)
 clear hy h
 go_enter Tryz.func138,Tryz.ntmps138
 go_wp2_with fail
 refine HG.out.mono ?_
 rintro e w' ⟨rfl,ha,hg⟩
 have HG:=hh9 hg
 clear ha hg
 go_wp2_with fail
 refine (zea _ _).mono ?_
 rintro e w2 ⟨rfl,rfl⟩
 go_wp2_with fail
 exact ⟨rfl,rfl,HG.out⟩
theorem At.pos {w:World} {R:Nat} {s:ByteArray} {p d:Nat} (h:At w R s p d):zf4 R w=p:=by
 unfold zf4
 rw [h.cells.2.1]
 simp
def zj5 (P:Int->Bool) (R:Nat) (s:ByteArray) (p d:Nat) (w:World) (e:Ending) (w':World):Prop :=
 ∃ q,IsRun P (rd s) p q/\q<=s.size/\zob R s d (.string (s.extract p q)) q w e w'
def zz9 (P:Int->Bool) (R:Nat) (s:ByteArray) (p d:Nat) (w wr:World) (q:Nat):Prop :=
 At wr R s q d/\w.grownBy wr (some R)/\p<=q/\q<=s.size/\∀ i,p<=i->i<q->P (rd s i)=true
theorem zk9 {R p d:Nat} {s:ByteArray} {w:World} (h:At w R s p d) (hs:s.size<=50000) (hp:p<=s.size) :
  Calls Tryz.prog 133 #[.pointer (some ⟨R,0,none⟩),.func (Fn.func 134) #[] #[]] w (zj5 isBl R s p d w):=by
 obtain ⟨c0,c1,c2,z0,z1,z2⟩:=h.cells
 have H:=hh9 h
 clear h
 go_enter Tryz.func133,Tryz.ntmps133
 go_wp2_with fail
 clear c0 c1 c2 z0 z1 z2
 go_loopw [] (fun wr=>∃ q:Nat,zz9 isBl R s p d w wr q) (fun wr=>s.size-zf4 R wr)
 case atStart=>exact ⟨p,H.out,zak _ _,Nat.le_refl _,hp,fun i h1 h2=>absurd h1 (by omega)⟩
 case round =>
  obtain ⟨q,ha,hg,hpq,hqs,hall⟩:=hrel
  have HA:=hh9 ha
  have HG:=hh9 hg
  have HL:=hh9 hall
  have HM:=hh9 ha.pos
  obtain ⟨c0,c1,c2,z0,z1,z2⟩:=ha.cells
  have hr:=zcu s q
  clear ha hg hall
  cases hb:isBl (nx (rd s) q)
  ·have HB:=hh9 hb
   have hle:decide ((p:Int)<=(q:Int))=true:=by simp;omega
   have hle2:decide ((q:Int)<=(s.size:Int))=true:=by simp;omega
   clear hb
   go_wp2_with fail
   refine (zag HA.out hs hqs).mono ?_
   rintro e w' ⟨rfl,n,rfl⟩
   go_wp2_with fail
   refine (zco _ _).mono ?_
   rw [HB.out]
   rintro e w' ⟨rfl,rfl⟩
   go_wp2_with fail
   go_quiet (fail)
   go_wp2_with fail
   go_ret
   exact ⟨q,⟨hpq,HL.out,zj2 (by decide) (by decide) HB.out⟩,hqs,rfl,(HA.out.drew _).drew _,za5 (za5 HG.out _) _⟩
  ·have HB:=hh9 hb
   have hlt:=zre (by decide) hb
   clear hb
   go_wp2_with fail
   refine (zag HA.out hs hqs).mono ?_
   rintro e w' ⟨rfl,n,rfl⟩
   go_wp2_with fail
   refine (zco _ _).mono ?_
   rw [HB.out]
   rintro e w' ⟨rfl,rfl⟩
   go_wp2_with fail
   go_roundw
   case rel=>exact ⟨q+1,(HA.out.drew n).step,zah (za5 HG.out n) _ _,by omega,by omega,ze9 HL.out (zmu hlt HB.out)⟩
   case measure =>
    rw [HM.out,(HA.out.drew n).step.pos]
    omega
theorem zlu {R p d:Nat} {s:ByteArray} {w:World} (h:At w R s p d) (hs:s.size<=50000) (hp:p<=s.size) :
  Calls Tryz.prog 133 #[.pointer (some ⟨R,0,none⟩),.func (Fn.func 158) #[] #[]] w (zj5 isNm R s p d w):=by
 obtain ⟨c0,c1,c2,z0,z1,z2⟩:=h.cells
 have H:=hh9 h
 clear h
 go_enter Tryz.func133,Tryz.ntmps133
 go_wp2_with fail
 clear c0 c1 c2 z0 z1 z2
 go_loopw [] (fun wr=>∃ q:Nat,zz9 isNm R s p d w wr q) (fun wr=>s.size-zf4 R wr)
 case atStart=>exact ⟨p,H.out,zak _ _,Nat.le_refl _,hp,fun i h1 h2=>absurd h1 (by omega)⟩
 case round =>
  obtain ⟨q,ha,hg,hpq,hqs,hall⟩:=hrel
  have HA:=hh9 ha
  have HG:=hh9 hg
  have HL:=hh9 hall
  have HM:=hh9 ha.pos
  obtain ⟨c0,c1,c2,z0,z1,z2⟩:=ha.cells
  have hr:=zcu s q
  clear ha hg hall
  cases hb:isNm (nx (rd s) q)
  ·have HB:=hh9 hb
   have hle:decide ((p:Int)<=(q:Int))=true:=by simp;omega
   have hle2:decide ((q:Int)<=(s.size:Int))=true:=by simp;omega
   clear hb
   go_wp2_with fail
   refine (zag HA.out hs hqs).mono ?_
   rintro e w' ⟨rfl,n,rfl⟩
   go_wp2_with fail
   refine (zri _ hr.1 hr.2 _).mono ?_
   rw [HB.out]
   rintro e w' ⟨rfl,rfl⟩
   go_wp2_with fail
   go_quiet (fail)
   go_wp2_with fail
   go_ret
   exact ⟨q,⟨hpq,HL.out,zj2 (by decide) (by decide) HB.out⟩,hqs,rfl,(HA.out.drew _).drew _,za5 (za5 HG.out _) _⟩
  ·have HB:=hh9 hb
   have hlt:=zre (by decide) hb
   clear hb
   go_wp2_with fail
   refine (zag HA.out hs hqs).mono ?_
   rintro e w' ⟨rfl,n,rfl⟩
   go_wp2_with fail
   refine (zri _ hr.1 hr.2 _).mono ?_
   rw [HB.out]
   rintro e w' ⟨rfl,rfl⟩
   go_wp2_with fail
   go_roundw
   case rel=>exact ⟨q+1,(HA.out.drew n).step,zah (za5 HG.out n) _ _,by omega,by omega,ze9 HL.out (zmu hlt HB.out)⟩
   case measure =>
    rw [HM.out,(HA.out.drew n).step.pos]
    omega
theorem zin {R p d:Nat} {s:ByteArray} {w:World} (h:At w R s p d) (hs:s.size<=50000) (hp:p<=s.size) :
  Calls Tryz.prog 133 #[.pointer (some ⟨R,0,none⟩),.func (Fn.func 191) #[] #[]] w (zj5 isSt R s p d w):=by
 obtain ⟨c0,c1,c2,z0,z1,z2⟩:=h.cells
 have H:=hh9 h
 clear h
 go_enter Tryz.func133,Tryz.ntmps133
 go_wp2_with fail
 clear c0 c1 c2 z0 z1 z2
 go_loopw [] (fun wr=>∃ q:Nat,zz9 isSt R s p d w wr q) (fun wr=>s.size-zf4 R wr)
 case atStart=>exact ⟨p,H.out,zak _ _,Nat.le_refl _,hp,fun i h1 h2=>absurd h1 (by omega)⟩
 case round =>
  obtain ⟨q,ha,hg,hpq,hqs,hall⟩:=hrel
  have HA:=hh9 ha
  have HG:=hh9 hg
  have HL:=hh9 hall
  have HM:=hh9 ha.pos
  obtain ⟨c0,c1,c2,z0,z1,z2⟩:=ha.cells
  have hr:=zcu s q
  clear ha hg hall
  cases hb:isSt (nx (rd s) q)
  ·have HB:=hh9 hb
   have hle:decide ((p:Int)<=(q:Int))=true:=by simp;omega
   have hle2:decide ((q:Int)<=(s.size:Int))=true:=by simp;omega
   clear hb
   go_wp2_with fail
   refine (zag HA.out hs hqs).mono ?_
   rintro e w' ⟨rfl,n,rfl⟩
   go_wp2_with fail
   refine (zls _ _).mono ?_
   rw [HB.out]
   rintro e w' ⟨rfl,rfl⟩
   go_wp2_with fail
   go_quiet (fail)
   go_wp2_with fail
   go_ret
   exact ⟨q,⟨hpq,HL.out,zj2 (by decide) (by decide) HB.out⟩,hqs,rfl,(HA.out.drew _).drew _,za5 (za5 HG.out _) _⟩
  ·have HB:=hh9 hb
   have hlt:=zre (by decide) hb
   clear hb
   go_wp2_with fail
   refine (zag HA.out hs hqs).mono ?_
   rintro e w' ⟨rfl,n,rfl⟩
   go_wp2_with fail
   refine (zls _ _).mono ?_
   rw [HB.out]
   rintro e w' ⟨rfl,rfl⟩
   go_wp2_with fail
   go_roundw
   case rel=>exact ⟨q+1,(HA.out.drew n).step,zah (za5 HG.out n) _ _,by omega,by omega,ze9 HL.out (zmu hlt HB.out)⟩
   case measure =>
    rw [HM.out,(HA.out.drew n).step.pos]
    omega
theorem zn0 {R p d:Nat} {s:ByteArray} {w:World} (h:At w R s p d) (hs:s.size<=50000) (hp:p<=s.size) :
  Calls Tryz.prog 133 #[.pointer (some ⟨R,0,none⟩),.func (Fn.func 171) #[] #[]] w (zj5 isCm R s p d w):=by
 obtain ⟨c0,c1,c2,z0,z1,z2⟩:=h.cells
 have H:=hh9 h
 clear h
 go_enter Tryz.func133,Tryz.ntmps133
 go_wp2_with fail
 clear c0 c1 c2 z0 z1 z2
 go_loopw [] (fun wr=>∃ q:Nat,zz9 isCm R s p d w wr q) (fun wr=>s.size-zf4 R wr)
 case atStart=>exact ⟨p,H.out,zak _ _,Nat.le_refl _,hp,fun i h1 h2=>absurd h1 (by omega)⟩
 case round =>
  obtain ⟨q,ha,hg,hpq,hqs,hall⟩:=hrel
  have HA:=hh9 ha
  have HG:=hh9 hg
  have HL:=hh9 hall
  have HM:=hh9 ha.pos
  obtain ⟨c0,c1,c2,z0,z1,z2⟩:=ha.cells
  have hr:=zcu s q
  clear ha hg hall
  cases hb:isCm (nx (rd s) q)
  ·have HB:=hh9 hb
   have hle:decide ((p:Int)<=(q:Int))=true:=by simp;omega
   have hle2:decide ((q:Int)<=(s.size:Int))=true:=by simp;omega
   clear hb
   go_wp2_with fail
   refine (zag HA.out hs hqs).mono ?_
   rintro e w' ⟨rfl,n,rfl⟩
   go_wp2_with fail
   refine (zk8 _ _).mono ?_
   rw [HB.out]
   rintro e w' ⟨rfl,rfl⟩
   go_wp2_with fail
   go_quiet (fail)
   go_wp2_with fail
   go_ret
   exact ⟨q,⟨hpq,HL.out,zj2 (by decide) (by decide) HB.out⟩,hqs,rfl,(HA.out.drew _).drew _,za5 (za5 HG.out _) _⟩
  ·have HB:=hh9 hb
   have hlt:=zre (by decide) hb
   clear hb
   go_wp2_with fail
   refine (zag HA.out hs hqs).mono ?_
   rintro e w' ⟨rfl,n,rfl⟩
   go_wp2_with fail
   refine (zk8 _ _).mono ?_
   rw [HB.out]
   rintro e w' ⟨rfl,rfl⟩
   go_wp2_with fail
   go_roundw
   case rel=>exact ⟨q+1,(HA.out.drew n).step,zah (za5 HG.out n) _ _,by omega,by omega,ze9 HL.out (zmu hlt HB.out)⟩
   case measure =>
    rw [HM.out,(HA.out.drew n).step.pos]
    omega
theorem zeg {R p d:Nat} {s:ByteArray} {w:World} (h:At w R s p d) (hs:s.size<=50000) (hp:p<=s.size) :
  Calls Tryz.prog 157 #[.pointer (some ⟨R,0,none⟩)] w (zgy (zf5 (rd s) p) w):=by
 obtain ⟨c0,c1,c2,z0,z1,z2⟩:=h.cells
 have hR:=h.lt
 have hA:At (w.alloc (.cells #[.string s,.int .i64 p,.int .i64 d] 130)) w.heap.size s p d:=by
  unfold At
  show (w.heap.push _)[w.heap.size]?=_
  simp
 have hB:Below w.heap.size w (w.alloc (.cells #[.string s,.int .i64 p,.int .i64 d] 130)):=(Below.refl _ _).alloc (Nat.le_refl _) _
 have HA:=hh9 hA
 have HB:=hh9 hB
 have H:=hh9 h
 clear h hA hB
 go_enter Tryz.func157,Tryz.ntmps157
 go_wp2_with fail
 have hcases:(rd s p=59/\p<s.size)\/rd s p≠59:=by
  by_cases g:rd s p=59
  ·exact .inl ⟨g,by by_cases k:p<s.size;exact k;rw [zbz k] at g;omega⟩
  ·exact .inr g
 have hsz:w.heap.size<=(w.alloc (.cells #[.string s,.int .i64 p,.int .i64 d] 130)).heap.size:=HB.out.size
 rcases hcases with ⟨h59,hlt⟩ | h59
 ·have H59:=hh9 h59
  clear h59 c0 c1 c2 z0 z1 z2
  refine (zca HA.out hs 59 (by omega) H59.out).mono ?_
  rintro e w1 ⟨rfl,ha,hg⟩
  have HA1:=hh9 ha
  have HB1:=hh9 (zbg HB.out hg hsz (Nat.le_refl _))
  clear ha hg HA HB
  go_wp2_with fail
  refine (zn0 HA1.out hs (by omega)).mono ?_
  rintro e w2 ⟨q,hrun,hqs,rfl,ha,hg⟩
  have HA:=hh9 ha
  have HB:=hh9 (zbg HB1.out hg HB1.out.size (Nat.le_refl _))
  have HC:Hid (zbm (rd s) p=q):=by unfold zbm;rw [if_pos H59.out];exact hrun.eq
  obtain ⟨c0,c1,c2,z0,z1,z2⟩:=ha.cells
  clear ha hg hrun HA1 HB1 H59 hlt hsz H
  by_cases hq:q<s.size
  ·have q1:decide (q=s.size)=false:=by simp;omega
   by_cases h10:rd s q=10
   ·have H10:=hh9 h10
    clear h10
    go_wp2_with fail
    refine (zca HA.out hs 10 (by omega) H10.out).mono ?_
    rintro e w3 ⟨rfl,ha,hg⟩
    have HB2:=hh9 (zbg HB.out hg HB.out.size (Nat.le_refl _))
    obtain ⟨c0',c1',c2',z0',z1',z2'⟩:=ha.cells
    clear ha hg c0 c1 c2 z0 z1 z2
    go_wp2
    go_ret
    exact ⟨zbw (by rw [qda HC.out H10.out]),HB2.out⟩
   ·have H10:=hh9 h10
    clear h10
    go_wp2_with fail
    refine (zci HA.out hs hqs 10 (by omega) H10.out).mono ?_
    rintro e w3 ⟨rfl,ha,hg⟩
    have HA3:=hh9 ha
    have HB3:=hh9 (zbg HB.out hg HB.out.size (Nat.le_refl _))
    clear ha hg c0 c1 c2 z0 z1 z2 HA HB
    by_cases h13:rd s q=13
    ·have H13:=hh9 h13
     clear h13
     go_wp2_with fail
     refine (zca HA3.out hs 13 (by omega) H13.out).mono ?_
     rintro e w4 ⟨rfl,ha,hg⟩
     have HA4:=hh9 ha
     have HB4:=hh9 (zbg HB3.out hg HB3.out.size (Nat.le_refl _))
     clear ha hg HA3 HB3
     by_cases h11:rd s (q+1)=10
     ·have H11:=hh9 h11
      clear h11
      go_wp2_with fail
      refine (zca HA4.out hs 10 (by omega) H11.out).mono ?_
      rintro e w5 ⟨rfl,ha,hg⟩
      have HB5:=hh9 (zbg HB4.out hg HB4.out.size (Nat.le_refl _))
      obtain ⟨c0',c1',c2',z0',z1',z2'⟩:=ha.cells
      clear ha hg
      go_wp2
      go_ret
      exact ⟨zbw (by rw [qdb HC.out H13.out H11.out];omega),HB5.out⟩
     ·have H11:=hh9 h11
      clear h11
      go_wp2_with fail
      refine (zci HA4.out hs (by omega) 10 (by omega) H11.out).mono ?_
      rintro e w5 ⟨rfl,ha,hg⟩
      have HB5:=hh9 (zbg HB4.out hg HB4.out.size (Nat.le_refl _))
      clear ha hg
      go_wp2
      go_ret
      exact ⟨zbw (by rw [zz5 HC.out (by rw [H13.out];omega) H10.out (fun g=>H11.out g.2)]),HB5.out⟩
    ·have H13:=hh9 h13
     clear h13
     go_wp2_with fail
     refine (zci HA3.out hs hqs 13 (by omega) H13.out).mono ?_
     rintro e w4 ⟨rfl,ha,hg⟩
     have HB4:=hh9 (zbg HB3.out hg HB3.out.size (Nat.le_refl _))
     clear ha hg
     go_wp2
     go_ret
     exact ⟨zbw (by rw [zz5 HC.out (by rw [zes hq];omega) H10.out (fun g=>H13.out g.1)]),HB4.out⟩
  ·obtain ⟨n,hn⟩:∃ n,n=s.size:=⟨_,rfl⟩
   have HN:=hh9 hn
   obtain rfl:q=n:=by omega
   have q1:decide (q=s.size)=true:=by simp;omega
   clear hn
   go_wp2_with fail
   go_ret
   exact ⟨zbw (by rw [qd9 HC.out (by rw [zbz hq];omega)];omega),HB.out⟩
 ·have H59:=hh9 h59
  clear h59 c0 c1 c2 z0 z1 z2
  refine (zci HA.out hs hp 59 (by omega) H59.out).mono ?_
  rintro e w2 ⟨rfl,ha,hg⟩
  have HA1:=hh9 ha
  have HB1:=hh9 (zbg HB.out hg hsz (Nat.le_refl _))
  have HC:Hid (zbm (rd s) p=p):=by unfold zbm;rw [if_neg H59.out];exact rfl
  obtain ⟨c0,c1,c2,z0,z1,z2⟩:=ha.cells
  clear ha hg HA HB H59 hsz H
  have HA:=HA1
  have HB:=HB1
  clear HA1 HB1
  obtain ⟨q,hq⟩:∃ q,q=p:=⟨_,rfl⟩
  subst hq
  have hqs:=hp
  by_cases hq:q<s.size
  ·have q1:decide (q=s.size)=false:=by simp;omega
   by_cases h10:rd s q=10
   ·have H10:=hh9 h10
    clear h10
    go_wp2_with fail
    refine (zca HA.out hs 10 (by omega) H10.out).mono ?_
    rintro e w3 ⟨rfl,ha,hg⟩
    have HB2:=hh9 (zbg HB.out hg HB.out.size (Nat.le_refl _))
    obtain ⟨c0',c1',c2',z0',z1',z2'⟩:=ha.cells
    clear ha hg c0 c1 c2 z0 z1 z2
    go_wp2
    go_ret
    exact ⟨zbw (by rw [qda HC.out H10.out]),HB2.out⟩
   ·have H10:=hh9 h10
    clear h10
    go_wp2_with fail
    refine (zci HA.out hs hqs 10 (by omega) H10.out).mono ?_
    rintro e w3 ⟨rfl,ha,hg⟩
    have HA3:=hh9 ha
    have HB3:=hh9 (zbg HB.out hg HB.out.size (Nat.le_refl _))
    clear ha hg c0 c1 c2 z0 z1 z2 HA HB
    by_cases h13:rd s q=13
    ·have H13:=hh9 h13
     clear h13
     go_wp2_with fail
     refine (zca HA3.out hs 13 (by omega) H13.out).mono ?_
     rintro e w4 ⟨rfl,ha,hg⟩
     have HA4:=hh9 ha
     have HB4:=hh9 (zbg HB3.out hg HB3.out.size (Nat.le_refl _))
     clear ha hg HA3 HB3
     by_cases h11:rd s (q+1)=10
     ·have H11:=hh9 h11
      clear h11
      go_wp2_with fail
      refine (zca HA4.out hs 10 (by omega) H11.out).mono ?_
      rintro e w5 ⟨rfl,ha,hg⟩
      have HB5:=hh9 (zbg HB4.out hg HB4.out.size (Nat.le_refl _))
      obtain ⟨c0',c1',c2',z0',z1',z2'⟩:=ha.cells
      clear ha hg
      go_wp2
      go_ret
      exact ⟨zbw (by rw [qdb HC.out H13.out H11.out];omega),HB5.out⟩
     ·have H11:=hh9 h11
      clear h11
      go_wp2_with fail
      refine (zci HA4.out hs (by omega) 10 (by omega) H11.out).mono ?_
      rintro e w5 ⟨rfl,ha,hg⟩
      have HB5:=hh9 (zbg HB4.out hg HB4.out.size (Nat.le_refl _))
      clear ha hg
      go_wp2
      go_ret
      exact ⟨zbw (by rw [zz5 HC.out (by rw [H13.out];omega) H10.out (fun g=>H11.out g.2)]),HB5.out⟩
    ·have H13:=hh9 h13
     clear h13
     go_wp2_with fail
     refine (zci HA3.out hs hqs 13 (by omega) H13.out).mono ?_
     rintro e w4 ⟨rfl,ha,hg⟩
     have HB4:=hh9 (zbg HB3.out hg HB3.out.size (Nat.le_refl _))
     clear ha hg
     go_wp2
     go_ret
     exact ⟨zbw (by rw [zz5 HC.out (by rw [zes hq];omega) H10.out (fun g=>H13.out g.1)]),HB4.out⟩
  ·obtain ⟨n,hn⟩:∃ n,n=s.size:=⟨_,rfl⟩
   have HN:=hh9 hn
   obtain rfl:q=n:=by omega
   have q1:decide (q=s.size)=true:=by simp;omega
   clear hn
   go_wp2_with fail
   go_ret
   exact ⟨zbw (by rw [qd9 HC.out (by rw [zbz hq];omega)];omega),HB.out⟩
theorem At.put {w:World} {R:Nat} {s:ByteArray} {p d:Nat} (h:At w R s p d) {x:Int} {q:Nat} (hx:x=q):At (w.setCell ⟨R,1,none⟩ (.int .i64 x)) R s q d:=by rw [hx];exact h.set q
theorem At.below {w w':World} {R:Nat} {s:ByteArray} {p d:Nat} (h:At w R s p d) (hb:Below w.heap.size w w'):At w' R s p d:=(hb.block R h.lt).trans h
theorem zgt {R p d e:Nat} {s:ByteArray} {w:World} (h:At w R s p d) (hs:s.size<=50000) (hp:p<=s.size) (he:zas (rd s) p=some e) :
  Calls Tryz.prog 135 #[.pointer (some ⟨R,0,none⟩)] w (qc2 R s d e w):=by
 have HC:=hh9 (zeg h hs hp)
 have HE:=hh9 (zjw he)
 have H:=hh9 h
 clear h he
 go_enter Tryz.func135,Tryz.ntmps135
 go_wp2_with fail
 refine HC.out.mono ?_
 rw [HE.out]
 rintro e1 w1 ⟨rfl,hb⟩
 obtain ⟨c0,c1,c2,z0,z1,z2⟩:=(H.out.below hb).cells
 have HA:=hh9 (H.out.below hb)
 have HB:=hh9 hb
 clear hb
 go_wp2
 go_end0
 exact ⟨rfl,HA.out.set e,zah (za4 (zak _ _) HB.out) _ _⟩
theorem zi3 {R p d:Nat} {s:ByteArray} {w:World} (h:At w R s p d) (hs:s.size<=50000) (hp:p<=s.size) (he:zas (rd s) p=none) :
  Calls Tryz.prog 135 #[.pointer (some ⟨R,0,none⟩)] w (zq4 R 20 w):=by
 have HC:=hh9 (zeg h hs hp)
 have HE:=hh9 (zjx he)
 have H:=hh9 h
 clear h he
 go_enter Tryz.func135,Tryz.ntmps135
 go_wp2_with fail
 refine HC.out.mono ?_
 rw [HE.out]
 rintro e1 w1 ⟨rfl,hb⟩
 have HB:=hh9 hb
 clear hb
 go_wp2_with fail
 refine (zea _ _).mono ?_
 rintro e w2 ⟨rfl,rfl⟩
 go_wp2_with fail
 exact ⟨rfl,rfl,za4 (zak _ _) HB.out⟩
theorem zvw {R p d q e:Nat} {s:ByteArray} {w:World} (h:At w R s p d) (hs:s.size<=50000) (hp:p<=s.size) (hq:zbp isBl (rd s) p=q) (he:zas (rd s) q=some e) :
  Calls Tryz.prog 112 #[.pointer (some ⟨R,0,none⟩)] w (qc2 R s d e w):=by
 have HC:=hh9 (zk9 h hs hp)
 have HE:=hh9 he
 have HQ:=hh9 hq
 clear h he hq
 go_enter Tryz.func112,Tryz.ntmps112
 go_wp2_with fail
 refine HC.out.mono ?_
 rintro e1 w1 ⟨q1,hrun,hqs,rfl,ha,hg⟩
 obtain rfl:q1=q:=hrun.eq.symm.trans HQ.out
 have HA:=hh9 ha
 have HG:=hh9 hg
 clear ha hg hrun HC
 go_wp2_with fail
 refine (zgt HA.out hs hqs HE.out).mono ?_
 rintro e1 w2 ⟨rfl,ha,hg⟩
 have HA2:=hh9 ha
 have HG2:=hh9 hg
 clear ha hg
 go_wp2_with fail
 go_end0
 exact ⟨rfl,HA2.out,HG.out.trans HG2.out⟩
theorem zza {R p d q:Nat} {s:ByteArray} {w:World} (h:At w R s p d) (hs:s.size<=50000) (hp:p<=s.size) (hq:zbp isBl (rd s) p=q) (he:zas (rd s) q=none) :
  Calls Tryz.prog 112 #[.pointer (some ⟨R,0,none⟩)] w (zq4 R 20 w):=by
 have HC:=hh9 (zk9 h hs hp)
 have HE:=hh9 he
 have HQ:=hh9 hq
 clear h he hq
 go_enter Tryz.func112,Tryz.ntmps112
 go_wp2_with fail
 refine HC.out.mono ?_
 rintro e1 w1 ⟨q1,hrun,hqs,rfl,ha,hg⟩
 obtain rfl:q1=q:=hrun.eq.symm.trans HQ.out
 have HA:=hh9 ha
 have HG:=hh9 hg
 clear ha hg hrun HC
 go_wp2_with fail
 refine (zi3 HA.out hs hqs HE.out).mono ?_
 rintro e1 w2 ⟨rfl,hg⟩
 have HG2:=hh9 hg
 clear hg
 go_wp2_with fail
 exact ⟨rfl,rfl,HG.out.trans HG2.out⟩
def zta (R:Nat) (s:ByteArray) (p d:Nat) (w:World) (e:Ending) (w':World):Prop :=
 ∃ q,Skip (rd s) p q/\p<=q/\q<=s.size/\zob R s d (.bool (decide (p<q))) q w e w'
def qdh (R:Nat) (s:ByteArray) (p d:Nat) (w wr:World) (q:Nat):Prop :=
 At wr R s q d/\w.grownBy wr (some R)/\p<=q/\q<=s.size/\∀ r,Skip (rd s) q r->Skip (rd s) p r
theorem zf8 {R p d:Nat} {s:ByteArray} {w:World} (h:At w R s p d) (hs:s.size<=50000) (hp:p<=s.size) :
  Calls Tryz.prog 137 #[.pointer (some ⟨R,0,none⟩)] w (zta R s p d w):=by
 obtain ⟨c0,c1,c2,z0,z1,z2⟩:=h.cells
 have H:=hh9 h
 clear h
 go_enter Tryz.func137,Tryz.ntmps137
 go_wp2_with fail
 go_step3
 go_wp2_with fail
 go_step3
 go_wp2_with fail
 clear c0 c1 c2 z0 z1 z2
 go_loopw [4,5] (fun _ _ wr=>∃ q:Nat,qdh R s p d w wr q) (fun _ _ wr=>s.size-zf4 R wr)
 case atStart=>exact ⟨p,H.out,zak _ _,Nat.le_refl _,hp,fun r hr=>hr⟩
 case round =>
  obtain ⟨q,ha,hg,hpq,hqs,hsk⟩:=hrel
  have HA:=hh9 ha
  have HG:=hh9 hg
  have HS:=hh9 hsk
  have HM:=hh9 ha.pos
  obtain ⟨c0,c1,c2,z0,z1,z2⟩:=ha.cells
  obtain ⟨c,hc⟩:∃ c,c=nx (rd s) q:=⟨_,rfl⟩
  have hr:0<=c/\c<=255:=by rw [hc];exact zcu s q
  have hbl:isBl c=isBl (rd s q):=by rw [hc];exact qbu
  have HC:=hh9 hc
  clear ha hg hsk
  cases hb:isBl (rd s q)
  ·have HB:=hh9 hb
   have HBC:=hh9 (hbl.trans hb)
   clear hb hbl
   by_cases h3:c=59\/c=13\/c=10
   ·cases hle:zas (rd s) q with
    | none =>
     have HZ:Hid (Skip (rd s) q q):=Skip.here HB.out (fun e he=>by rw [hle] at he;cases he)
     have HL:=hh9 (zjx hle)
     clear hle hc c0 c1 c2 z0 z1 z2
     rcases h3 with rfl | rfl | rfl
     all_goals
      go_wp2_with fail
      refine (zag HA.out hs hqs).mono ?_
      rw [<- HC.out]
      rintro e w' ⟨rfl,n,rfl⟩
      go_wp2_with fail
      refine (zco _ _).mono ?_
      rw [HBC.out]
      rintro e w' ⟨rfl,rfl⟩
      go_wp2_with fail
      refine (zeg (HA.out.drew n) hs hqs).mono ?_
      rw [HL.out]
      rintro e w2 ⟨rfl,hb2⟩
      have HA2:=hh9 ((HA.out.drew n).below hb2)
      have HG2:=hh9 (za4 (za5 HG.out n) hb2)
      obtain ⟨c0,c1,c2,z0,z1,z2⟩:=HA2.out.cells
      clear hb2
      go_wp2_with fail
      try rw [Exit.noGoto_ret]
      go_ret
      exact ⟨q,HS.out _ HZ.out,hpq,hqs,rfl,HA2.out,HG2.out⟩
    | some e =>
     have HL:=hh9 (zjw hle)
     have hee:=zda hqs hle
     have HLE:=hh9 hle
     have q0:decide ((e:Int)<0)=false:=decide_eq_false (by omega)
     by_cases he:e<s.size
     ·cases hbe:isBl (rd s e)
      ·have HZ:Hid (Skip (rd s) q q):=Skip.here HB.out (fun e' he'=>by rw [hle] at he';cases he';exact hbe)
       have HBE:Hid (isBl (s[e].toNat:Int)=false):=by rw [<- zes he];exact hbe
       have q1:decide (e=s.size)=false:=by simp;omega
       clear hle hc hbe c0 c1 c2 z0 z1 z2
       rcases h3 with rfl | rfl | rfl
       all_goals
        go_wp2_with fail
        refine (zag HA.out hs hqs).mono ?_
        rw [<- HC.out]
        rintro e' w' ⟨rfl,n,rfl⟩
        go_wp2_with fail
        refine (zco _ _).mono ?_
        rw [HBC.out]
        rintro e' w' ⟨rfl,rfl⟩
        go_wp2_with fail
        refine (zeg (HA.out.drew n) hs hqs).mono ?_
        rw [HL.out]
        rintro e' w2 ⟨rfl,hb2⟩
        have HA2:=hh9 ((HA.out.drew n).below hb2)
        have HG2:=hh9 (za4 (za5 HG.out n) hb2)
        obtain ⟨c0,c1,c2,z0,z1,z2⟩:=HA2.out.cells
        clear hb2
        go_wp2_with fail
        refine (zco _ _).mono ?_
        rw [HBE.out]
        rintro e' w' ⟨rfl,rfl⟩
        go_wp2_with fail
        try rw [Exit.noGoto_ret]
        go_ret
        exact ⟨q,HS.out _ HZ.out,hpq,hqs,rfl,HA2.out,HG2.out⟩
      ·have HBE:Hid (isBl (s[e].toNat:Int)=true):=by rw [<- zes he];exact hbe
       have HZ:Hid (∀ r,Skip (rd s) (e+1) r->Skip (rd s) q r):=fun r hr=>Skip.line HB.out hle hbe hr
       have q1:decide (e=s.size)=false:=by simp;omega
       clear hle hc hbe c0 c1 c2 z0 z1 z2
       rcases h3 with rfl | rfl | rfl
       all_goals
        go_wp2_with fail
        refine (zag HA.out hs hqs).mono ?_
        rw [<- HC.out]
        rintro e' w' ⟨rfl,n,rfl⟩
        go_wp2_with fail
        refine (zco _ _).mono ?_
        rw [HBC.out]
        rintro e' w' ⟨rfl,rfl⟩
        go_wp2_with fail
        refine (zeg (HA.out.drew n) hs hqs).mono ?_
        rw [HL.out]
        rintro e' w2 ⟨rfl,hb2⟩
        have HA2:=hh9 ((HA.out.drew n).below hb2)
        have HG2:=hh9 (za4 (za5 HG.out n) hb2)
        obtain ⟨c0,c1,c2,z0,z1,z2⟩:=HA2.out.cells
        clear hb2
        go_wp2_with fail
        refine (zco _ _).mono ?_
        rw [HBE.out]
        rintro e' w' ⟨rfl,rfl⟩
        go_wp2_with fail
        go_roundw
        case rel=>exact ⟨e+1,HA2.out.put (by omega),zah HG2.out _ _,by omega,by omega,fun r hr=>HS.out r (HZ.out r hr)⟩
        case measure =>
         rw [HM.out,(HA2.out.put (x:=(e:Int)+1) (q:=e+1) (by omega)).pos]
         omega
     ·obtain ⟨m,hm⟩:∃ m,m=s.size:=⟨_,rfl⟩
      have HMM:=hh9 hm
      obtain rfl:e=m:=by omega
      have q1:decide (e=s.size)=true:=by simp;omega
      have HZ:Hid (Skip (rd s) q q):=Skip.here HB.out (fun e' he'=>by rw [hle] at he';cases he';rw [zbz he];decide)
      clear hle hc hm c0 c1 c2 z0 z1 z2
      rcases h3 with rfl | rfl | rfl
      all_goals
       go_wp2_with fail
       refine (zag HA.out hs hqs).mono ?_
       rw [<- HC.out]
       rintro e' w' ⟨rfl,n,rfl⟩
       go_wp2_with fail
       refine (zco _ _).mono ?_
       rw [HBC.out]
       rintro e' w' ⟨rfl,rfl⟩
       go_wp2_with fail
       refine (zeg (HA.out.drew n) hs hqs).mono ?_
       rw [HL.out]
       rintro e' w2 ⟨rfl,hb2⟩
       have HA2:=hh9 ((HA.out.drew n).below hb2)
       have HG2:=hh9 (za4 (za5 HG.out n) hb2)
       obtain ⟨c0,c1,c2,z0,z1,z2⟩:=HA2.out.cells
       clear hb2
       go_wp2_with fail
       try rw [Exit.noGoto_ret]
       go_ret
       exact ⟨q,HS.out _ HZ.out,hpq,hqs,rfl,HA2.out,HG2.out⟩
   ·have e1:(c==59)=false:=by simp;omega
    have e2:(c==13)=false:=by simp;omega
    have e3:(c==10)=false:=by simp;omega
    have HZ:Hid (Skip (rd s) q q):=Skip.here HB.out (fun e he=>zvm he (by omega) (by omega) (by omega))
    clear hc h3
    go_wp2_with fail
    refine (zag HA.out hs hqs).mono ?_
    rw [<- HC.out]
    rintro e w' ⟨rfl,n,rfl⟩
    go_wp2_with fail
    refine (zco _ _).mono ?_
    rw [HBC.out]
    rintro e w' ⟨rfl,rfl⟩
    go_wp2_with fail
    try rw [Exit.noGoto_ret]
    go_ret
    exact ⟨q,HS.out _ HZ.out,hpq,hqs,rfl,HA.out.drew n,za5 HG.out n⟩
  ·have HB:=hh9 hb
   have HBC:=hh9 (hbl.trans hb)
   have hlt:=zpy hb
   clear hb hbl hc
   go_wp2_with fail
   refine (zag HA.out hs hqs).mono ?_
   rw [<- HC.out]
   rintro e w' ⟨rfl,n,rfl⟩
   go_wp2_with fail
   refine (zco _ _).mono ?_
   rw [HBC.out]
   rintro e w' ⟨rfl,rfl⟩
   go_wp2_with fail
   go_roundw
   case rel=>exact ⟨q+1,(HA.out.drew n).step,zah (za5 HG.out n) _ _,by omega,by omega,fun r hr=>HS.out r (.blank HB.out hr)⟩
   case measure =>
    rw [HM.out,(HA.out.drew n).step.pos]
    omega
end Go.Proofs.YtekjnfldgjcgeaaGreatDoor
