/- Part 40 of what the laws of the grammar rest on. -/
import Derived.Test.YtekjnfldgjcgeaaGreatDoorA8
import Derived.Deep.RegionHeld3
set_option linter.all false
set_option maxRecDepth 100000
set_option maxHeartbeats 8000000
namespace Go.Proofs.YtekjnfldgjcgeaaGreatDoor
open Go.RowKit
def zg8 (d:Nat):Prop:=∀ (W:World) (X:XV) (t:Tree),ETree W X t->zax d t=true->(zaf d t).length<=1000000000000->Calls Tryz.prog 51 #[X.val] W (zcl (zaf d t) W)
theorem qba {n:Int} (h0:0<=n) (h:n<=1114111) (w:World):Calls Tryz.prog 77 #[.int .i64 n] w (zcl (hexT n.toNat) w):=by
 obtain ⟨m,rfl⟩:∃ m:Nat,n=m:=⟨n.toNat,by omega⟩
 have:=zya 2 m w (by rw [show (256:Nat) ^ (2+1)=16777216 by decide];omega) (by omega)
 rw [qcy m (by omega)] at this
 exact this
theorem qbb {n:Int} (h0:0<=n) (h:n<=200) (w:World):Calls Tryz.prog 76 #[.int .i64 n] w (zcl (decT n.toNat) w):=by
 obtain ⟨m,rfl⟩:∃ m:Nat,n=m:=⟨n.toNat,by omega⟩
 have hm:m<10 ^ (2+1):=by rw [show (10:Nat) ^ (2+1)=1000 by decide];omega
 have:=zpn 2 m w hm (by omega)
 rw [qcz hm (by omega)] at this
 exact this
theorem zsg (s x:List Int):∀ (l:List (List Int)),l≠[]->sepT s (l++[x])=sepT s l++s++x
 | [],h=>absurd rfl h
 | [y],_=>by simp [sepT]
 | y::z::l,_=>by
  have:=zsg s x (z::l) (by simp)
  show y++s++sepT s (z::l++[x])=_
  rw [this]
  simp [sepT]
theorem qaq (s:List Int) (l:List (List Int)) (i:Nat):(sepT s (l.take i)).length<=(sepT s l).length:=by
 induction l generalizing i with
 | nil=>simp
 | cons y l ih =>
  cases i with
  | zero=>simp [sepT]
  | succ i =>
   cases l with
   | nil=>simp
   | cons z l =>
    cases i with
    | zero=>simp [sepT]
    | succ i =>
     have:=ih (i+1)
     simp only [List.take_succ_cons,sepT,List.length_append] at this ⊢
     omega
theorem zie {d:Nat} (ih:zg8 d) {W:World} {X:XV} {t:Tree} (h:ETree W X t) (hr:zax d t=true) (hl:(zaf d t).length<=1000000000000) (a s r:Bool) :
  Calls Tryz.prog 75 #[X.val,.bool a,.bool s,.bool r] W (zcl (brT ((t.kind==1&&a)||(t.kind==2&&s)||(t.kind==3&&r)) (zaf d t)) W):=by
 obtain ⟨o1,o2⟩:=h.ones
 have ek:t.kind=X.kind:=by obtain ⟨_,_,_,_,_,rfl⟩:=h.size;rfl
 rw [ek]
 have hb:=(Below.refl W.heap.size W).alloc (Nat.le_refl _) (xobj X.kind X.lo X.hi X.text X.ns X.ks)
 have hX:=X6.new W X.kind X.lo X.hi X.text X.ns X.ks
 have HTX:=hh9 (fun W' (hb':Below W.heap.size W W')=>ih W' X t (h.under hb') hr hl)
 have hsz:(za3 (zaf d t)).size<=1000000000000:=by rw [za9];exact hl
 obtain ⟨S,hS⟩:∃ S,S=za3 (zaf d t):=⟨_,rfl⟩
 have HBR:=hh9 (show ((⟨#[40]⟩:ByteArray)++S)++⟨#[41]⟩=za3 (brT true (zaf d t)) by
  rw [hS,show (⟨#[40]⟩:ByteArray)=za3 [40] from rfl,show (⟨#[41]⟩:ByteArray)=za3 [41] from rfl,zal,zal];rfl)
 have HNB:=hh9 (show S=za3 (brT false (zaf d t)) by rw [hS];rfl)
 have HTX2:Hid (∀ W',Below W.heap.size W W'->Calls Tryz.prog 51 #[X.val] W' (fun e w'=>e=.returned (.string S)/\Below W'.heap.size W' w')):=by rw [hS];exact HTX
 rw [<- hS] at hsz
 obtain ⟨k,s',nv,lo,hi,kv⟩:=X
 unfold xobj at hb hX
 obtain ⟨a0,a1,a2,a3,a4,a5⟩:=hX.cells
 have HB:=hh9 hb
 show Calls _ _ #[.agg #[.int .i64 k,.string s',nv,.int .i64 lo,.int .i64 hi,kv],.bool a,.bool s,.bool r] W _
 clear hb h hS hr hl ek HTX hX
 by_cases k1:k=1
 ·subst k1
  cases a
  all_goals
   go_enter Tryz.func75,Tryz.ntmps75
   go_wp2_with fail
   refine (HTX2.out _ HB.out).mono ?_
   rintro e w2 ⟨rfl,hb⟩
   have HB2:=hh9 (za0 HB.out hb)
   clear hb a0 a1 a2 a3 a4 a5
   go_wp2_with fail
   go_ret
   first
    | exact ⟨congrArg (fun u=>Ending.returned (Value.string u)) HBR.out,HB2.out⟩
    | exact ⟨congrArg (fun u=>Ending.returned (Value.string u)) HNB.out,HB2.out⟩
 by_cases k2:k=2
 ·subst k2
  cases s
  all_goals
   go_enter Tryz.func75,Tryz.ntmps75
   go_wp2_with fail
   refine (HTX2.out _ HB.out).mono ?_
   rintro e w2 ⟨rfl,hb⟩
   have HB2:=hh9 (za0 HB.out hb)
   clear hb a0 a1 a2 a3 a4 a5
   go_wp2_with fail
   go_ret
   first
    | exact ⟨congrArg (fun u=>Ending.returned (Value.string u)) HBR.out,HB2.out⟩
    | exact ⟨congrArg (fun u=>Ending.returned (Value.string u)) HNB.out,HB2.out⟩
 by_cases k3:k=3
 ·subst k3
  cases r
  all_goals
   go_enter Tryz.func75,Tryz.ntmps75
   go_wp2_with fail
   refine (HTX2.out _ HB.out).mono ?_
   rintro e w2 ⟨rfl,hb⟩
   have HB2:=hh9 (za0 HB.out hb)
   clear hb a0 a1 a2 a3 a4 a5
   go_wp2_with fail
   go_ret
   first
    | exact ⟨congrArg (fun u=>Ending.returned (Value.string u)) HBR.out,HB2.out⟩
    | exact ⟨congrArg (fun u=>Ending.returned (Value.string u)) HNB.out,HB2.out⟩
 have z1:(k==1)=false:=by simp;omega
 have z2:(k==2)=false:=by simp;omega
 have z3:(k==3)=false:=by simp;omega
 rw [z1,z2,z3,Bool.false_and,Bool.false_and,Bool.false_and]
 clear k1 k2 k3
 go_enter Tryz.func75,Tryz.ntmps75
 go_wp2_with fail
 refine (HTX2.out _ HB.out).mono ?_
 rintro e w2 ⟨rfl,hb⟩
 have HB2:=hh9 (za0 HB.out hb)
 clear hb a0 a1 a2 a3 a4 a5
 go_wp2_with fail
 go_ret
 exact ⟨congrArg (fun u=>Ending.returned (Value.string u)) HNB.out,HB2.out⟩
theorem zjc (p sp:List Int) (L:List (List Int)) (i:Nat) (x:List Int) (hx:L[i]?=some x):p++sepT sp (L.take (i+1))=(p++sepT sp (L.take i))++(if i=0 then [] else sp)++x:=by
 rw [List.take_add_one,hx]
 by_cases h:i=0
 ·subst h
  simp [sepT]
 ·have hne:L.take i≠[]:=by
   intro e
   have h1:=congrArg List.length e
   rw [List.length_take] at h1
   have h2:=(List.getElem?_eq_some_iff.1 hx).1
   have h3:min i L.length=0:=h1
   omega
  rw [if_neg h]
  show p++sepT sp (L.take i++[x])=_
  rw [zsg sp x _ hne]
  simp
theorem zsh (p sp:List Int) (L:List (List Int)) (i:Nat):(p++sepT sp (L.take i)).length<=(p++sepT sp L).length:=by
 have:=qaq sp L i
 simp only [List.length_append]
 omega
structure BoxIn (w W:World) (k lo hi:Int) (s:ByteArray) (ns ks:Value):Prop where
 arg:X6 W w.heap.size k lo hi s ns ks
 below:Below w.heap.size w W
theorem BoxIn.under {w W W1:World} {k lo hi:Int} {s:ByteArray} {ns ks:Value} (h:BoxIn w W k lo hi s ns ks) (hb:Below W.heap.size W W1):BoxIn w W1 k lo hi s ns ks:=⟨h.arg.under hb,za0 h.below hb⟩
theorem BoxIn.new (w:World) (k lo hi:Int) (s:ByteArray) (ns ks:Value):BoxIn w (w.alloc (xobj k lo hi s ns ks)) k lo hi s ns ks:=⟨X6.new w k lo hi s ns ks,(Below.refl _ _).alloc (Nat.le_refl _) _⟩
theorem qco {w:World} {S0:ByteArray} {ns:List Int} {lo hi:Int} {a:Option Addr} {ca n0 cc:Nat} {c:Option Addr} (h1:RowAny w (.slice a ns.length ca) ns.length (zat ns)) (hn:ns.all numB=true) (hn1:1<=ns.length)
  (hl:([37,120]++sepT [46] (ns.map fun n:Int=>hexT n.toNat)).length<=1000000000000) :
  Calls Tryz.prog 51 #[.agg #[.int .i64 6,.string S0,.slice a ns.length ca,.int .i64 lo,.int .i64 hi,.slice c n0 cc]] w (zcl ([37,120]++sepT [46] (ns.map fun n:Int=>hexT n.toNat)) w):=by
 obtain ⟨g,off,rfl,g1,g3,g4⟩:∃ g off,a=some ⟨g,off,none⟩/\ns.length<=9223372036854775807/\g<w.heap.size/\∀ (j:Nat) (u:Value),(zat ns)[j]?=some u->w.cell? ⟨g,off+j,none⟩=some u:=by
  rcases h1 with ⟨h0,_⟩ | ⟨g,off,cap',hv,f1,f2,f3,f4⟩
  ·omega
  ·injection hv with e1 e2 e3
   unfold maxLen at f2
   exact ⟨g,off,e1,by omega,f3,f4⟩
 obtain ⟨n,hnn⟩:∃ n,n=ns.length:=⟨_,rfl⟩
 rw [<- hnn] at g1 hn1 ⊢
 have HNN:=hh9 hnn
 have G4:=hh9 g4
 have HN:=hh9 hn
 have HL:=hh9 hl
 have hA:=BoxIn.new w 6 lo hi S0 (.slice (some ⟨g,off,none⟩) n ca) (.slice c n0 cc)
 unfold xobj at hA
 have HA0:=hh9 hA
 clear hnn g4 hn hl hA h1
 go_enter Tryz.func51,Tryz.ntmps51
 go_wp2_with fail
 go_loopw [3,5] (fun s v wr=>∃ (i:Nat) (T:ByteArray),s=.string T/\v=.int .i64 i/\i<=n/\T.size<=1000000000000/\Hid (T=za3 ([37,120]++sepT [46] ((ns.map fun n:Int=>hexT n.toNat).take i)))/\Hid (BoxIn w wr 6 lo hi S0 (.slice (some ⟨g,off,none⟩) n ca) (.slice c n0 cc))) (fun _ v _=>n-(intOf v).toNat)
 case atStart=>exact ⟨0,_,rfl,rfl,by omega,by decide,rfl,HA0⟩
 case round =>
  obtain ⟨i,T,rfl,rfl,hi',hT,HT,HA⟩:=hrel
  obtain ⟨a0,a1,a2,a3,a4,a5⟩:=HA.out.arg.cells
  by_cases hlt:i<n
  ·obtain ⟨Z,hZ⟩:∃ z,ns[i]?=some z:=⟨_,List.getElem?_eq_getElem (by rw [<- HNN.out];exact hlt)⟩
   have c0:=(HA.out.below.cell (p:=⟨g,off+i,none⟩) g3).trans (G4.out i _ (zec hZ))
   have hz:=List.all_eq_true.1 HN.out Z (List.mem_of_getElem? hZ)
   unfold numB at hz
   simp at hz
   have hx:(ns.map fun n:Int=>hexT n.toNat)[i]?=some (hexT Z.toNat):=by rw [List.getElem?_map,hZ];rfl
   have hnx:=zjc [37,120] [46] _ i _ hx
   have hle:=zsh [37,120] [46] (ns.map fun n:Int=>hexT n.toNat) (i+1)
   have HH:=hh9 (fun W=>qba hz.1 hz.2 W)
   have hl6:=ziv Z.toNat
   obtain ⟨H,hH⟩:∃ H,H=za3 (hexT Z.toNat):=⟨_,rfl⟩
   have hHs:H.size<=6:=by rw [hH,za9];exact hl6
   have HH2:Hid (∀ W,Calls Tryz.prog 77 #[.int .i64 Z] W (fun e w'=>e=.returned (.string H)/\Below W.heap.size W w')):=by rw [hH];exact HH
   by_cases hi0:i=0
   ·subst hi0
    have HNX:=hh9 (show T++H=za3 ([37,120]++sepT [46] ((ns.map fun n:Int=>hexT n.toNat).take (0+1))) by
     rw [HT.out,hH,hnx,zal,if_pos rfl,List.append_nil])
    have HSZ:=hh9 (show (T++H).size<=1000000000000 by rw [HNX.out,za9];exact Nat.le_trans hle HL.out)
    have c1:=c0
    rw [Nat.add_zero] at c1
    clear hZ hz hx hnx hle hH hl6 HH
    go_wp2_with fail
    refine (HH2.out _).mono ?_
    rintro e w1 ⟨rfl,hb⟩
    have HA2:=hh9 (HA.out.under hb)
    clear hb a0 a1 a2 a3 a4 a5
    go_wp2_with fail
    go_roundw
    case rel=>exact ⟨0+1,_,rfl,by go_num,by omega,HSZ.out,HNX,HA2⟩
    case measure=>simp [intOf];omega
   ·have hip:0<i:=by omega
    have qip:decide ((0:Int)<(i:Int))=true:=decide_eq_true (by omega)
    have qip2:decide (0<i)=true:=decide_eq_true hip
    have HNX:=hh9 (show (T++(⟨#[46]⟩:ByteArray))++H=za3 ([37,120]++sepT [46] ((ns.map fun n:Int=>hexT n.toNat).take (i+1))) by
     rw [HT.out,hH,hnx,show (⟨#[46]⟩:ByteArray)=za3 [46] from rfl,zal,zal,if_neg hi0])
    have HSZ:=hh9 (show ((T++(⟨#[46]⟩:ByteArray))++H).size<=1000000000000 by rw [HNX.out,za9];exact Nat.le_trans hle HL.out)
    have hsz1:(T++(⟨#[46]⟩:ByteArray)).size<=1000000000001:=by rw [ByteArray.size_append];show T.size+1<=_;omega
    clear hZ hz hx hnx hle hH hl6 HH
    go_wp2_with fail
    refine (HH2.out _).mono ?_
    rintro e w1 ⟨rfl,hb⟩
    have HA2:=hh9 (HA.out.under hb)
    clear hb a0 a1 a2 a3 a4 a5
    go_wp2_with fail
    go_roundw
    case rel=>exact ⟨i+1,_,rfl,by go_num,by omega,HSZ.out,HNX,HA2⟩
    case measure=>simp [intOf];omega
  ·have HFIN:=hh9 (show T=za3 ([37,120]++sepT [46] (ns.map fun n:Int=>hexT n.toNat)) by
    have:=HT.out
    rwa [List.take_of_length_le (by rw [List.length_map,<- HNN.out];omega)] at this)
   go_wp2_with fail
   go_ret
   exact ⟨congrArg (fun u=>Ending.returned (Value.string u)) HFIN.out,HA.out.below⟩
theorem qcp {w:World} {S0:ByteArray} {ns:List Int} {lo hi:Int} {a:Option Addr} {ca n0 cc:Nat} {c:Option Addr} (h1:RowAny w (.slice a ns.length ca) ns.length (zat ns)) (hn:ns.all numB=true) (hn1:1<=ns.length)
  (hl:([37,120]++sepT [45] (ns.map fun n:Int=>hexT n.toNat)).length<=1000000000000) :
  Calls Tryz.prog 51 #[.agg #[.int .i64 7,.string S0,.slice a ns.length ca,.int .i64 lo,.int .i64 hi,.slice c n0 cc]] w (zcl ([37,120]++sepT [45] (ns.map fun n:Int=>hexT n.toNat)) w):=by
 obtain ⟨g,off,rfl,g1,g3,g4⟩:∃ g off,a=some ⟨g,off,none⟩/\ns.length<=9223372036854775807/\g<w.heap.size/\∀ (j:Nat) (u:Value),(zat ns)[j]?=some u->w.cell? ⟨g,off+j,none⟩=some u:=by
  rcases h1 with ⟨h0,_⟩ | ⟨g,off,cap',hv,f1,f2,f3,f4⟩
  ·omega
  ·injection hv with e1 e2 e3
   unfold maxLen at f2
   exact ⟨g,off,e1,by omega,f3,f4⟩
 obtain ⟨n,hnn⟩:∃ n,n=ns.length:=⟨_,rfl⟩
 rw [<- hnn] at g1 hn1 ⊢
 have HNN:=hh9 hnn
 have G4:=hh9 g4
 have HN:=hh9 hn
 have HL:=hh9 hl
 have hA:=BoxIn.new w 7 lo hi S0 (.slice (some ⟨g,off,none⟩) n ca) (.slice c n0 cc)
 unfold xobj at hA
 have HA0:=hh9 hA
 clear hnn g4 hn hl hA h1
 go_enter Tryz.func51,Tryz.ntmps51
 go_wp2_with fail
 go_loopw [3,5] (fun s v wr=>∃ (i:Nat) (T:ByteArray),s=.string T/\v=.int .i64 i/\i<=n/\T.size<=1000000000000/\Hid (T=za3 ([37,120]++sepT [45] ((ns.map fun n:Int=>hexT n.toNat).take i)))/\Hid (BoxIn w wr 7 lo hi S0 (.slice (some ⟨g,off,none⟩) n ca) (.slice c n0 cc))) (fun _ v _=>n-(intOf v).toNat)
 case atStart=>exact ⟨0,_,rfl,rfl,by omega,by decide,rfl,HA0⟩
 case round =>
  obtain ⟨i,T,rfl,rfl,hi',hT,HT,HA⟩:=hrel
  obtain ⟨a0,a1,a2,a3,a4,a5⟩:=HA.out.arg.cells
  by_cases hlt:i<n
  ·obtain ⟨Z,hZ⟩:∃ z,ns[i]?=some z:=⟨_,List.getElem?_eq_getElem (by rw [<- HNN.out];exact hlt)⟩
   have c0:=(HA.out.below.cell (p:=⟨g,off+i,none⟩) g3).trans (G4.out i _ (zec hZ))
   have hz:=List.all_eq_true.1 HN.out Z (List.mem_of_getElem? hZ)
   unfold numB at hz
   simp at hz
   have hx:(ns.map fun n:Int=>hexT n.toNat)[i]?=some (hexT Z.toNat):=by rw [List.getElem?_map,hZ];rfl
   have hnx:=zjc [37,120] [45] _ i _ hx
   have hle:=zsh [37,120] [45] (ns.map fun n:Int=>hexT n.toNat) (i+1)
   have HH:=hh9 (fun W=>qba hz.1 hz.2 W)
   have hl6:=ziv Z.toNat
   obtain ⟨H,hH⟩:∃ H,H=za3 (hexT Z.toNat):=⟨_,rfl⟩
   have hHs:H.size<=6:=by rw [hH,za9];exact hl6
   have HH2:Hid (∀ W,Calls Tryz.prog 77 #[.int .i64 Z] W (fun e w'=>e=.returned (.string H)/\Below W.heap.size W w')):=by rw [hH];exact HH
   by_cases hi0:i=0
   ·subst hi0
    have HNX:=hh9 (show T++H=za3 ([37,120]++sepT [45] ((ns.map fun n:Int=>hexT n.toNat).take (0+1))) by
     rw [HT.out,hH,hnx,zal,if_pos rfl,List.append_nil])
    have HSZ:=hh9 (show (T++H).size<=1000000000000 by rw [HNX.out,za9];exact Nat.le_trans hle HL.out)
    have c1:=c0
    rw [Nat.add_zero] at c1
    clear hZ hz hx hnx hle hH hl6 HH
    go_wp2_with fail
    refine (HH2.out _).mono ?_
    rintro e w1 ⟨rfl,hb⟩
    have HA2:=hh9 (HA.out.under hb)
    clear hb a0 a1 a2 a3 a4 a5
    go_wp2_with fail
    go_roundw
    case rel=>exact ⟨0+1,_,rfl,by go_num,by omega,HSZ.out,HNX,HA2⟩
    case measure=>simp [intOf];omega
   ·have hip:0<i:=by omega
    have qip:decide ((0:Int)<(i:Int))=true:=decide_eq_true (by omega)
    have qip2:decide (0<i)=true:=decide_eq_true hip
    have HNX:=hh9 (show (T++(⟨#[45]⟩:ByteArray))++H=za3 ([37,120]++sepT [45] ((ns.map fun n:Int=>hexT n.toNat).take (i+1))) by
     rw [HT.out,hH,hnx,show (⟨#[45]⟩:ByteArray)=za3 [45] from rfl,zal,zal,if_neg hi0])
    have HSZ:=hh9 (show ((T++(⟨#[45]⟩:ByteArray))++H).size<=1000000000000 by rw [HNX.out,za9];exact Nat.le_trans hle HL.out)
    have hsz1:(T++(⟨#[45]⟩:ByteArray)).size<=1000000000001:=by rw [ByteArray.size_append];show T.size+1<=_;omega
    clear hZ hz hx hnx hle hH hl6 HH
    go_wp2_with fail
    refine (HH2.out _).mono ?_
    rintro e w1 ⟨rfl,hb⟩
    have HA2:=hh9 (HA.out.under hb)
    clear hb a0 a1 a2 a3 a4 a5
    go_wp2_with fail
    go_roundw
    case rel=>exact ⟨i+1,_,rfl,by go_num,by omega,HSZ.out,HNX,HA2⟩
    case measure=>simp [intOf];omega
  ·have HFIN:=hh9 (show T=za3 ([37,120]++sepT [45] (ns.map fun n:Int=>hexT n.toNat)) by
    have:=HT.out
    rwa [List.take_of_length_le (by rw [List.length_map,<- HNN.out];omega)] at this)
   go_wp2_with fail
   go_ret
   exact ⟨congrArg (fun u=>Ending.returned (Value.string u)) HFIN.out,HA.out.below⟩
def FewS (w:World) (k:Int) (kv:Value) (g o:Nat) (k' lo' hi':Int) (s:ByteArray) (ns' ks':Value) (W:World):Prop :=
 (W.cell? ⟨w.heap.size,0,none⟩=some (.int .i64 k)/\W.cell? ⟨w.heap.size,5,none⟩=some kv) /\
 (W.cell? ⟨g,o,none⟩=some (.int .i64 k')/\W.cell? ⟨g,o+1,none⟩=some (.string s)/\W.cell? ⟨g,o+2,none⟩=some ns'/\W.cell? ⟨g,o+3,none⟩=some (.int .i64 lo')/\W.cell? ⟨g,o+4,none⟩=some (.int .i64 hi')/\W.cell? ⟨g,o+5,none⟩=some ks')/\Below w.heap.size w W
theorem FewS.step {w:World} {k:Int} {kv:Value} {g o:Nat} {k' lo' hi':Int} {s:ByteArray} {ns' ks':Value} {W W':World} (hb:Below W.heap.size W W') (h:FewS w k kv g o k' lo' hi' s ns' ks' W):FewS w k kv g o k' lo' hi' s ns' ks' W' :=
 ⟨⟨zac h.1.1 hb,zac h.1.2 hb⟩,⟨zac h.2.1.1 hb,zac h.2.1.2.1 hb,zac h.2.1.2.2.1 hb,zac h.2.1.2.2.2.1 hb,zac h.2.1.2.2.2.2.1 hb,zac h.2.1.2.2.2.2.2 hb⟩,za0 h.2.2 hb⟩
theorem FewS.drew {w:World} {k:Int} {kv:Value} {g o:Nat} {k' lo' hi':Int} {s:ByteArray} {ns' ks':Value} {W:World} (h:FewS w k kv g o k' lo' hi' s ns' ks' W):FewS w k kv g o k' lo' hi' s ns' ks' W.drew:=⟨h.1,h.2.1,za7 h.2.2 1⟩
theorem FewS.bel {w:World} {k:Int} {kv:Value} {g o:Nat} {k' lo' hi':Int} {s:ByteArray} {ns' ks':Value} {W:World} (h:FewS w k kv g o k' lo' hi' s ns' ks' W):Below w.heap.size w W:=h.2.2
theorem RowAny.at4 {W:World} {c:Option Addr} {n cap:Nat} {xs:List Value} (h:RowAny W (.slice c n cap) n xs) (hn:0<n):∃ g off,c=some ⟨g,off,none⟩/\n<=cap/\g<W.heap.size/\∀ (j:Nat) (u:Value),xs[j]?=some u->W.cell? ⟨g,off+j,none⟩=some u:=by
 rcases h with ⟨h0,_⟩ | ⟨g,off,cap',hv,h1,h2,h3,h4⟩
 ·omega
 ·injection hv with e1 e2 e3
  subst e1 e3
  exact ⟨g,off,rfl,h1,h3,h4⟩
theorem qe3 {d:Nat} (ih:zg8 d) {w:World} {S0:ByteArray} {kids:List Tree} {vs:List XV} {lo hi:Int} {a c:Option Addr} {m ca n0 cc:Nat} (h2:ze6 w (.slice c kids.length cc) vs kids) (hr:∀ t∈kids,zax d t=true) (hn1:2<=kids.length) (hn2:kids.length<=9223372036854775807)
  (hl:([]++sepT [32,47,32] (kids.map (fun t:Tree=>brT (t.kind==1) (zaf d t)))).length<=1000000000000) :
  Calls Tryz.prog 51 #[.agg #[.int .i64 1,.string S0,.slice a m ca,.int .i64 lo,.int .i64 hi,.slice c kids.length cc]] w (zcl ([]++sepT [32,47,32] (kids.map (fun t:Tree=>brT (t.kind==1) (zaf d t)))) w):=by
 obtain ⟨r1,r2,r3⟩:=h2
 obtain ⟨g,off,rfl,g1,g3,g4⟩:=r1.at4 (by omega)
 obtain ⟨n,hnn⟩:∃ n,n=kids.length:=⟨_,rfl⟩
 rw [<- hnn] at g1 hn1 hn2 r2 ⊢
 have HNN:=hh9 hnn
 have G4:=hh9 g4
 have HR2:=hh9 r2
 have HR3:=hh9 r3
 have HR:=hh9 hr
 have HL:=hh9 hl
 have HIH:=hh9 ih
 have hA:=BoxIn.new w 1 lo hi S0 (.slice a m ca) (.slice (some ⟨g,off,none⟩) n cc)
 unfold xobj at hA
 have HA0:=hh9 hA
 clear hnn g4 hr hl hA r1 r2 r3 ih
 go_enter Tryz.func51,Tryz.ntmps51
 go_wp2_with fail
 go_loopw [3,4] (fun s v wr=>∃ (i:Nat) (T:ByteArray),s=.string T/\v=.int .i64 i/\i<=n/\T.size<=1000000000000/\Hid (T=za3 ([]++sepT [32,47,32] ((kids.map (fun t:Tree=>brT (t.kind==1) (zaf d t))).take i)))/\Hid (BoxIn w wr 1 lo hi S0 (.slice a m ca) (.slice (some ⟨g,off,none⟩) n cc))) (fun _ v _=>n-(intOf v).toNat)
 case atStart=>exact ⟨0,_,rfl,rfl,by omega,by decide,rfl,HA0⟩
 case round =>
  obtain ⟨i,T,rfl,rfl,hi',hT,HT,HA⟩:=hrel
  obtain ⟨a0,a1,a2,a3,a4,a5⟩:=HA.out.arg.cells
  by_cases hlt:i<n
  ·obtain ⟨Y,hY⟩:∃ y,vs[i]?=some y:=⟨_,List.getElem?_eq_getElem (by rw [HR2.out];exact hlt)⟩
   obtain ⟨t,ht⟩:∃ y,kids[i]?=some y:=⟨_,List.getElem?_eq_getElem (by rw [<- HNN.out];exact hlt)⟩
   have CX:∀ (j:Nat) (u:Value),j<6->Y.cells[j]?=some u->wr.cell? ⟨g,off+(i*6+j),none⟩=some u:=fun j u hj hu =>
    (HA.out.below.cell (p:=⟨g,off+(i*6+j),none⟩) g3).trans (G4.out _ u ((zc9 vs i j Y hY hj).trans hu))
   have hYt:=HR3.out i Y t hY ht
   have hx:(kids.map (fun t:Tree=>brT (t.kind==1) (zaf d t)))[i]?=some (brT (t.kind==1) (zaf d t)):=by rw [List.getElem?_map,ht];rfl
   have hnx:=zjc [] [32,47,32] _ i _ hx
   have hle:=zsh [] [32,47,32] (kids.map (fun t:Tree=>brT (t.kind==1) (zaf d t))) (i+1)
   have hel:(brT (t.kind==1) (zaf d t)).length<=1000000000000:=by
    have h1:=Nat.le_trans hle HL.out
    rw [hnx] at h1
    simp only [List.length_append] at h1
    omega
   have htl:=Nat.le_trans (zv3 (t.kind==1) (zaf d t)) hel
   have HI:=hh9 (fun W' (hb:Below w.heap.size w W')=>zie HIH.out (hYt.under hb) (HR.out t (List.mem_of_getElem? ht)) htl true false false)
   have ebr:((t.kind==1&&true)||(t.kind==2&&false)||(t.kind==3&&false))=(t.kind==1):=by cases (t.kind==1)<;>cases (t.kind==2)<;>cases (t.kind==3)<;>rfl
   rw [ebr] at HI
   obtain ⟨E,hE⟩:∃ E,E=za3 (brT (t.kind==1) (zaf d t)):=⟨_,rfl⟩
   have hEs:E.size<=1000000000000:=by rw [hE,za9];exact hel
   have HI2:Hid (∀ W',Below w.heap.size w W'->Calls Tryz.prog 75 #[Y.val,.bool true,.bool false,.bool false] W' (fun e w'=>e=.returned (.string E)/\Below W'.heap.size W' w')):=by rw [hE];exact HI
   obtain ⟨k',s',nv',lo',hi'',kv'⟩:=Y
   have e0:=CX 0 _ (by omega) rfl
   have e1:=CX 1 _ (by omega) rfl
   have e2:=CX 2 _ (by omega) rfl
   have e3:=CX 3 _ (by omega) rfl
   have e4:=CX 4 _ (by omega) rfl
   have e5:=CX 5 _ (by omega) rfl
   rw [<- Nat.add_assoc] at e0 e1 e2 e3 e4 e5
   rw [Nat.add_zero] at e0
   clear CX ebr htl hel
   by_cases hi0:i=0
   ·subst hi0
    rw [Nat.zero_mul,Nat.add_zero] at e0 e1 e2 e3 e4 e5
    have HNX:=hh9 (show T++E=za3 ([]++sepT [32,47,32] ((kids.map (fun t:Tree=>brT (t.kind==1) (zaf d t))).take (0+1))) by
     rw [HT.out,hE,hnx,zal,if_pos rfl,List.append_nil])
    have HSZ:=hh9 (show (T++E).size<=1000000000000 by rw [HNX.out,za9];exact Nat.le_trans hle HL.out)
    have hsz2:T.size<=1000000000003:=by omega
    have hadd:∀ W:World,(Op.stringOp .add T E).run Tryz.prog W=.ok (.string (T++E)) W:=fun W=>run_string_add_sum W _ _ (by omega)
    clear hx hnx hle hE HI hY ht hYt
    go_wp2_with fail
    go_region_held3 (fun W=>(W.cell? ⟨w.heap.size,0,none⟩=some (.int .i64 1)/\W.cell? ⟨w.heap.size,5,none⟩=some (.slice (some ⟨g,off,none⟩) n cc)) /\
      (W.cell? ⟨g,off,none⟩=some (.int .i64 k')/\W.cell? ⟨g,off+1,none⟩=some (.string s')/\W.cell? ⟨g,off+2,none⟩=some nv'/\W.cell? ⟨g,off+3,none⟩=some (.int .i64 lo')/\W.cell? ⟨g,off+4,none⟩=some (.int .i64 hi'')/\W.cell? ⟨g,off+5,none⟩=some kv')/\Below w.heap.size w W)
     (first | exact FewS.step (by assumption) (by assumption) | exact FewS.drew (by assumption) | exact ⟨⟨by assumption,by assumption⟩,⟨by assumption,by assumption,by assumption,by assumption,by assumption,by assumption⟩,za7 HA.out.below 1⟩)
     (first | (go_at_call 75;refine (HI2.out _ (FewS.bel (by assumption))).mono ?_;rintro e w' ⟨rfl,hb'⟩;have HBX:=hh9 hb'))
    rename_i hS
    have HA2:Hid (BoxIn w _ 1 lo hi S0 (.slice a m ca) (.slice (some ⟨g,off,none⟩) n cc)):=((HA.out.under (za7 (Below.refl _ _) 1)).under HBX.out)
    clear hS a0 a1 a2 a3 a4 a5 e0 e1 e2 e3 e4 e5 hb'
    go_wp2_with fail
    go_roundw
    case rel=>exact ⟨0+1,_,rfl,by go_num,by omega,HSZ.out,HNX,HA2⟩
    case measure=>simp [intOf];omega
   ·have hip:0<i:=by omega
    have qip:decide ((0:Int)<(i:Int))=true:=decide_eq_true (by omega)
    have qip2:decide (0<i)=true:=decide_eq_true hip
    have HNX:=hh9 (show ((T++(⟨#[32,47]⟩:ByteArray))++(⟨#[32]⟩:ByteArray))++E=za3 ([]++sepT [32,47,32] ((kids.map (fun t:Tree=>brT (t.kind==1) (zaf d t))).take (i+1))) by
     rw [HT.out,hE,hnx,show (⟨#[32,47]⟩:ByteArray)=za3 [32,47] from rfl,show (⟨#[32]⟩:ByteArray)=za3 [32] from rfl,zal,zal,zal,if_neg hi0,List.append_assoc _ [32,47] [32]];rfl)
    have HSZ:=hh9 (show (((T++(⟨#[32,47]⟩:ByteArray))++(⟨#[32]⟩:ByteArray))++E).size<=1000000000000 by rw [HNX.out,za9];exact Nat.le_trans hle HL.out)
    have hsz2:((T++(⟨#[32,47]⟩:ByteArray))++(⟨#[32]⟩:ByteArray)).size<=1000000000003:=by rw [ByteArray.size_append,ByteArray.size_append];show T.size+2+1<=_;omega
    have hadd:∀ W:World,(Op.stringOp .add ((T++(⟨#[32,47]⟩:ByteArray))++(⟨#[32]⟩:ByteArray)) E).run Tryz.prog W=.ok (.string (((T++(⟨#[32,47]⟩:ByteArray))++(⟨#[32]⟩:ByteArray))++E)) W:=fun W=>run_string_add_sum W _ _ (by omega)
    have hsz3:(T++(⟨#[32,47]⟩:ByteArray)).size<=1000000000002:=by rw [ByteArray.size_append];show T.size+2<=_;omega
    clear hx hnx hle hE HI hY ht hYt
    go_wp2_with fail
    go_region_held3 (fun W=>(W.cell? ⟨w.heap.size,0,none⟩=some (.int .i64 1)/\W.cell? ⟨w.heap.size,5,none⟩=some (.slice (some ⟨g,off,none⟩) n cc)) /\
      (W.cell? ⟨g,off+i*6,none⟩=some (.int .i64 k')/\W.cell? ⟨g,off+i*6+1,none⟩=some (.string s')/\W.cell? ⟨g,off+i*6+2,none⟩=some nv'/\W.cell? ⟨g,off+i*6+3,none⟩=some (.int .i64 lo')/\W.cell? ⟨g,off+i*6+4,none⟩=some (.int .i64 hi'')/\W.cell? ⟨g,off+i*6+5,none⟩=some kv')/\Below w.heap.size w W)
     (first | exact FewS.step (by assumption) (by assumption) | exact FewS.drew (by assumption) | exact ⟨⟨by assumption,by assumption⟩,⟨by assumption,by assumption,by assumption,by assumption,by assumption,by assumption⟩,za7 HA.out.below 1⟩)
     (first | (go_at_call 75;refine (HI2.out _ (FewS.bel (by assumption))).mono ?_;rintro e w' ⟨rfl,hb'⟩;have HBX:=hh9 hb'))
    rename_i hS
    have HA2:Hid (BoxIn w _ 1 lo hi S0 (.slice a m ca) (.slice (some ⟨g,off,none⟩) n cc)):=((HA.out.under (za7 (Below.refl _ _) 1)).under HBX.out)
    clear hS a0 a1 a2 a3 a4 a5 e0 e1 e2 e3 e4 e5 hb'
    go_wp2_with fail
    go_roundw
    case rel=>exact ⟨i+1,_,rfl,by go_num,by omega,HSZ.out,HNX,HA2⟩
    case measure=>simp [intOf];omega
  ·have HFIN:=hh9 (show T=za3 ([]++sepT [32,47,32] (kids.map (fun t:Tree=>brT (t.kind==1) (zaf d t)))) by
    have:=HT.out
    rwa [List.take_of_length_le (by rw [List.length_map,<- HNN.out];omega)] at this)
   go_wp2_with fail
   go_ret
   exact ⟨congrArg (fun u=>Ending.returned (Value.string u)) HFIN.out,HA.out.below⟩
theorem qe4 {d:Nat} (ih:zg8 d) {w:World} {S0:ByteArray} {kids:List Tree} {vs:List XV} {lo hi:Int} {a c:Option Addr} {m ca n0 cc:Nat} (h2:ze6 w (.slice c kids.length cc) vs kids) (hr:∀ t∈kids,zax d t=true) (hn1:2<=kids.length) (hn2:kids.length<=9223372036854775807)
  (hl:([]++sepT [32] (kids.map (fun t:Tree=>brT (t.kind==1||t.kind==2) (zaf d t)))).length<=1000000000000) :
  Calls Tryz.prog 51 #[.agg #[.int .i64 2,.string S0,.slice a m ca,.int .i64 lo,.int .i64 hi,.slice c kids.length cc]] w (zcl ([]++sepT [32] (kids.map (fun t:Tree=>brT (t.kind==1||t.kind==2) (zaf d t)))) w):=by
 obtain ⟨r1,r2,r3⟩:=h2
 obtain ⟨g,off,rfl,g1,g3,g4⟩:=r1.at4 (by omega)
 obtain ⟨n,hnn⟩:∃ n,n=kids.length:=⟨_,rfl⟩
 rw [<- hnn] at g1 hn1 hn2 r2 ⊢
 have HNN:=hh9 hnn
 have G4:=hh9 g4
 have HR2:=hh9 r2
 have HR3:=hh9 r3
 have HR:=hh9 hr
 have HL:=hh9 hl
 have HIH:=hh9 ih
 have hA:=BoxIn.new w 2 lo hi S0 (.slice a m ca) (.slice (some ⟨g,off,none⟩) n cc)
 unfold xobj at hA
 have HA0:=hh9 hA
 clear hnn g4 hr hl hA r1 r2 r3 ih
 go_enter Tryz.func51,Tryz.ntmps51
 go_wp2_with fail
 go_loopw [3,4] (fun s v wr=>∃ (i:Nat) (T:ByteArray),s=.string T/\v=.int .i64 i/\i<=n/\T.size<=1000000000000/\Hid (T=za3 ([]++sepT [32] ((kids.map (fun t:Tree=>brT (t.kind==1||t.kind==2) (zaf d t))).take i)))/\Hid (BoxIn w wr 2 lo hi S0 (.slice a m ca) (.slice (some ⟨g,off,none⟩) n cc))) (fun _ v _=>n-(intOf v).toNat)
 case atStart=>exact ⟨0,_,rfl,rfl,by omega,by decide,rfl,HA0⟩
 case round =>
  obtain ⟨i,T,rfl,rfl,hi',hT,HT,HA⟩:=hrel
  obtain ⟨a0,a1,a2,a3,a4,a5⟩:=HA.out.arg.cells
  by_cases hlt:i<n
  ·obtain ⟨Y,hY⟩:∃ y,vs[i]?=some y:=⟨_,List.getElem?_eq_getElem (by rw [HR2.out];exact hlt)⟩
   obtain ⟨t,ht⟩:∃ y,kids[i]?=some y:=⟨_,List.getElem?_eq_getElem (by rw [<- HNN.out];exact hlt)⟩
   have CX:∀ (j:Nat) (u:Value),j<6->Y.cells[j]?=some u->wr.cell? ⟨g,off+(i*6+j),none⟩=some u:=fun j u hj hu =>
    (HA.out.below.cell (p:=⟨g,off+(i*6+j),none⟩) g3).trans (G4.out _ u ((zc9 vs i j Y hY hj).trans hu))
   have hYt:=HR3.out i Y t hY ht
   have hx:(kids.map (fun t:Tree=>brT (t.kind==1||t.kind==2) (zaf d t)))[i]?=some (brT (t.kind==1||t.kind==2) (zaf d t)):=by rw [List.getElem?_map,ht];rfl
   have hnx:=zjc [] [32] _ i _ hx
   have hle:=zsh [] [32] (kids.map (fun t:Tree=>brT (t.kind==1||t.kind==2) (zaf d t))) (i+1)
   have hel:(brT (t.kind==1||t.kind==2) (zaf d t)).length<=1000000000000:=by
    have h1:=Nat.le_trans hle HL.out
    rw [hnx] at h1
    simp only [List.length_append] at h1
    omega
   have htl:=Nat.le_trans (zv3 (t.kind==1||t.kind==2) (zaf d t)) hel
   have HI:=hh9 (fun W' (hb:Below w.heap.size w W')=>zie HIH.out (hYt.under hb) (HR.out t (List.mem_of_getElem? ht)) htl true true false)
   have ebr:((t.kind==1&&true)||(t.kind==2&&true)||(t.kind==3&&false))=(t.kind==1||t.kind==2):=by cases (t.kind==1)<;>cases (t.kind==2)<;>cases (t.kind==3)<;>rfl
   rw [ebr] at HI
   obtain ⟨E,hE⟩:∃ E,E=za3 (brT (t.kind==1||t.kind==2) (zaf d t)):=⟨_,rfl⟩
   have hEs:E.size<=1000000000000:=by rw [hE,za9];exact hel
   have HI2:Hid (∀ W',Below w.heap.size w W'->Calls Tryz.prog 75 #[Y.val,.bool true,.bool true,.bool false] W' (fun e w'=>e=.returned (.string E)/\Below W'.heap.size W' w')):=by rw [hE];exact HI
   obtain ⟨k',s',nv',lo',hi'',kv'⟩:=Y
   have e0:=CX 0 _ (by omega) rfl
   have e1:=CX 1 _ (by omega) rfl
   have e2:=CX 2 _ (by omega) rfl
   have e3:=CX 3 _ (by omega) rfl
   have e4:=CX 4 _ (by omega) rfl
   have e5:=CX 5 _ (by omega) rfl
   rw [<- Nat.add_assoc] at e0 e1 e2 e3 e4 e5
   rw [Nat.add_zero] at e0
   clear CX ebr htl hel
   by_cases hi0:i=0
   ·subst hi0
    rw [Nat.zero_mul,Nat.add_zero] at e0 e1 e2 e3 e4 e5
    have HNX:=hh9 (show T++E=za3 ([]++sepT [32] ((kids.map (fun t:Tree=>brT (t.kind==1||t.kind==2) (zaf d t))).take (0+1))) by
     rw [HT.out,hE,hnx,zal,if_pos rfl,List.append_nil])
    have HSZ:=hh9 (show (T++E).size<=1000000000000 by rw [HNX.out,za9];exact Nat.le_trans hle HL.out)
    have hsz2:T.size<=1000000000003:=by omega
    have hadd:∀ W:World,(Op.stringOp .add T E).run Tryz.prog W=.ok (.string (T++E)) W:=fun W=>run_string_add_sum W _ _ (by omega)
    clear hx hnx hle hE HI hY ht hYt
    go_wp2_with fail
    go_region_held3 (fun W=>(W.cell? ⟨w.heap.size,0,none⟩=some (.int .i64 2)/\W.cell? ⟨w.heap.size,5,none⟩=some (.slice (some ⟨g,off,none⟩) n cc)) /\
      (W.cell? ⟨g,off,none⟩=some (.int .i64 k')/\W.cell? ⟨g,off+1,none⟩=some (.string s')/\W.cell? ⟨g,off+2,none⟩=some nv'/\W.cell? ⟨g,off+3,none⟩=some (.int .i64 lo')/\W.cell? ⟨g,off+4,none⟩=some (.int .i64 hi'')/\W.cell? ⟨g,off+5,none⟩=some kv')/\Below w.heap.size w W)
     (first | exact FewS.step (by assumption) (by assumption) | exact FewS.drew (by assumption) | exact ⟨⟨by assumption,by assumption⟩,⟨by assumption,by assumption,by assumption,by assumption,by assumption,by assumption⟩,za7 HA.out.below 1⟩)
     (first | (go_at_call 75;refine (HI2.out _ (FewS.bel (by assumption))).mono ?_;rintro e w' ⟨rfl,hb'⟩;have HBX:=hh9 hb'))
    rename_i hS
    have HA2:Hid (BoxIn w _ 2 lo hi S0 (.slice a m ca) (.slice (some ⟨g,off,none⟩) n cc)):=((HA.out.under (za7 (Below.refl _ _) 1)).under HBX.out)
    clear hS a0 a1 a2 a3 a4 a5 e0 e1 e2 e3 e4 e5 hb'
    go_wp2_with fail
    go_roundw
    case rel=>exact ⟨0+1,_,rfl,by go_num,by omega,HSZ.out,HNX,HA2⟩
    case measure=>simp [intOf];omega
   ·have hip:0<i:=by omega
    have qip:decide ((0:Int)<(i:Int))=true:=decide_eq_true (by omega)
    have qip2:decide (0<i)=true:=decide_eq_true hip
    have HNX:=hh9 (show (T++(⟨#[32]⟩:ByteArray))++E=za3 ([]++sepT [32] ((kids.map (fun t:Tree=>brT (t.kind==1||t.kind==2) (zaf d t))).take (i+1))) by
     rw [HT.out,hE,hnx,show (⟨#[32]⟩:ByteArray)=za3 [32] from rfl,zal,zal,if_neg hi0])
    have HSZ:=hh9 (show ((T++(⟨#[32]⟩:ByteArray))++E).size<=1000000000000 by rw [HNX.out,za9];exact Nat.le_trans hle HL.out)
    have hsz2:(T++(⟨#[32]⟩:ByteArray)).size<=1000000000003:=by rw [ByteArray.size_append];show T.size+1<=_;omega
    have hadd:∀ W:World,(Op.stringOp .add (T++(⟨#[32]⟩:ByteArray)) E).run Tryz.prog W=.ok (.string ((T++(⟨#[32]⟩:ByteArray))++E)) W:=fun W=>run_string_add_sum W _ _ (by omega)
    clear hx hnx hle hE HI hY ht hYt
    go_wp2_with fail
    go_region_held3 (fun W=>(W.cell? ⟨w.heap.size,0,none⟩=some (.int .i64 2)/\W.cell? ⟨w.heap.size,5,none⟩=some (.slice (some ⟨g,off,none⟩) n cc)) /\
      (W.cell? ⟨g,off+i*6,none⟩=some (.int .i64 k')/\W.cell? ⟨g,off+i*6+1,none⟩=some (.string s')/\W.cell? ⟨g,off+i*6+2,none⟩=some nv'/\W.cell? ⟨g,off+i*6+3,none⟩=some (.int .i64 lo')/\W.cell? ⟨g,off+i*6+4,none⟩=some (.int .i64 hi'')/\W.cell? ⟨g,off+i*6+5,none⟩=some kv')/\Below w.heap.size w W)
     (first | exact FewS.step (by assumption) (by assumption) | exact FewS.drew (by assumption) | exact ⟨⟨by assumption,by assumption⟩,⟨by assumption,by assumption,by assumption,by assumption,by assumption,by assumption⟩,za7 HA.out.below 1⟩)
     (first | (go_at_call 75;refine (HI2.out _ (FewS.bel (by assumption))).mono ?_;rintro e w' ⟨rfl,hb'⟩;have HBX:=hh9 hb'))
    rename_i hS
    have HA2:Hid (BoxIn w _ 2 lo hi S0 (.slice a m ca) (.slice (some ⟨g,off,none⟩) n cc)):=((HA.out.under (za7 (Below.refl _ _) 1)).under HBX.out)
    clear hS a0 a1 a2 a3 a4 a5 e0 e1 e2 e3 e4 e5 hb'
    go_wp2_with fail
    go_roundw
    case rel=>exact ⟨i+1,_,rfl,by go_num,by omega,HSZ.out,HNX,HA2⟩
    case measure=>simp [intOf];omega
  ·have HFIN:=hh9 (show T=za3 ([]++sepT [32] (kids.map (fun t:Tree=>brT (t.kind==1||t.kind==2) (zaf d t)))) by
    have:=HT.out
    rwa [List.take_of_length_le (by rw [List.length_map,<- HNN.out];omega)] at this)
   go_wp2_with fail
   go_ret
   exact ⟨congrArg (fun u=>Ending.returned (Value.string u)) HFIN.out,HA.out.below⟩
end Go.Proofs.YtekjnfldgjcgeaaGreatDoor
