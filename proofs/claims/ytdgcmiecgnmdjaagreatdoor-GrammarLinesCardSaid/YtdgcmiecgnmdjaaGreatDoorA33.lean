/- Part 33 of what the laws of the grammar rest on. -/
import Derived.Test.YtdgcmiecgnmdjaaGreatDoorA14
import Derived.Test.YtdgcmiecgnmdjaaGreatDoorA23
import Derived.Test.YtdgcmiecgnmdjaaGreatDoorA25
import Derived.Test.YtdgcmiecgnmdjaaGreatDoorA26
import Derived.Test.YtdgcmiecgnmdjaaGreatDoorA28
import Derived.Test.YtdgcmiecgnmdjaaGreatDoorA31
import Derived.Test.YtdgcmiecgnmdjaaGreatDoorA32
set_option linter.all false
set_option maxRecDepth 100000
set_option maxHeartbeats 8000000
namespace Go.Proofs.YtdgcmiecgnmdjaaGreatDoor
open Go.RowKit
def TelS (w:World) (g o:Nat) (nm:ByteArray) (k lo hi:Int) (s:ByteArray) (ns ks:Value) (W:World):Prop :=
 (W.cell? ⟨g,o,none⟩=some (.string nm)/\W.cell? ⟨g,o+2,none⟩=some (.int .i64 k)/\W.cell? ⟨g,o+3,none⟩=some (.string s)/\W.cell? ⟨g,o+4,none⟩=some ns/\W.cell? ⟨g,o+5,none⟩=some (.int .i64 lo)/\W.cell? ⟨g,o+6,none⟩=some (.int .i64 hi)/\W.cell? ⟨g,o+7,none⟩=some ks)/\Below w.heap.size w W
theorem TelS.step {w:World} {g o:Nat} {nm:ByteArray} {k lo hi:Int} {s:ByteArray} {ns ks:Value} {W W':World} (hb:Below W.heap.size W W') (h:TelS w g o nm k lo hi s ns ks W):TelS w g o nm k lo hi s ns ks W' :=
 ⟨⟨zae h.1.1 hb,zae h.1.2.1 hb,zae h.1.2.2.1 hb,zae h.1.2.2.2.1 hb,zae h.1.2.2.2.2.1 hb,zae h.1.2.2.2.2.2.1 hb,zae h.1.2.2.2.2.2.2 hb⟩,za0 h.2 hb⟩
theorem TelS.drew {w:World} {g o:Nat} {nm:ByteArray} {k lo hi:Int} {s:ByteArray} {ns ks:Value} {W:World} (h:TelS w g o nm k lo hi s ns ks W):TelS w g o nm k lo hi s ns ks W.drew:=⟨h.1,za8 h.2 1⟩
theorem zpb {w:World} {v:Value} {vs:List LV} {l:List Rule} (h:LinesE w v vs l) (hs:∀ i,(l.take i).all rlB=true->(((l.take i).map zb9).flatten).length<=1000000000000) :
  Calls Tryz.prog 56 #[v] w (ze0 l w):=by
 obtain ⟨h1,h2,h3⟩:=h
 have H2:=hh9 h2
 have H3:=hh9 h3
 have HS:=hh9 hs
 obtain ⟨n,hnn⟩:∃ n,n=l.length:=⟨_,rfl⟩
 rw [<- hnn] at h1
 have HNN:=hh9 hnn
 have HBAD:∀ (i:Nat) (t:Rule),l[i]?=some t->rlB t=false->Hid (zia l=.tuple #[.string ⟨#[]⟩,.int .i64 1]):=fun i t ht hf=>by
  unfold zia Hid
  rw [zra ht hf,if_neg (by simp)]
 clear h2 h3 hs hnn
 rcases h1 with ⟨h0,a,cap,rfl⟩ | ⟨g,off,cap,rfl,g1,g2,g3,g4⟩
 ·have hx0:l=[]:=List.length_eq_zero_iff.1 (by rw [<- HNN.out];exact h0)
  subst h0
  subst hx0
  clear HBAD
  go_enter Tryz.func56,Tryz.ntmps56
  go_wp2_with fail
  go_loop [4,5] (fun s v=>s=.string ⟨#[]⟩/\v=.int .i64 0) (fun _ _=>0)
  case atStart=>exact ⟨rfl,rfl⟩
  case round =>
   obtain ⟨rfl,rfl⟩:=hrel
   go_wp2_with fail
   go_ret2
   exact ⟨rfl,Below.refl _ _⟩
 ·have G4:=hh9 g4
  unfold maxLen at g2
  clear g4
  have HB0:=hh9 (Below.refl w.heap.size w)
  go_enter Tryz.func56,Tryz.ntmps56
  go_wp2_with fail
  go_loopw [4,5] (fun s v wr=>∃ (i:Nat) (T:ByteArray),s=.string T/\v=.int .i64 i/\i<=n/\T.size<=1000000000000/\Hid (T=za3 (((l.take i).map zb9).flatten))/\Hid (Below w.heap.size w wr)/\Hid ((l.take i).all rlB=true)) (fun _ v _=>n-(intOf v).toNat)
  case atStart=>exact ⟨0,_,rfl,rfl,by omega,by decide,rfl,HB0,rfl⟩
  case round =>
   obtain ⟨i,T,rfl,rfl,hi,hT,HT,HBEL,HAL⟩:=hrel
   by_cases hlt:i<n
   ·obtain ⟨Y,hY⟩:∃ y,vs[i]?=some y:=⟨_,List.getElem?_eq_getElem (by rw [H2.out,<- HNN.out];exact hlt)⟩
    obtain ⟨t,ht⟩:∃ y,l[i]?=some y:=⟨_,List.getElem?_eq_getElem (by rw [<- HNN.out];exact hlt)⟩
    have CX:∀ (j:Nat) (u:Value),j<8->Y.cells[j]?=some u->wr.cell? ⟨g,off+(i*8+j),none⟩=some u:=fun j u hj hu =>
     (HBEL.out.cell (p:=⟨g,off+(i*8+j),none⟩) g3).trans (G4.out _ u ((zf3 vs i j Y hY hj).trans hu))
    have hL:=H3.out i Y t hY ht
    have HB:=HBAD i t ht
    obtain ⟨en,hc,hl,em,hE⟩:=hL
    have HN:=hh9 (fun W=>zdd (x:=t.name) W hc hl)
    have HR:=hh9 (fun W (hb:Below w.heap.size w W)=>zmb 50 (by omega) W Y.expr t.expr 50 rfl (hE.under hb))
    have HTX:=hh9 (fun W (hb:Below w.heap.size w W)=>zpa 50 W Y.expr t.expr (hE.under hb))
    have HTK:=hh9 (show ((l.take (i+1)).map zb9).flatten=((l.take i).map zb9).flatten++zb9 t by
     rw [List.take_add_one,ht];simp)
    have HAK0:=hh9 (fun (hf:rlB t=true)=>show (l.take (i+1)).all rlB=true by
     rw [List.take_add_one,ht,List.all_append,HAL.out];simp [hf])
    obtain ⟨N,hN⟩:∃ N,N=za3 t.name:=⟨_,rfl⟩
    obtain ⟨nm,mo,⟨k,s,nv,lo,hi',kv⟩⟩:=Y
    simp only [] at en em
    have en2:nm=N:=en.trans hN.symm
    subst en2 em
    rw [<- hN] at HN
    have e0:=CX 0 _ (by omega) rfl
    have e1:=CX 1 _ (by omega) rfl
    have e2:=CX 2 _ (by omega) rfl
    have e3:=CX 3 _ (by omega) rfl
    have e4:=CX 4 _ (by omega) rfl
    have e5:=CX 5 _ (by omega) rfl
    have e6:=CX 6 _ (by omega) rfl
    have e7:=CX 7 _ (by omega) rfl
    rw [<- Nat.add_assoc] at e0 e1 e2 e3 e4 e5 e6 e7
    rw [Nat.add_zero] at e0
    simp only [] at e0 e1 e2 e3 e4 e5 e6 e7
    clear CX hY ht HBAD en hE hc hl
    cases hp:zdc t.name
    ·have HV:=HB (by unfold rlB;rw [hp];rfl)
     rw [hp] at HN
     clear hp HB hN
     go_wp2_with fail
     refine (HN.out _).mono ?_
     rintro e w' ⟨rfl,rfl⟩
     go_wp2_with fail
     go_ret2
     exact ⟨congrArg Ending.returned HV.out.symm,HBEL.out⟩
    rw [hp] at HN
    cases hq:zax 50 t.expr
    ·have HV:=HB (by unfold rlB;rw [hp,hq];rfl)
     rw [hq] at HR
     clear hp hq HB hN
     go_wp2_with fail
     refine (HN.out _).mono ?_
     rintro e w' ⟨rfl,rfl⟩
     go_wp2_with fail
     refine (HR.out _ HBEL.out).mono ?_
     rintro e w1 ⟨rfl,hb⟩
     have HB1:=hh9 (za0 HBEL.out hb)
     clear hb e0 e1 e2 e3 e4 e5 e6 e7
     go_wp2_with fail
     go_ret2
     exact ⟨congrArg Ending.returned HV.out.symm,HB1.out⟩
    ·rw [hq] at HR
     have HAK:=hh9 (HAK0.out (by unfold rlB;rw [hp,hq];rfl))
     have HLE:=hh9 (HS.out (i+1) HAK.out)
     have hle2:=HLE.out
     rw [HTK.out,List.length_append] at hle2
     have hlt2:t.name.length+(zaf 50 t.expr).length+4<=(zb9 t).length:=by
      unfold zb9
      simp only [List.length_append]
      have:(3:Nat)<=(if t.more=true then ([32,61,47,32]:List Int) else [32,61,32]).length:=by split<;>simp
      have e10:([10]:List Int).length=1:=rfl
      omega
     have hNs:nm.size<=1000000000000:=by rw [hN,zab];omega
     obtain ⟨S,hS⟩:∃ S,S=za3 (zaf 50 t.expr):=⟨_,rfl⟩
     have hSs:S.size<=1000000000000:=by rw [hS,zab];omega
     have HTX2:Hid (∀ W',Below w.heap.size w W'->Calls Tryz.prog 77 #[.agg #[.int .i64 k,.string s,nv,.int .i64 lo,.int .i64 hi',kv]] W' (fun e w'=>e=.returned (.string S)/\Below W'.heap.size W' w')):=by
      rw [hS]
      exact fun W' hb=>HTX.out W' hb hq (by omega)
     have g1:(⟨#[32,61,32]⟩:ByteArray).size=3:=rfl
     have g2:(⟨#[32,61,47,32]⟩:ByteArray).size=4:=rfl
     have g3':(⟨#[10]⟩:ByteArray).size=1:=rfl
     clear hp hq HB hle2 hlt2 HTX
     cases hmo:t.more
     ·have HNX:=hh9 (show (((T++nm)++(⟨#[32,61,32]⟩:ByteArray))++S)++(⟨#[10]⟩:ByteArray)=za3 (((l.take (i+1)).map zb9).flatten) by
       rw [HTK.out,HT.out,hN,hS,show (⟨#[32,61,32]⟩:ByteArray)=za3 [32,61,32] from rfl,show (⟨#[10]⟩:ByteArray)=za3 [10] from rfl,zak,zak,zak,zak]
       unfold zb9
       rw [hmo]
       simp)
      have HSZ:=hh9 (show ((((T++nm)++(⟨#[32,61,32]⟩:ByteArray))++S)++(⟨#[10]⟩:ByteArray)).size<=1000000000000 by rw [HNX.out,zab];exact HLE.out)
      have d1:∀ W:World,(Op.stringOp .add T nm).run Tryz.prog W=.ok (.string (T++nm)) W:=fun W=>run_string_add_sum W _ _ (by omega)
      have d2:∀ W:World,(Op.stringOp .add (T++nm) (⟨#[32,61,32]⟩:ByteArray)).run Tryz.prog W=.ok (.string ((T++nm)++(⟨#[32,61,32]⟩:ByteArray))) W:=fun W=>run_string_add_sum W _ _ (by rw [ByteArray.size_append];omega)
      have d3:∀ W:World,(Op.stringOp .add ((T++nm)++(⟨#[32,61,32]⟩:ByteArray)) S).run Tryz.prog W=.ok (.string (((T++nm)++(⟨#[32,61,32]⟩:ByteArray))++S)) W:=fun W=>run_string_add_sum W _ _ (by rw [ByteArray.size_append,ByteArray.size_append];omega)
      have d4:∀ W:World,(Op.stringOp .add (((T++nm)++(⟨#[32,61,32]⟩:ByteArray))++S) ⟨#[10]⟩).run Tryz.prog W=.ok (.string ((((T++nm)++(⟨#[32,61,32]⟩:ByteArray))++S)++⟨#[10]⟩)) W:=fun W=>run_string_add_sum W _ _ (by rw [ByteArray.size_append,ByteArray.size_append,ByteArray.size_append];omega)
      rw [hmo] at e1
      clear hmo hN hS
      go_wp2_with fail
      refine (HN.out _).mono ?_
      rintro e w' ⟨rfl,rfl⟩
      go_wp2_with fail
      refine (HR.out _ HBEL.out).mono ?_
      rintro e w1 ⟨rfl,hb⟩
      have HB1:=hh9 (za0 HBEL.out hb)
      have f0:=zae e0 hb
      have f1:=zae e1 hb
      have f2:=zae e2 hb
      have f3:=zae e3 hb
      have f4:=zae e4 hb
      have f5:=zae e5 hb
      have f6:=zae e6 hb
      have f7:=zae e7 hb
      clear hb e0 e1 e2 e3 e4 e5 e6 e7
      go_wp2_with fail
      go_region_held3 (fun W'=>(W'.cell? ⟨g,off+i*8,none⟩=some (.string nm)/\W'.cell? ⟨g,off+i*8+2,none⟩=some (.int .i64 k)/\W'.cell? ⟨g,off+i*8+3,none⟩=some (.string s)/\W'.cell? ⟨g,off+i*8+4,none⟩=some nv/\W'.cell? ⟨g,off+i*8+5,none⟩=some (.int .i64 lo)/\W'.cell? ⟨g,off+i*8+6,none⟩=some (.int .i64 hi')/\W'.cell? ⟨g,off+i*8+7,none⟩=some kv)/\Below w.heap.size w W')
       (first | exact TelS.step (by assumption) (by assumption) | exact TelS.drew (by assumption) | exact ⟨⟨by assumption,by assumption,by assumption,by assumption,by assumption,by assumption,by assumption⟩,za8 HB1.out 1⟩)
       (first | (go_at_call 77;refine (HTX2.out _ (And.right (by assumption))).mono ?_;rintro e w' ⟨rfl,hb'⟩))
      rename_i hS
      have HB2:=hh9 hS.2
      clear hS f0 f1 f2 f3 f4 f5 f6 f7
      go_wp2_with fail
      go_roundw
      case rel=>exact ⟨i+1,_,rfl,by go_num,by omega,HSZ.out,HNX,HB2,HAK⟩
      case measure=>simp [intOf];omega
     ·have HNX:=hh9 (show (((T++nm)++(⟨#[32,61,47,32]⟩:ByteArray))++S)++(⟨#[10]⟩:ByteArray)=za3 (((l.take (i+1)).map zb9).flatten) by
       rw [HTK.out,HT.out,hN,hS,show (⟨#[32,61,47,32]⟩:ByteArray)=za3 [32,61,47,32] from rfl,show (⟨#[10]⟩:ByteArray)=za3 [10] from rfl,zak,zak,zak,zak]
       unfold zb9
       rw [hmo]
       simp)
      have HSZ:=hh9 (show ((((T++nm)++(⟨#[32,61,47,32]⟩:ByteArray))++S)++(⟨#[10]⟩:ByteArray)).size<=1000000000000 by rw [HNX.out,zab];exact HLE.out)
      have d1:∀ W:World,(Op.stringOp .add T nm).run Tryz.prog W=.ok (.string (T++nm)) W:=fun W=>run_string_add_sum W _ _ (by omega)
      have d2:∀ W:World,(Op.stringOp .add (T++nm) (⟨#[32,61,47,32]⟩:ByteArray)).run Tryz.prog W=.ok (.string ((T++nm)++(⟨#[32,61,47,32]⟩:ByteArray))) W:=fun W=>run_string_add_sum W _ _ (by rw [ByteArray.size_append];omega)
      have d3:∀ W:World,(Op.stringOp .add ((T++nm)++(⟨#[32,61,47,32]⟩:ByteArray)) S).run Tryz.prog W=.ok (.string (((T++nm)++(⟨#[32,61,47,32]⟩:ByteArray))++S)) W:=fun W=>run_string_add_sum W _ _ (by rw [ByteArray.size_append,ByteArray.size_append];omega)
      have d4:∀ W:World,(Op.stringOp .add (((T++nm)++(⟨#[32,61,47,32]⟩:ByteArray))++S) ⟨#[10]⟩).run Tryz.prog W=.ok (.string ((((T++nm)++(⟨#[32,61,47,32]⟩:ByteArray))++S)++⟨#[10]⟩)) W:=fun W=>run_string_add_sum W _ _ (by rw [ByteArray.size_append,ByteArray.size_append,ByteArray.size_append];omega)
      rw [hmo] at e1
      clear hmo hN hS
      go_wp2_with fail
      refine (HN.out _).mono ?_
      rintro e w' ⟨rfl,rfl⟩
      go_wp2_with fail
      refine (HR.out _ HBEL.out).mono ?_
      rintro e w1 ⟨rfl,hb⟩
      have HB1:=hh9 (za0 HBEL.out hb)
      have f0:=zae e0 hb
      have f1:=zae e1 hb
      have f2:=zae e2 hb
      have f3:=zae e3 hb
      have f4:=zae e4 hb
      have f5:=zae e5 hb
      have f6:=zae e6 hb
      have f7:=zae e7 hb
      clear hb e0 e1 e2 e3 e4 e5 e6 e7
      go_wp2_with fail
      go_region_held3 (fun W'=>(W'.cell? ⟨g,off+i*8,none⟩=some (.string nm)/\W'.cell? ⟨g,off+i*8+2,none⟩=some (.int .i64 k)/\W'.cell? ⟨g,off+i*8+3,none⟩=some (.string s)/\W'.cell? ⟨g,off+i*8+4,none⟩=some nv/\W'.cell? ⟨g,off+i*8+5,none⟩=some (.int .i64 lo)/\W'.cell? ⟨g,off+i*8+6,none⟩=some (.int .i64 hi')/\W'.cell? ⟨g,off+i*8+7,none⟩=some kv)/\Below w.heap.size w W')
       (first | exact TelS.step (by assumption) (by assumption) | exact TelS.drew (by assumption) | exact ⟨⟨by assumption,by assumption,by assumption,by assumption,by assumption,by assumption,by assumption⟩,za8 HB1.out 1⟩)
       (first | (go_at_call 77;refine (HTX2.out _ (And.right (by assumption))).mono ?_;rintro e w' ⟨rfl,hb'⟩))
      rename_i hS
      have HB2:=hh9 hS.2
      clear hS f0 f1 f2 f3 f4 f5 f6 f7
      go_wp2_with fail
      go_roundw
      case rel=>exact ⟨i+1,_,rfl,by go_num,by omega,HSZ.out,HNX,HB2,HAK⟩
      case measure=>simp [intOf];omega
   ·have hin:i=n:=by omega
    subst hin
    have HV:=hh9 (show Value.tuple #[.string T,.int .i64 0]=zia l by
     have e:l.take i=l:=List.take_of_length_le (by rw [<- HNN.out];omega)
     have h1:=HT.out
     have h2:=HAL.out
     rw [e] at h1 h2
     unfold zia
     rw [if_pos h2,h1])
    clear HBAD
    go_wp2_with fail
    go_ret2
    exact ⟨congrArg Ending.returned HV.out,HBEL.out⟩
end Go.Proofs.YtdgcmiecgnmdjaaGreatDoor
namespace Go.Proofs.YtdgcmiecgnmdjaaGreatDoor
def reT (lo hi:Int) (t:Tree):Tree:=.mk 3 [] [] lo hi [t]
def zzx:List Int:=[119,111,114,100]
def zx1:List Int:=[110,111,98,111,100,121]
def zl6:Nat->Rule
 | 0=>⟨[97],false,foT [120]⟩
 | 1=>⟨[98],false,alT [rfT [97],rfT znn]⟩
 | 2=>⟨[97],true,rfT zbb⟩
 | 3=>⟨[99],false,seT [reT 1 (-1) (rfT [98]),reT 0 1 (rfT zgn)]⟩
 | 4=>⟨[98],true,alT [nuT 65,nuT 66]⟩
 | 5=>⟨zzx,false,seT [reT 0 (-1) (rfT zua),rfT zjh]⟩
 | 6=>⟨[99],false,rfT zx1⟩
 | 7=>⟨[97],false,seT [rfT [98],rfT [98]]⟩
 | 8=>⟨[120],true,rfT [97]⟩
 | 9=>⟨[100],false,alT [rfT [99],rfT zzx,rfT [97]]⟩
 | _=>⟨zzx,true,rfT nCtl⟩
def znj:Nat->List Int
 | 0=>[97,32,61,32,34,120,34]
 | 1=>[98,32,61,32,97,32,47,32,97,108,112,104,97]
 | 2=>[97,32,61,47,32,100,105,103,105,116]
 | 3=>[99,32,61,32,49,42,98,32,91,99,114,108,102,93]
 | 4=>[98,32,61,47,32,37,120,52,49,32,47,32,37,120,52,50]
 | 5=>[119,111,114,100,32,61,32,42,108,119,115,112,32,104,101,120,100,105,103]
 | 6=>[99,32,61,32,110,111,98,111,100,121]
 | 7=>[97,32,61,32,98,32,98]
 | 8=>[120,32,61,47,32,97]
 | 9=>[100,32,61,32,99,32,47,32,119,111,114,100,32,47,32,97]
 | _=>[119,111,114,100,32,61,47,32,99,116,108]
theorem zty:∀ n,n<11->zb9 (zl6 n)=znj n++[10]:=by decide +kernel
theorem zjf:∀ n,n<11->(zdc (zl6 n).name&&zax 50 (zl6 n).expr&&fitB 49 (zl6 n).expr&&decide ((znj n).length<=30)&&(znj n).all (fun c=>decide (0<=c)&&decide (c<=255)))=true:=by decide +kernel
theorem zzy:∀ n,n<11->(zl6 n).expr.tw<=30:=by
 intro n hn
 have h:n=0\/n=1\/n=2\/n=3\/n=4\/n=5\/n=6\/n=7\/n=8\/n=9\/n=10:=by omega
 rcases h with rfl | rfl | rfl | rfl | rfl | rfl | rfl | rfl | rfl | rfl | rfl<;>simp [zl6,foT,alT,rfT,seT,reT,nuT,Tree.tw,znn,zbb,zgn,zzx,zua,zjh,zx1,nCtl]
def zeq (p:List Nat):List Rule:=p.map fun n=>zl6 (n%11)
def ze3 (p:List Nat):List Int:=(p.map fun n=>znj (n%11)++[10]).flatten
theorem zx2 (p:List Nat):((zeq p).map zb9).flatten=ze3 p:=by
 unfold zeq ze3
 rw [List.map_map]
 congr 1
 apply List.map_congr_left
 intro n _
 exact zty _ (Nat.mod_lt _ (by omega))
theorem zif:∀ (p:List Nat),(ze3 p).length<=31*p.length
 | []=>by simp [ze3]
 | n::p=>by
  have h:=zif p
  have h2:=zjf (n%11) (Nat.mod_lt _ (by omega))
  simp only [Bool.and_eq_true,decide_eq_true_eq] at h2
  have h3:=h2.1.2
  simp only [ze3,List.map_cons,List.flatten_cons,List.length_append,List.length_cons,List.length_nil] at h ⊢
  omega
theorem zpc (p:List Nat):InB8 (ze3 p):=by
 intro c hc
 unfold ze3 at hc
 obtain ⟨x,hx,hcx⟩:=List.mem_flatten.1 hc
 obtain ⟨n,hn,rfl⟩:=List.mem_map.1 hx
 have h2:=zjf (n%11) (Nat.mod_lt _ (by omega))
 simp only [Bool.and_eq_true,List.all_eq_true,decide_eq_true_eq] at h2
 rcases List.mem_append.1 hcx with h | h
 ·exact h2.2 c h
 ·simp at h
  omega
theorem zpd (p:List Nat):zl7 (zeq p)=true:=by
 unfold zl7 zeq
 rw [List.all_eq_true]
 intro r hr
 obtain ⟨n,hn,rfl⟩:=List.mem_map.1 hr
 have h2:=zjf (n%11) (Nat.mod_lt _ (by omega))
 simp only [Bool.and_eq_true,decide_eq_true_eq] at h2
 rw [Bool.and_eq_true]
 exact ⟨h2.1.1.1.1,h2.1.1.1.2⟩
theorem zkt:∀ (p:List Nat),twl (zeq p)<=31*p.length
 | []=>by simp [twl,zeq]
 | n::p=>by
  have h:=zkt p
  have h3:=zzy (n%11) (Nat.mod_lt _ (by omega))
  simp only [twl,zeq,List.map_cons,List.sum_cons,List.length_cons] at h ⊢
  omega
theorem zit {p:List Nat} (hp:p.length<=400) {r:Got (List Rule)} (ha:zen (za3 (ze3 p)) r):∃ q,r=.ok (zeq p) q:=by
 have h1:=zpd p
 have h2:=zif p
 have h3:=zpc p
 have h4:(zeq p).length<=500:=by unfold zeq;simp;omega
 rw [<- zx2] at h2 h3 ha
 exact zkb h1 h4 h3 (by omega) ha
def awkL:List Rule:=[⟨[97],false,foT [120]⟩,⟨[97],true,rfT zbb⟩]
def awkG:List GR:=[⟨[97],alT [foT [120],rfT zbb]⟩,⟨zbb,spT 48 57⟩]
def qc9:List GR:=[⟨[97],alT [foT [120],rfT zbb]⟩]
theorem zx3:zbf [] awkL=some qc9:=by kernel_rfl
theorem zzz (x:List Int):zai (foT x)=[]:=by
 unfold foT
 rw [zdt,if_neg (by decide)]
 rfl
theorem zs8 (x:List Int):zai (rfT x)=[x]:=by
 unfold rfT
 rw [zdt,if_pos rfl]
 rfl
theorem zs9 (a b:Int):zai (spT a b)=[]:=by
 unfold spT
 rw [zdt,if_neg (by decide)]
 rfl
theorem zku:zai (alT [foT [120],rfT zbb])=[zbb]:=by
 unfold alT
 rw [zdt,if_neg (by decide)]
 simp [zzz,zs8]
theorem zpe:zcl awkL awkG 0:=by
 refine .inr ⟨by decide +kernel,.inr ⟨qc9,2,some awkG,zx3,?_,.inr ⟨rfl,rfl⟩⟩⟩
 refine .step (r:=⟨[97],alT [foT [120],rfT zbb]⟩) (g':=awkG) rfl ?_ (.step (r:=⟨zbb,spT 48 57⟩) (g':=awkG) rfl ?_ (.done (by decide)))
 ·show zbn qc9 (zai (alT [foT [120],rfT zbb]))=_
  rw [zku]
  kernel_rfl
 ·show zbn awkG (zai (spT 48 57))=_
  rw [zs9]
  rfl
def zx4:List Rule:=[⟨[97],false,rfT [98]⟩]
theorem ztz:zcl zx4 [] 40:=by
 refine .inr ⟨by decide +kernel,.inr ⟨[⟨[97],rfT [98]⟩],1,none,by kernel_rfl,.fail (r:=⟨[97],rfT [98]⟩) rfl ?_,.inl ⟨rfl,rfl,rfl⟩⟩⟩
 show zbn _ (zai (rfT [98]))=_
 rw [zs8]
 kernel_rfl
theorem zsa:zay awkG [97]=some 0:=by kernel_rfl
theorem zpf:zay awkG zbb=some 1:=by kernel_rfl
theorem zx5:zg7 awkG [97] [[97],zbb]:=by
 have e1:zgo awkG [97]=[zbb]:=by
  unfold zgo
  rw [zsa]
  exact zku
 have e2:zgo awkG zbb=[]:=by
  unfold zgo
  rw [zpf]
  exact zs9 _ _
 refine .inr ⟨by rw [zsa];simp,2,.step (x:=[97]) rfl ?_⟩
 rw [e1,show addU [[97]] [zbb]=[[97],zbb] by kernel_rfl]
 refine .step (x:=zbb) rfl ?_
 rw [e2]
 exact .done (by decide)
def awkT:List Int:=[97,32,61,32,34,120,34,10,97,32,61,47,32,100,105,103,105,116,10]
theorem qa0:ze3 [0,2]=awkT:=by decide +kernel
theorem zkv:zeq [0,2]=awkL:=by kernel_rfl
end Go.Proofs.YtdgcmiecgnmdjaaGreatDoor
namespace Go.Proofs.YtdgcmiecgnmdjaaGreatDoor
open Go.RowKit
def NeedY (b:Int) (R:Nat) (s:ByteArray) (p:Nat) (w:World) (e:Ending) (w':World):Prop :=
 (∃ v q,zbl b 1114111 (rd s) p=.ok v q/\GivesY R s (.int .i64 v) q 0 w e w') \/
 (∃ c,c≠0/\zbl b 1114111 (rd s) p=.err c/\∃ q,q<=s.size/\GivesY R s (.int .i64 (-1)) q c w e w')
theorem zx6 {R p:Nat} {s:ByteArray} {w:World} (b:Int) (hb:b=2\/b=10\/b=16) (h:AtY w R s p 0) (hs:s.size<=50000) (hp:p<=s.size) :
  Calls Tryz.prog 181 #[.pointer (some ⟨R,0,none⟩),.int .i64 b] w (NeedY b R s p w):=by
 have H:=hh9 h
 have HBB:=hh9 hb
 clear h hb
 go_enter Tryz.func181,Tryz.ntmps181
 go_wp2_with fail
 refine (zkl b 1114111 HBB.out (by omega) (by omega) H.out hs hp).mono ?_
 rintro e w1 (⟨hd,rfl,ha,hg⟩ | ⟨v,q,hn,rfl,ha,hg⟩ | ⟨hd,hn,q,hq,rfl,ha,hg⟩)
 ·have HN:=hh9 (zhy (lim:=1114111) hd)
  have HA:=hh9 ha
  have HG:=hh9 hg
  clear hd ha hg
  go_wp2_with fail
  refine (zba HA.out 20).mono ?_
  rintro e w2 ⟨rfl,ha,hg⟩
  have HA2:=hh9 ha
  have HG2:=hh9 (HG.out.trans hg)
  clear ha hg
  go_wp2_with fail
  go_ret
  exact .inr ⟨20,by omega,HN.out,p,hp,rfl,HA2.out,HG2.out⟩
 ·have hv:=zh7 (by rcases HBB.out with rfl | rfl | rfl<;>omega) hn
  have hv2:v<=1114111:=by
   unfold zbl at hn
   split at hn
   ·cases hn
   ·split at hn
    ·cases hn
    ·cases hn;omega
  have HN:=hh9 hn
  have HA:=hh9 ha
  have HG:=hh9 hg
  clear hn ha hg
  go_wp2_with fail
  go_ret
  exact .inl ⟨v,q,HN.out,rfl,HA.out,HG.out⟩
 ·have HN:=hh9 hn
  have HA:=hh9 ha
  have HG:=hh9 hg
  clear hd hn ha hg
  go_wp2_with fail
  refine (zd8 HA.out (by omega) 20).mono ?_
  rintro e w2 ⟨rfl,ha,hg⟩
  have HA2:=hh9 ha
  have HG2:=hh9 (HG.out.trans hg)
  clear ha hg
  go_wp2_with fail
  go_ret
  exact .inr ⟨2,by omega,HN.out,q,hq,rfl,HA2.out,HG2.out⟩
def qde (R:Nat) (s:ByteArray) (p:Nat) (w:World) (e:Ending) (w':World):Prop :=
 (∃ x q,zb2 (rd s) p=.ok x q/\(∀ c∈x,0<=c/\c<128)/\x.length<=60000/\GivesY R s (.string (za3 x)) q 0 w e w') \/
 (zb2 (rd s) p=.err 20/\∃ x q,q<=s.size+1/\(∀ c∈x,0<=c/\c<128)/\x.length<=60000/\GivesY R s (.string (za3 x)) q 20 w e w')
def qa1 (R:Nat) (s:ByteArray) (p:Nat) (w wr:World) (T:ByteArray) (q:Nat):Prop :=
 AtY wr R s q 0/\w.grownBy wr (some R)/\p+1<=q/\q<=s.size/\T=s.extract (p+1) q/\∀ i,p+1<=i->i<q->isSt (rd s i)=true
theorem qa2 {s:ByteArray} {p q:Nat} (h:p<=q):s.extract p q++s.extract q (q+1)=s.extract p (q+1):=by
 apply ByteArray.ext
 rw [ByteArray.data_append,ByteArray.data_extract,ByteArray.data_extract,ByteArray.data_extract,Array.extract_append_extract]
 congr 1<;>omega
theorem zqk {R p:Nat} {s:ByteArray} {w:World} (h:AtY w R s p 0) (hs:s.size<=50000) (h34:rd s p=34) :
  Calls Tryz.prog 180 #[.pointer (some ⟨R,0,none⟩)] w (qde R s p w):=by
 obtain ⟨c0,c1,c2,z0,z1,z2⟩:=h.cells
 have hp:p<s.size:=zbu (by omega) h34
 have H34:=hh9 h34
 have H:=hh9 h
 clear h h34
 go_enter Tryz.func180,Tryz.ntmps180
 go_wp2_with fail
 clear c0 c1 c2 z0 z1 z2
 go_loopw [3] (fun v wr=>∃ T:ByteArray,∃ q:Nat,v=.string T/\qa1 R s p w wr T q) (fun _ wr=>s.size-zf6 R wr)
 case atStart=>exact ⟨⟨#[]⟩,p+1,rfl,H.out.step,zah (zam _ _) _ _,Nat.le_refl _,by omega,by simp [ByteArray.ext_iff],fun i h1 h2=>absurd h1 (by omega)⟩
 case round =>
  obtain ⟨T,q,rfl,ha,hg,hpq,hqs,hT,hall⟩:=hrel
  have HA:=hh9 ha
  have HG:=hh9 hg
  have HM:=hh9 ha.pos
  obtain ⟨Z,hZ⟩:∃ y,rd s q=y:=⟨_,rfl⟩
  have HZ:=hh9 hZ
  have hZr:=zgf s q
  rw [hZ] at hZr
  have hTs:T.size=q-(p+1):=by rw [hT,ByteArray.size_extract];omega
  have HTX:Hid (T=za3 (cut (rd s) (p+1) (q-(p+1)))):=by rw [hT];exact zi0 hqs
  cases hst:isSt Z
  ·have hrun:IsRun isSt (rd s) (p+1) q:=⟨hpq,hall,by rw [hZ];exact hst⟩
   have HRUN:=hh9 hrun
   have HLOW:=hh9 (zk6 zri hrun)
   have HLEN:Hid ((cut (rd s) (p+1) (q-(p+1))).length<=60000):=by rw [zk5];exact (by omega:q-(p+1)<=60000)
   have hst2:¬ (32<=Z/\Z<=126/\Z≠34):=by
    unfold isSt at hst
    simp at hst
    intro ⟨g1,g2,g3⟩
    exact g3 (hst g1 g2)
   clear ha hg hZ hT hall hst hrun hTs
   by_cases g1:32<=Z
   ·by_cases g2:Z<127
    ·have g3:Z=34:=by omega
     subst g3
     clear hst2
     go_wp2_with fail
     refine (yat0 HA.out hs (by omega) _ HZ.out).mono ?_
     rintro e w1 ⟨rfl,hbw⟩
     have HA0:=hh9 (HA.out.below hbw)
     have HG0:=hh9 (za4 HG.out hbw)
     clear hbw
     go_wp2_with fail
     refine (yat0 HA0.out hs (by omega) _ HZ.out).mono ?_
     rintro e w2 ⟨rfl,hbw⟩
     have HAb:=hh9 (HA0.out.below hbw)
     have HGb:=hh9 (za4 HG0.out hbw)
     clear hbw
     go_wp2_with fail
     refine (yat0 HAb.out hs (by omega) _ HZ.out).mono ?_
     rintro e w3 ⟨rfl,hbw⟩
     have HA1:=hh9 (HAb.out.below hbw)
     have HG1:=hh9 (za4 HGb.out hbw)
     clear hbw HA HG HA0 HG0 HAb HGb
     have HQ:Hid (zb2 (rd s) p=.ok (cut (rd s) (p+1) (q-(p+1))) (q+1)):=by
      unfold zb2
      rw [if_pos H34.out,HRUN.out.eq,if_pos HZ.out]
      exact rfl
     go_wp2_with fail
     refine (yat0 HA1.out hs (by omega) _ HZ.out).mono ?_
     rintro e w5 ⟨rfl,hbw⟩
     have HA5:=hh9 (HA1.out.below hbw)
     have HG5:=hh9 (za4 HG1.out hbw)
     obtain ⟨d0,d1,d2,y0,y1,y2⟩:=HA5.out.cells
     clear hbw
     go_wp2_with fail
     go_ret
     rw [HTX.out]
     exact .inl ⟨_,q+1,HQ.out,HLOW.out,HLEN.out,rfl,HA5.out.step,zah HG5.out _ _⟩
    ·clear hst2
     have h34:¬ Z=34:=by omega
     go_wp2_with fail
     refine (yat0 HA.out hs (by omega) _ HZ.out).mono ?_
     rintro e w1 ⟨rfl,hbw⟩
     have HA0:=hh9 (HA.out.below hbw)
     have HG0:=hh9 (za4 HG.out hbw)
     clear hbw
     go_wp2_with fail
     refine (yat0 HA0.out hs (by omega) _ HZ.out).mono ?_
     rintro e w2 ⟨rfl,hbw⟩
     have HA1:=hh9 (HA0.out.below hbw)
     have HG1:=hh9 (za4 HG0.out hbw)
     clear hbw HA HG HA0 HG0
     have q34:(Z==34)=false:=by simpa using h34
     have q34':(Z != 34)=true:=by simpa using h34
     have HQ:Hid (zb2 (rd s) p=.err 20):=by
      unfold zb2
      rw [if_pos H34.out,HRUN.out.eq,if_neg (by rw [HZ.out];exact h34)]
      exact rfl
     clear h34
     go_wp2_with fail
     refine (yat0 HA1.out hs (by omega) _ HZ.out).mono ?_
     rintro e w5 ⟨rfl,hbw⟩
     have HA5:=hh9 (HA1.out.below hbw)
     have HG5:=hh9 (za4 HG1.out hbw)
     clear hbw
     go_wp2_with fail
     refine (zba HA5.out 20).mono ?_
     rintro e w6 ⟨rfl,ha,hg⟩
     have HA6:=hh9 ha
     have HG6:=hh9 (HG5.out.trans hg)
     obtain ⟨d0,d1,d2,y0,y1,y2⟩:=ha.cells
     clear ha hg
     go_wp2_with fail
     go_ret
     rw [HTX.out]
     exact .inr ⟨HQ.out,_,q+1,by omega,HLOW.out,HLEN.out,rfl,HA6.out.step,zah HG6.out _ _⟩
   ·clear hst2
    have h34:¬ Z=34:=by omega
    go_wp2_with fail
    refine (yat0 HA.out hs (by omega) _ HZ.out).mono ?_
    rintro e w1 ⟨rfl,hbw⟩
    have HA1:=hh9 (HA.out.below hbw)
    have HG1:=hh9 (za4 HG.out hbw)
    clear hbw HA HG
    have q34:(Z==34)=false:=by simpa using h34
    have q34':(Z != 34)=true:=by simpa using h34
    have HQ:Hid (zb2 (rd s) p=.err 20):=by
     unfold zb2
     rw [if_pos H34.out,HRUN.out.eq,if_neg (by rw [HZ.out];exact h34)]
     exact rfl
    clear h34
    go_wp2_with fail
    refine (yat0 HA1.out hs (by omega) _ HZ.out).mono ?_
    rintro e w5 ⟨rfl,hbw⟩
    have HA5:=hh9 (HA1.out.below hbw)
    have HG5:=hh9 (za4 HG1.out hbw)
    clear hbw
    go_wp2_with fail
    refine (zba HA5.out 20).mono ?_
    rintro e w6 ⟨rfl,ha,hg⟩
    have HA6:=hh9 ha
    have HG6:=hh9 (HG5.out.trans hg)
    obtain ⟨d0,d1,d2,y0,y1,y2⟩:=ha.cells
    clear ha hg
    go_wp2_with fail
    go_ret
    rw [HTX.out]
    exact .inr ⟨HQ.out,_,q+1,by omega,HLOW.out,HLEN.out,rfl,HA6.out.step,zah HG6.out _ _⟩
  ·obtain ⟨g1,g2,g3⟩:32<=Z/\Z<127/\Z≠34:=by
    unfold isSt at hst
    simp at hst
    exact ⟨by omega,by omega,hst.2⟩
   have q34:(Z != 34)=true:=by simpa using g3
   have hlt:q<s.size:=zbu (by omega) hZ
   have HNX:Hid (∀ i,p+1<=i->i<q+1->isSt (rd s i)=true):=ze8 (P:=isSt) hall (by rw [hZ];exact hst)
   have HTN:Hid (T++s.extract q (q+1)=s.extract (p+1) (q+1)):=by rw [hT];exact qa2 hpq
   have hT2:T.size<=50000:=by omega
   obtain ⟨m,hm0⟩:∃ m,q+1=m:=⟨_,rfl⟩
   have hm:(q:Int)+1=(m:Int):=by omega
   have hT3:(s.extract q m).size=1:=by rw [ByteArray.size_extract];omega
   have hle:decide ((q:Int)<=(m:Int))=true:=by simp;omega
   have hle2:decide ((m:Int)<=(s.size:Int))=true:=by simp;omega
   have hle3:q<=m:=by omega
   have hle4:m<=s.size:=by omega
   rw [hm0] at HTN HNX
   clear ha hg hZ hT hall hst hTs g3
   go_wp2_with fail
   refine (yat0 HA.out hs (by omega) _ HZ.out).mono ?_
   rintro e w1 ⟨rfl,hbw⟩
   have HA0:=hh9 (HA.out.below hbw)
   have HG0:=hh9 (za4 HG.out hbw)
   clear hbw
   go_wp2_with fail
   refine (yat0 HA0.out hs (by omega) _ HZ.out).mono ?_
   rintro e w2 ⟨rfl,hbw⟩
   have HAb:=hh9 (HA0.out.below hbw)
   have HGb:=hh9 (za4 HG0.out hbw)
   clear hbw
   go_wp2_with fail
   refine (yat0 HAb.out hs (by omega) _ HZ.out).mono ?_
   rintro e w3 ⟨rfl,hbw⟩
   have HA1:=hh9 (HAb.out.below hbw)
   have HG1:=hh9 (za4 HGb.out hbw)
   obtain ⟨d0,d1,d2,y0,y1,y2⟩:=HA1.out.cells
   clear hbw HA HG HA0 HG0 HAb HGb
   go_wp2_with fail
   go_quiet (fail)
   go_wp2_with fail
   go_roundw
   case rel=>exact ⟨_,m,rfl,(HA1.out.drew _).put (by omega),zah (za5 HG1.out _) _ _,by omega,by omega,HTN.out,HNX.out⟩
   case measure =>
    rw [HM.out,((HA1.out.drew _).put (q:=m) (by omega)).pos]
    omega
def OutY (sk:Bool) (s:ByteArray) (d:Nat) (a:Ask) (p:Nat) (t:Tree) (q:Nat) (c:Int):Prop :=
 (c=0/\p<=q/\q<=s.size/\Ans (rd s) a d p (.ok t (if sk then zac (rd s) q else q)))\/(c≠0/\q<=s.size+2+(52-d)/\Ans (rd s) a d p (.err c))
def qav (sk:Bool) (R:Nat) (s:ByteArray) (d:Nat) (a:Ask) (p:Nat) (w:World) (e:Ending) (w':World):Prop :=
 ∃ (x:XV) (t:Tree) (q:Nat) (c:Int),TreeAt w' (fun b=>w.heap.size<=b) x t/\GivesY R s x.val q c w e w'/\OutY sk s d a p t q c
def qdf (R:Nat) (s:ByteArray) (p:Nat) (c:Int) (w:World) (e:Ending) (w':World):Prop :=
 ∃ (x:XV) (t:Tree) (q:Nat),TreeAt w' (fun b=>w.heap.size<=b) x t/\q<=p+1/\GivesY R s x.val q c w e w'
def zfr (f:Nat) (sk:Bool) (a:Ask) (k:Nat):Prop:=∀ {R p d:Nat} {s:ByteArray} {w:World},AtY w R s p 0->s.size<=50000->p<=s.size->d<=50->s.size-p<=k ->
 Calls Tryz.prog f #[.pointer (some ⟨R,0,none⟩),.int .i64 d] w (qav sk R s d a p w)
theorem AtY.set_row {w:World} {R:Nat} {s:ByteArray} {p:Nat} {c:Int} (h:AtY w R s p c) {g:Nat} (hg:R≠g) (cs:Array Value):AtY (w.setRow g cs) R s p c:=(setRow_other _ _ _ _ hg).trans h
theorem zsb {w w':World} {base R:Nat} {s:ByteArray} {p:Nat} {c:Int} {v:Value} {l:List Tree} (hk:zbr w base v l) (h:AtY w R s p c) (hg:w.grownBy w' v.ownBlock) (hR:R<base):AtY w' R s p c:=by
 obtain ⟨vs,_,h2,_⟩:=hk
 refine h.kept hg (fun e=>?_)
 rcases zan h2 with ⟨rfl,_⟩ | ⟨g,cap,rfl⟩
 ·simp [Value.ownBlock] at e
 ·have hb:=(zb0 h2).1
  have:=Option.some.inj e
  simp at this
  omega
theorem qa3 {c:Int} (h:c=34\/c=37\/c=40\/c=42\/c=91):isRp c=true:=by rcases h with rfl | rfl | rfl | rfl | rfl<;>decide
theorem zkw {R p:Nat} {c:Int} {s:ByteArray} {w:World} (h:AtY w R s p c) (hs:s.size<=50000) (hp:p<=60000) :
  Calls Tryz.prog 119 #[.pointer (some ⟨R,0,none⟩)] w (zal (isRp (rd s p)) w):=by
 have H:=hh9 h
 clear h
 obtain ⟨Z,hZ⟩:∃ z,rd s p=z:=⟨_,rfl⟩
 have HZ:=hh9 hZ
 rw [hZ]
 clear hZ
 cases ha:isAl Z
 ·cases hd:isDc Z
  ·by_cases hc:Z=34\/Z=37\/Z=40\/Z=42\/Z=91
   ·rw [qa3 hc]
    have HA:=hh9 ha
    have HD:=hh9 hd
    clear ha hd
    rcases hc with rfl | rfl | rfl | rfl | rfl
    all_goals
     go_enter Tryz.func119,Tryz.ntmps119
     go_wp2_with fail
     refine (yat0 H.out hs hp _ HZ.out).mono ?_
     rintro e w1 ⟨rfl,hb⟩
     have HB:=hh9 hb
     clear hb
     go_wp2_with fail
     refine (zby _ _).mono ?_
     rw [HA.out]
     rintro e w' ⟨rfl,rfl⟩
     go_wp2_with fail
     refine (zc8 _ _).mono ?_
     rw [HD.out]
     rintro e w' ⟨rfl,rfl⟩
     go_wp2
     go_ret
     exact ⟨rfl,HB.out⟩
   ·have e1:(Z==34)=false:=by simp;omega
    have e2:(Z==37)=false:=by simp;omega
    have e3:(Z==40)=false:=by simp;omega
    have e4:(Z==42)=false:=by simp;omega
    have e5:(Z==91)=false:=by simp;omega
    rw [zvk ha hd (by omega) (by omega) (by omega) (by omega) (by omega)]
    have HA:=hh9 ha
    have HD:=hh9 hd
    clear ha hd hc
    go_enter Tryz.func119,Tryz.ntmps119
    go_wp2_with fail
    refine (yat0 H.out hs hp _ HZ.out).mono ?_
    rintro e w1 ⟨rfl,hb⟩
    have HB:=hh9 hb
    clear hb
    go_wp2_with fail
    refine (zby _ _).mono ?_
    rw [HA.out]
    rintro e w' ⟨rfl,rfl⟩
    go_wp2_with fail
    refine (zc8 _ _).mono ?_
    rw [HD.out]
    rintro e w' ⟨rfl,rfl⟩
    go_wp2
    go_ret
    exact ⟨rfl,HB.out⟩
  ·rw [show isRp Z=true by unfold isRp;simp [hd]]
   have HA:=hh9 ha
   have HD:=hh9 hd
   clear ha hd
   go_enter Tryz.func119,Tryz.ntmps119
   go_wp2_with fail
   refine (yat0 H.out hs hp _ HZ.out).mono ?_
   rintro e w1 ⟨rfl,hb⟩
   have HB:=hh9 hb
   clear hb
   go_wp2_with fail
   refine (zby _ _).mono ?_
   rw [HA.out]
   rintro e w' ⟨rfl,rfl⟩
   go_wp2_with fail
   refine (zc8 _ _).mono ?_
   rw [HD.out]
   rintro e w' ⟨rfl,rfl⟩
   go_wp2
   go_ret
   exact ⟨rfl,HB.out⟩
 ·rw [show isRp Z=true by unfold isRp;simp [ha]]
  have HA:=hh9 ha
  clear ha
  go_enter Tryz.func119,Tryz.ntmps119
  go_wp2_with fail
  refine (yat0 H.out hs hp _ HZ.out).mono ?_
  rintro e w1 ⟨rfl,hb⟩
  have HB:=hh9 hb
  clear hb
  go_wp2_with fail
  refine (zby _ _).mono ?_
  rw [HA.out]
  rintro e w' ⟨rfl,rfl⟩
  go_wp2
  go_ret
  exact ⟨rfl,HB.out⟩
end Go.Proofs.YtdgcmiecgnmdjaaGreatDoor
