/- Part 43 of what the laws of the grammar rest on. -/
import Derived.Test.YtekjnfldgjcgeaaGreatDoorA26
import Derived.Test.YtekjnfldgjcgeaaGreatDoorA41
import Derived.Test.YtekjnfldgjcgeaaGreatDoorA42
set_option linter.all false
set_option maxRecDepth 100000
set_option maxHeartbeats 8000000
namespace Go.Proofs.YtekjnfldgjcgeaaGreatDoor
open Go.RowKit
def TelS (w:World) (g o:Nat) (nm:ByteArray) (k lo hi:Int) (s:ByteArray) (ns ks:Value) (W:World):Prop :=
 (W.cell? ⟨g,o,none⟩=some (.string nm)/\W.cell? ⟨g,o+2,none⟩=some (.int .i64 k)/\W.cell? ⟨g,o+3,none⟩=some (.string s)/\W.cell? ⟨g,o+4,none⟩=some ns/\W.cell? ⟨g,o+5,none⟩=some (.int .i64 lo)/\W.cell? ⟨g,o+6,none⟩=some (.int .i64 hi)/\W.cell? ⟨g,o+7,none⟩=some ks)/\Below w.heap.size w W
theorem TelS.step {w:World} {g o:Nat} {nm:ByteArray} {k lo hi:Int} {s:ByteArray} {ns ks:Value} {W W':World} (hb:Below W.heap.size W W') (h:TelS w g o nm k lo hi s ns ks W):TelS w g o nm k lo hi s ns ks W' :=
 ⟨⟨zac h.1.1 hb,zac h.1.2.1 hb,zac h.1.2.2.1 hb,zac h.1.2.2.2.1 hb,zac h.1.2.2.2.2.1 hb,zac h.1.2.2.2.2.2.1 hb,zac h.1.2.2.2.2.2.2 hb⟩,za0 h.2 hb⟩
theorem TelS.drew {w:World} {g o:Nat} {nm:ByteArray} {k lo hi:Int} {s:ByteArray} {ns ks:Value} {W:World} (h:TelS w g o nm k lo hi s ns ks W):TelS w g o nm k lo hi s ns ks W.drew:=⟨h.1,za7 h.2 1⟩
theorem zpj {w:World} {v:Value} {vs:List LV} {l:List Rule} (h:LinesE w v vs l) (hs:∀ i,(l.take i).all rlB=true->(((l.take i).map zb9).flatten).length<=1000000000000) :
  Calls Tryz.prog 28 #[v] w (ze1 l w):=by
 obtain ⟨h1,h2,h3⟩:=h
 have H2:=hh9 h2
 have H3:=hh9 h3
 have HS:=hh9 hs
 obtain ⟨n,hnn⟩:∃ n,n=l.length:=⟨_,rfl⟩
 rw [<- hnn] at h1
 have HNN:=hh9 hnn
 have HBAD:∀ (i:Nat) (t:Rule),l[i]?=some t->rlB t=false->Hid (zia l=.tuple #[.string ⟨#[]⟩,.int .i64 1]):=fun i t ht hf=>by
  unfold zia Hid
  rw [zr7 ht hf,if_neg (by simp)]
 clear h2 h3 hs hnn
 rcases h1 with ⟨h0,a,cap,rfl⟩ | ⟨g,off,cap,rfl,g1,g2,g3,g4⟩
 ·have hx0:l=[]:=List.length_eq_zero_iff.1 (by rw [<- HNN.out];exact h0)
  subst h0
  subst hx0
  clear HBAD
  go_enter Tryz.func28,Tryz.ntmps28
  go_wp2_with fail
  go_loop [4,5] (fun s v=>s=.string ⟨#[]⟩/\v=.int .i64 0) (fun _ _=>0)
  case atStart=>exact ⟨rfl,rfl⟩
  case round =>
   obtain ⟨rfl,rfl⟩:=hrel
   go_wp2_with fail
   go_ret2
   exact ⟨rfl,Below.refl _ _⟩
 ·have G4:=hh9 g4
  unfold maxLen at g2
  clear g4
  have HB0:=hh9 (Below.refl w.heap.size w)
  go_enter Tryz.func28,Tryz.ntmps28
  go_wp2_with fail
  go_loopw [4,5] (fun s v wr=>∃ (i:Nat) (T:ByteArray),s=.string T/\v=.int .i64 i/\i<=n/\T.size<=1000000000000/\Hid (T=za3 (((l.take i).map zb9).flatten))/\Hid (Below w.heap.size w wr)/\Hid ((l.take i).all rlB=true)) (fun _ v _=>n-(intOf v).toNat)
  case atStart=>exact ⟨0,_,rfl,rfl,by omega,by decide,rfl,HB0,rfl⟩
  case round =>
   obtain ⟨i,T,rfl,rfl,hi,hT,HT,HBEL,HAL⟩:=hrel
   by_cases hlt:i<n
   ·obtain ⟨Y,hY⟩:∃ y,vs[i]?=some y:=⟨_,List.getElem?_eq_getElem (by rw [H2.out,<- HNN.out];exact hlt)⟩
    obtain ⟨t,ht⟩:∃ y,l[i]?=some y:=⟨_,List.getElem?_eq_getElem (by rw [<- HNN.out];exact hlt)⟩
    have CX:∀ (j:Nat) (u:Value),j<8->Y.cells[j]?=some u->wr.cell? ⟨g,off+(i*8+j),none⟩=some u:=fun j u hj hu =>
     (HBEL.out.cell (p:=⟨g,off+(i*8+j),none⟩) g3).trans (G4.out _ u ((zdy vs i j Y hY hj).trans hu))
    have hL:=H3.out i Y t hY ht
    have HB:=HBAD i t ht
    obtain ⟨en,hc,hl,em,hE⟩:=hL
    have HN:=hh9 (fun W=>zdd (x:=t.name) W hc hl)
    have HR:=hh9 (fun W (hb:Below w.heap.size w W)=>zmc 50 (by omega) W Y.expr t.expr 50 rfl (hE.under hb))
    have HTX:=hh9 (fun W (hb:Below w.heap.size w W)=>zpi 50 W Y.expr t.expr (hE.under hb))
    have HTK:=hh9 (show ((l.take (i+1)).map zb9).flatten=((l.take i).map zb9).flatten++zb9 t by
     rw [List.take_add_one,ht];simp)
    have HAK0:=hh9 (fun (hf:rlB t=true)=>show (l.take (i+1)).all rlB=true by
     rw [List.take_add_one,ht,List.all_append,HAL.out];simp [hf])
    obtain ⟨N,hN⟩:∃ N,N=za3 t.name:=⟨_,rfl⟩
    obtain ⟨nm,mo,⟨k,s,nv,lo,hi',kv⟩⟩:=Y
    simp only [] at en em
    have en2:nm=N:=en.trans hN.symm
    subst en2 em
    rw [<- hN] at HN
    have e0:=CX 0 _ (by omega) rfl
    have e1:=CX 1 _ (by omega) rfl
    have e2:=CX 2 _ (by omega) rfl
    have e3:=CX 3 _ (by omega) rfl
    have e4:=CX 4 _ (by omega) rfl
    have e5:=CX 5 _ (by omega) rfl
    have e6:=CX 6 _ (by omega) rfl
    have e7:=CX 7 _ (by omega) rfl
    rw [<- Nat.add_assoc] at e0 e1 e2 e3 e4 e5 e6 e7
    rw [Nat.add_zero] at e0
    simp only [] at e0 e1 e2 e3 e4 e5 e6 e7
    clear CX hY ht HBAD en hE hc hl
    cases hp:zdc t.name
    ·have HV:=HB (by unfold rlB;rw [hp];rfl)
     rw [hp] at HN
     clear hp HB hN
     go_wp2_with fail
     refine (HN.out _).mono ?_
     rintro e w' ⟨rfl,rfl⟩
     go_wp2_with fail
     go_ret2
     exact ⟨congrArg Ending.returned HV.out.symm,HBEL.out⟩
    rw [hp] at HN
    cases hq:zax 50 t.expr
    ·have HV:=HB (by unfold rlB;rw [hp,hq];rfl)
     rw [hq] at HR
     clear hp hq HB hN
     go_wp2_with fail
     refine (HN.out _).mono ?_
     rintro e w' ⟨rfl,rfl⟩
     go_wp2_with fail
     refine (HR.out _ HBEL.out).mono ?_
     rintro e w1 ⟨rfl,hb⟩
     have HB1:=hh9 (za0 HBEL.out hb)
     clear hb e0 e1 e2 e3 e4 e5 e6 e7
     go_wp2_with fail
     go_ret2
     exact ⟨congrArg Ending.returned HV.out.symm,HB1.out⟩
    ·rw [hq] at HR
     have HAK:=hh9 (HAK0.out (by unfold rlB;rw [hp,hq];rfl))
     have HLE:=hh9 (HS.out (i+1) HAK.out)
     have hle2:=HLE.out
     rw [HTK.out,List.length_append] at hle2
     have hlt2:t.name.length+(zaf 50 t.expr).length+4<=(zb9 t).length:=by
      unfold zb9
      simp only [List.length_append]
      have:(3:Nat)<=(if t.more=true then ([32,61,47,32]:List Int) else [32,61,32]).length:=by split<;>simp
      have e10:([10]:List Int).length=1:=rfl
      omega
     have hNs:nm.size<=1000000000000:=by rw [hN,za9];omega
     obtain ⟨S,hS⟩:∃ S,S=za3 (zaf 50 t.expr):=⟨_,rfl⟩
     have hSs:S.size<=1000000000000:=by rw [hS,za9];omega
     have HTX2:Hid (∀ W',Below w.heap.size w W'->Calls Tryz.prog 51 #[.agg #[.int .i64 k,.string s,nv,.int .i64 lo,.int .i64 hi',kv]] W' (fun e w'=>e=.returned (.string S)/\Below W'.heap.size W' w')):=by
      rw [hS]
      exact fun W' hb=>HTX.out W' hb hq (by omega)
     have g1:(⟨#[32,61,32]⟩:ByteArray).size=3:=rfl
     have g2:(⟨#[32,61,47,32]⟩:ByteArray).size=4:=rfl
     have g3':(⟨#[10]⟩:ByteArray).size=1:=rfl
     clear hp hq HB hle2 hlt2 HTX
     cases hmo:t.more
     ·have HNX:=hh9 (show (((T++nm)++(⟨#[32,61,32]⟩:ByteArray))++S)++(⟨#[10]⟩:ByteArray)=za3 (((l.take (i+1)).map zb9).flatten) by
       rw [HTK.out,HT.out,hN,hS,show (⟨#[32,61,32]⟩:ByteArray)=za3 [32,61,32] from rfl,show (⟨#[10]⟩:ByteArray)=za3 [10] from rfl,zal,zal,zal,zal]
       unfold zb9
       rw [hmo]
       simp)
      have HSZ:=hh9 (show ((((T++nm)++(⟨#[32,61,32]⟩:ByteArray))++S)++(⟨#[10]⟩:ByteArray)).size<=1000000000000 by rw [HNX.out,za9];exact HLE.out)
      have d1:∀ W:World,(Op.stringOp .add T nm).run Tryz.prog W=.ok (.string (T++nm)) W:=fun W=>run_string_add_sum W _ _ (by omega)
      have d2:∀ W:World,(Op.stringOp .add (T++nm) (⟨#[32,61,32]⟩:ByteArray)).run Tryz.prog W=.ok (.string ((T++nm)++(⟨#[32,61,32]⟩:ByteArray))) W:=fun W=>run_string_add_sum W _ _ (by rw [ByteArray.size_append];omega)
      have d3:∀ W:World,(Op.stringOp .add ((T++nm)++(⟨#[32,61,32]⟩:ByteArray)) S).run Tryz.prog W=.ok (.string (((T++nm)++(⟨#[32,61,32]⟩:ByteArray))++S)) W:=fun W=>run_string_add_sum W _ _ (by rw [ByteArray.size_append,ByteArray.size_append];omega)
      have d4:∀ W:World,(Op.stringOp .add (((T++nm)++(⟨#[32,61,32]⟩:ByteArray))++S) ⟨#[10]⟩).run Tryz.prog W=.ok (.string ((((T++nm)++(⟨#[32,61,32]⟩:ByteArray))++S)++⟨#[10]⟩)) W:=fun W=>run_string_add_sum W _ _ (by rw [ByteArray.size_append,ByteArray.size_append,ByteArray.size_append];omega)
      rw [hmo] at e1
      clear hmo hN hS
      go_wp2_with fail
      refine (HN.out _).mono ?_
      rintro e w' ⟨rfl,rfl⟩
      go_wp2_with fail
      refine (HR.out _ HBEL.out).mono ?_
      rintro e w1 ⟨rfl,hb⟩
      have HB1:=hh9 (za0 HBEL.out hb)
      have f0:=zac e0 hb
      have f1:=zac e1 hb
      have f2:=zac e2 hb
      have f3:=zac e3 hb
      have f4:=zac e4 hb
      have f5:=zac e5 hb
      have f6:=zac e6 hb
      have f7:=zac e7 hb
      clear hb e0 e1 e2 e3 e4 e5 e6 e7
      go_wp2_with fail
      go_region_held3 (fun W'=>(W'.cell? ⟨g,off+i*8,none⟩=some (.string nm)/\W'.cell? ⟨g,off+i*8+2,none⟩=some (.int .i64 k)/\W'.cell? ⟨g,off+i*8+3,none⟩=some (.string s)/\W'.cell? ⟨g,off+i*8+4,none⟩=some nv/\W'.cell? ⟨g,off+i*8+5,none⟩=some (.int .i64 lo)/\W'.cell? ⟨g,off+i*8+6,none⟩=some (.int .i64 hi')/\W'.cell? ⟨g,off+i*8+7,none⟩=some kv)/\Below w.heap.size w W')
       (first | exact TelS.step (by assumption) (by assumption) | exact TelS.drew (by assumption) | exact ⟨⟨by assumption,by assumption,by assumption,by assumption,by assumption,by assumption,by assumption⟩,za7 HB1.out 1⟩)
       (first | (go_at_call 51;refine (HTX2.out _ (And.right (by assumption))).mono ?_;rintro e w' ⟨rfl,hb'⟩))
      rename_i hS
      have HB2:=hh9 hS.2
      clear hS f0 f1 f2 f3 f4 f5 f6 f7
      go_wp2_with fail
      go_roundw
      case rel=>exact ⟨i+1,_,rfl,by go_num,by omega,HSZ.out,HNX,HB2,HAK⟩
      case measure=>simp [intOf];omega
     ·have HNX:=hh9 (show (((T++nm)++(⟨#[32,61,47,32]⟩:ByteArray))++S)++(⟨#[10]⟩:ByteArray)=za3 (((l.take (i+1)).map zb9).flatten) by
       rw [HTK.out,HT.out,hN,hS,show (⟨#[32,61,47,32]⟩:ByteArray)=za3 [32,61,47,32] from rfl,show (⟨#[10]⟩:ByteArray)=za3 [10] from rfl,zal,zal,zal,zal]
       unfold zb9
       rw [hmo]
       simp)
      have HSZ:=hh9 (show ((((T++nm)++(⟨#[32,61,47,32]⟩:ByteArray))++S)++(⟨#[10]⟩:ByteArray)).size<=1000000000000 by rw [HNX.out,za9];exact HLE.out)
      have d1:∀ W:World,(Op.stringOp .add T nm).run Tryz.prog W=.ok (.string (T++nm)) W:=fun W=>run_string_add_sum W _ _ (by omega)
      have d2:∀ W:World,(Op.stringOp .add (T++nm) (⟨#[32,61,47,32]⟩:ByteArray)).run Tryz.prog W=.ok (.string ((T++nm)++(⟨#[32,61,47,32]⟩:ByteArray))) W:=fun W=>run_string_add_sum W _ _ (by rw [ByteArray.size_append];omega)
      have d3:∀ W:World,(Op.stringOp .add ((T++nm)++(⟨#[32,61,47,32]⟩:ByteArray)) S).run Tryz.prog W=.ok (.string (((T++nm)++(⟨#[32,61,47,32]⟩:ByteArray))++S)) W:=fun W=>run_string_add_sum W _ _ (by rw [ByteArray.size_append,ByteArray.size_append];omega)
      have d4:∀ W:World,(Op.stringOp .add (((T++nm)++(⟨#[32,61,47,32]⟩:ByteArray))++S) ⟨#[10]⟩).run Tryz.prog W=.ok (.string ((((T++nm)++(⟨#[32,61,47,32]⟩:ByteArray))++S)++⟨#[10]⟩)) W:=fun W=>run_string_add_sum W _ _ (by rw [ByteArray.size_append,ByteArray.size_append,ByteArray.size_append];omega)
      rw [hmo] at e1
      clear hmo hN hS
      go_wp2_with fail
      refine (HN.out _).mono ?_
      rintro e w' ⟨rfl,rfl⟩
      go_wp2_with fail
      refine (HR.out _ HBEL.out).mono ?_
      rintro e w1 ⟨rfl,hb⟩
      have HB1:=hh9 (za0 HBEL.out hb)
      have f0:=zac e0 hb
      have f1:=zac e1 hb
      have f2:=zac e2 hb
      have f3:=zac e3 hb
      have f4:=zac e4 hb
      have f5:=zac e5 hb
      have f6:=zac e6 hb
      have f7:=zac e7 hb
      clear hb e0 e1 e2 e3 e4 e5 e6 e7
      go_wp2_with fail
      go_region_held3 (fun W'=>(W'.cell? ⟨g,off+i*8,none⟩=some (.string nm)/\W'.cell? ⟨g,off+i*8+2,none⟩=some (.int .i64 k)/\W'.cell? ⟨g,off+i*8+3,none⟩=some (.string s)/\W'.cell? ⟨g,off+i*8+4,none⟩=some nv/\W'.cell? ⟨g,off+i*8+5,none⟩=some (.int .i64 lo)/\W'.cell? ⟨g,off+i*8+6,none⟩=some (.int .i64 hi')/\W'.cell? ⟨g,off+i*8+7,none⟩=some kv)/\Below w.heap.size w W')
       (first | exact TelS.step (by assumption) (by assumption) | exact TelS.drew (by assumption) | exact ⟨⟨by assumption,by assumption,by assumption,by assumption,by assumption,by assumption,by assumption⟩,za7 HB1.out 1⟩)
       (first | (go_at_call 51;refine (HTX2.out _ (And.right (by assumption))).mono ?_;rintro e w' ⟨rfl,hb'⟩))
      rename_i hS
      have HB2:=hh9 hS.2
      clear hS f0 f1 f2 f3 f4 f5 f6 f7
      go_wp2_with fail
      go_roundw
      case rel=>exact ⟨i+1,_,rfl,by go_num,by omega,HSZ.out,HNX,HB2,HAK⟩
      case measure=>simp [intOf];omega
   ·have hin:i=n:=by omega
    subst hin
    have HV:=hh9 (show Value.tuple #[.string T,.int .i64 0]=zia l by
     have e:l.take i=l:=List.take_of_length_le (by rw [<- HNN.out];omega)
     have h1:=HT.out
     have h2:=HAL.out
     rw [e] at h1 h2
     unfold zia
     rw [if_pos h2,h1])
    clear HBAD
    go_wp2_with fail
    go_ret2
    exact ⟨congrArg Ending.returned HV.out,HBEL.out⟩
end Go.Proofs.YtekjnfldgjcgeaaGreatDoor
