/- Part 17 of what the laws of the grammar rest on. -/
import Derived.Test.YtahibnnhjahmnaaGreatDoorA12
import Derived.Test.YtahibnnhjahmnaaGreatDoorA16
set_option linter.all false
set_option maxRecDepth 100000
set_option maxHeartbeats 8000000
namespace Go.Proofs.YtahibnnhjahmnaaGreatDoor
open Go.RowKit
def wU(X:List Int):Prop:=∀ c∈X,0<=c/\c<=255
instance (X:List Int):Decidable (wU X):=by unfold wU;infer_instance
theorem qd9{X:List Int}(hX:wU X):Has (rd (ak X)) 0 X:=fun i c hc=>by
 rw[Nat.zero_add];obtain⟨hi,rfl⟩:=zbF.1 hc;rw[pO (by rw[eP];exact hi)];have:=hX X[i] (List.getElem_mem hi);show (((X.map ig).toArray[i]'(by simpa using hi)).toNat:Int)=X[i]
 simp[ig];omega
theorem qda(X:List Int):rd (ak X) (0+X.length)<0:=by
 rw[Oa,eP];omega
theorem YC{l:List Rule}(h1:G7 l=true)(hl:l.length<=500)(hb:wU ((l.map dZ).flatten))(hs:((l.map dZ).flatten).length<=49000){r:Got (List Rule)}(ha:uN (ak ((l.map dZ).flatten)) r):∃ q,r=.ok l q:=by
 unfold uN at ha;rw[if_neg (by rw[eP];omega)]at ha;have:=Xu l [] 0 h1 (by simp;omega) (qd9 hb) (qda _);exact⟨_,ha.one _ (by simpa using this)⟩
def wV:List Rule:=fJ.map fun r=>⟨r.name,false,r.expr⟩
def Ku:List Int:=(wV.map dZ).flatten
theorem zuh:G7 wV=true:=by decide +kernel
theorem zui:wU Ku:=by decide +kernel
theorem YD:Ku.length<=49000:=by decide +kernel
theorem qan:wV.length<=500:=by decide +kernel
theorem zrc{r:Got (List Rule)}(h:uN (ak Ku) r):∃ q,r=.ok wV q:=by
 have h1:=zuh;have h2:=qan;have h3:=zui;have h4:=YD;unfold Ku at h h3 h4;revert h h1 h2 h3 h4;generalize wV=l;intro h h1 h2 h3 h4;exact YC h1 h2 h3 h4 h
def At(w:World)(R:Nat)(s:ByteArray)(p d:Nat):Prop:=w.heap[R]?=some (.cells #[.string s,.int .i64 p,.int .i64 d] 133 (0,0))
theorem At.lt{w:World}{R:Nat}{s:ByteArray}{p d:Nat}(h:At w R s p d):R<w.heap.size:=(zbD.1 h).1
theorem At.cells{w:World}{R:Nat}{s:ByteArray}{p d:Nat}(h:At w R s p d):w.cell? ⟨R,0,none⟩=some (.string s)/\w.cell? ⟨R,1,none⟩=some (.int .i64 p)/\w.cell? ⟨R,2,none⟩=some (.int .i64 d) /\
  w.frozen? ⟨R,0,none⟩=false/\w.frozen? ⟨R,1,none⟩=false/\w.frozen? ⟨R,2,none⟩=false:=by
 unfold At at h;simp[World.cell?,World.frozen?,h]
theorem At.drew{w:World}{R:Nat}{s:ByteArray}{p d:Nat}(h:At w R s p d)(n:Nat):At (w.drewN n) R s p d:=h
theorem At.kept{w w':World}{R:Nat}{row:Option Nat}{s:ByteArray}{p d:Nat}(h:At w R s p d)(hg:w.grownBy w' row)(hr:some R≠row):At w' R s p d:=(hg.block R h.lt hr).trans h
theorem At.alloc{w:World}{R:Nat}{s:ByteArray}{p d:Nat}(h:At w R s p d)(o:Obj):At (w.alloc o) R s p d:=h.kept (World.grownBy_alloc w o none) (by simp)
theorem At.set{w:World}{R:Nat}{s:ByteArray}{p d:Nat}(h:At w R s p d)(q:Nat):At (w.setCell ⟨R,1,none⟩ (.int .i64 q)) R s q d:=by
 unfold At at h ⊢;unfold World.setCell;simp only[Array.getElem?_modify,h];simp
theorem At.Sy{w:World}{R:Nat}{s:ByteArray}{p d:Nat}(h:At w R s p d)(q:Nat):At (w.setCell ⟨R,2,none⟩ (.int .i64 q)) R s p q:=by
 unfold At at h ⊢;unfold World.setCell;simp only[Array.getElem?_modify,h];simp
def DT(R:Nat)(s:ByteArray)(d:Nat)(v:Value)(q:Nat)(w:World)(e:Ending)(w':World):Prop:=e=.returned v/\At w' R s q d/\w.grownBy w' (some R)
def Fa(R:Nat)(c:Int)(w:World)(e:Ending)(w':World):Prop:=e=.panicked [{ v:=.iface 130 (.agg #[.int .i64 c]),recovered:=false }]/\w.grownBy w' (some R)
theorem yg(c:Int)(w:World):Calls Tryz.prog 136 #[.int .u8 c] w (kR (aZ c) w):=by
 by_cases h1:c=32
 ·subst h1;go_enter Tryz.func136,Tryz.ntmps136;go_wp2;go_ret;exact⟨rfl,rfl⟩
 ·have e1:(c==32)=false:=by simpa using h1
  by_cases h2:c=9
  ·subst h2;go_enter Tryz.func136,Tryz.ntmps136;go_wp2;go_ret;exact⟨rfl,rfl⟩
  ·have e2:(c==9)=false:=by simpa using h2
   have hb:aZ c=false:=by unfold aZ;rw[e1,e2];rfl
   rw[hb];clear hb;go_enter Tryz.func136,Tryz.ntmps136;go_wp2;go_ret;exact⟨rfl,rfl⟩
theorem kM(c:Int)(w:World):Calls Tryz.prog 112 #[.int .u8 c] w (kR (aH c) w):=by
 have hu:aH c=((decide (97<=c)&&decide (c<=122))||(decide (65<=c)&&decide (c<=90))):=rfl;by_cases h1:97<=c<;>by_cases h2:c<=122<;>by_cases h3:65<=c<;>by_cases h4:c<=90
 all_goals try (exfalso;omega)
 all_goals
  simp only[h1,h2,h3,h4,decide_true,decide_false,Bool.and_true,Bool.and_false,Bool.or_true,Bool.or_false,Bool.and_self,Bool.or_self]at hu;rw[hu];clear hu;go_enter Tryz.func112,Tryz.ntmps112;go_wp2;go_ret;exact⟨rfl,rfl⟩
theorem YE(c:Int)(h0:0<=c)(h1:c<=255)(w:World):Calls Tryz.prog 186 #[.int .u8 c] w (Jj (iN c) w):=by
 by_cases a:48<=c/\c<=57
 ·have hd:iN c=c-48:=by unfold iN;rw[if_pos a]
  obtain⟨a1,a2⟩:=a;rw[hd];clear hd;go_enter Tryz.func186,Tryz.ntmps186;go_wp2;go_ret;exact⟨rfl,rfl⟩
 ·by_cases b:97<=c/\c<=102
  ·have hd:iN c=c-97+10:=by unfold iN;rw[if_neg a,if_pos b];omega
   obtain⟨b1,b2⟩:=b;rw[hd];clear hd;have a2:¬ c<=57:=by omega
   clear a;go_enter Tryz.func186,Tryz.ntmps186;go_wp2
   all_goals go_ret
   all_goals exact⟨rfl,rfl⟩
  ·by_cases d:65<=c/\c<=70
   ·have hd:iN c=c-65+10:=by unfold iN;rw[if_neg a,if_neg b,if_pos d];omega
    obtain⟨d1,d2⟩:=d;rw[hd];clear hd;have a2:¬ c<=57:=by omega
    have b2:¬ 97<=c:=by omega
    clear a b;go_enter Tryz.func186,Tryz.ntmps186;go_wp2
    all_goals go_ret
    all_goals exact⟨rfl,rfl⟩
   ·have hd:iN c=16:=by unfold iN;rw[if_neg a,if_neg b,if_neg d]
    rw[hd];clear hd;by_cases h1:48<=c<;>by_cases h2:c<=57<;>by_cases h3:97<=c<;>by_cases h4:c<=102<;>by_cases h5:65<=c<;>by_cases h6:c<=70
    all_goals try (exfalso;omega)
    all_goals
     clear a b d;go_enter Tryz.func186,Tryz.ntmps186;go_wp2
     all_goals go_ret
     all_goals exact⟨rfl,rfl⟩
theorem Ie(c b:Int)(h0:0<=c)(h1:c<=255)(w:World):Calls Tryz.prog 183 #[.int .u8 c,.int .i64 b] w (kR (bC b c) w):=by
 go_enter Tryz.func183,Tryz.ntmps183;go_wp2_with fail
 refine(YE c h0 h1 _).mono ?_;rintro e w' ⟨rfl,rfl⟩;go_wp2;go_ret;exact⟨rfl,rfl⟩
theorem uO(c:Int)(h0:0<=c)(h1:c<=255)(w:World):Calls Tryz.prog 174 #[.int .u8 c] w (kR (aS c) w):=by
 rw[<- Ob];go_enter Tryz.func174,Tryz.ntmps174;go_wp2_with fail
 refine(Ie c 10 h0 h1 _).mono ?_;rintro e w' ⟨rfl,rfl⟩;go_wp2;go_ret;exact⟨rfl,rfl⟩
theorem YF(c:Int)(h0:0<=c)(h1:c<=255)(w:World):Calls Tryz.prog 160 #[.int .u8 c] w (kR (dM c) w):=by
 have hu:dM c=(aH c||aS c||c==45):=rfl;rw[hu]
 cases ha:aH c
 ·cases hd:aS c
  ·by_cases h45:c=45
   ·subst h45;clear ha hd hu;go_enter Tryz.func160,Tryz.ntmps160;go_wp2_with fail
    refine(kM _ _).mono ?_;rw[show aH 45=false by decide];rintro e w' ⟨rfl,rfl⟩;go_wp2_with fail
    refine(uO _ (by omega) (by omega) _).mono ?_;rw[show aS 45=false by decide];rintro e w' ⟨rfl,rfl⟩;go_wp2;go_ret;exact⟨rfl,rfl⟩
   ·have e1:(c==45)=false:=by simpa using h45
    have HA:=hh9 ha;have HD:=hh9 hd;clear ha hd hu;rw[e1];go_enter Tryz.func160,Tryz.ntmps160;go_wp2_with fail
    refine(kM _ _).mono ?_;rw[HA.out];rintro e w' ⟨rfl,rfl⟩;go_wp2_with fail
    refine(uO _ h0 h1 _).mono ?_;rw[HD.out];rintro e w' ⟨rfl,rfl⟩;go_wp2;go_ret;exact⟨rfl,rfl⟩
  ·have HA:=hh9 ha;have HD:=hh9 hd;clear ha hd hu;go_enter Tryz.func160,Tryz.ntmps160;go_wp2_with fail
   refine(kM _ _).mono ?_;rw[HA.out];rintro e w' ⟨rfl,rfl⟩;go_wp2_with fail
   refine(uO _ h0 h1 _).mono ?_;rw[HD.out];rintro e w' ⟨rfl,rfl⟩;go_wp2;go_ret;exact⟨rfl,rfl⟩
 ·have HA:=hh9 ha;clear ha hu;go_enter Tryz.func160,Tryz.ntmps160;go_wp2_with fail
  refine(kM _ _).mono ?_;rw[HA.out];rintro e w' ⟨rfl,rfl⟩;go_wp2;go_ret;exact⟨rfl,rfl⟩
theorem YG(c:Int)(w:World):Calls Tryz.prog 193 #[.int .u8 c] w (kR (gT c) w):=by
 have hu:gT c=(decide (32<=c)&&decide (c<=126)&&!(c==34)):=rfl;rw[hu];clear hu;by_cases h3:c=34
 ·subst h3;go_enter Tryz.func193,Tryz.ntmps193;go_wp2;go_ret;exact⟨rfl,rfl⟩
 ·have e3:(c==34)=false:=by simpa using h3
  have e3':(c != 34)=true:=by simpa using h3
  by_cases h1:32<=c<;>by_cases h2:c<=126
  all_goals try (exfalso;omega)
  all_goals
   rw[e3];simp only[h1,h2,decide_true,decide_false,Bool.and_true,Bool.and_false,Bool.and_self,Bool.not_false];go_enter Tryz.func193,Tryz.ntmps193;go_wp2;go_ret;exact⟨rfl,rfl⟩
theorem YH(c:Int)(w:World):Calls Tryz.prog 173 #[.int .u8 c] w (kR (mR c) w):=by
 have hu:mR c=(aZ c||(decide (33<=c)&&decide (c<=126))):=rfl;rw[hu];clear hu
 cases hb:aZ c
 ·have HB:=hh9 hb;clear hb
  cases q1:decide (33<=c)<;>cases q2:decide (c<=126)
  all_goals
   simp only[Bool.and_true,Bool.and_false,Bool.and_self,Bool.false_or,Bool.or_false,Bool.false_and];go_enter Tryz.func173,Tryz.ntmps173;go_wp2_with fail
   refine(yg _ _).mono ?_;rw[HB.out];rintro e w' ⟨rfl,rfl⟩;go_wp2;go_ret;exact⟨rfl,rfl⟩
 ·have HB:=hh9 hb;clear hb;go_enter Tryz.func173,Tryz.ntmps173;go_wp2_with fail
  refine(yg _ _).mono ?_;rw[HB.out];rintro e w' ⟨rfl,rfl⟩;go_wp2;go_ret;exact⟨rfl,rfl⟩
theorem YI(c:Int)(h0:0<=c)(h1:c<=255)(w:World):Calls Tryz.prog 177 #[.int .u8 c] w (kR (dB c) w):=by
 cases ha:aH c
 ·cases hd:aS c
  ·by_cases hc:c=34\/c=37\/c=40\/c=42\/c=91
   ·rcases hc with rfl|rfl|rfl|rfl|rfl
    all_goals
     clear ha hd;go_enter Tryz.func177,Tryz.ntmps177;go_wp2_with fail
     refine(kM _ _).mono ?_
     first|rw[show aH 34=false by decide]|rw[show aH 37=false by decide]|rw[show aH 40=false by decide]|rw[show aH 42=false by decide]|rw[show aH 91=false by decide]
     rintro e w' ⟨rfl,rfl⟩;go_wp2_with fail
     refine(uO _ (by omega) (by omega) _).mono ?_
     first|rw[show aS 34=false by decide]|rw[show aS 37=false by decide]|rw[show aS 40=false by decide]|rw[show aS 42=false by decide]|rw[show aS 91=false by decide]
     rintro e w' ⟨rfl,rfl⟩;go_wp2;go_ret;exact⟨rfl,rfl⟩
   ·have e1:(c==34)=false:=by simp;omega
    have e2:(c==37)=false:=by simp;omega
    have e3:(c==40)=false:=by simp;omega
    have e4:(c==42)=false:=by simp;omega
    have e5:(c==91)=false:=by simp;omega
    rw[Ya ha hd (by omega) (by omega) (by omega) (by omega) (by omega)];have HA:=hh9 ha;have HD:=hh9 hd;clear ha hd hc;go_enter Tryz.func177,Tryz.ntmps177;go_wp2_with fail
    refine(kM _ _).mono ?_;rw[HA.out];rintro e w' ⟨rfl,rfl⟩;go_wp2_with fail
    refine(uO _ h0 h1 _).mono ?_;rw[HD.out];rintro e w' ⟨rfl,rfl⟩;go_wp2;go_ret;exact⟨rfl,rfl⟩
  ·rw[show dB c=true by unfold dB;simp[hd]];have HA:=hh9 ha;have HD:=hh9 hd;clear ha hd;go_enter Tryz.func177,Tryz.ntmps177;go_wp2_with fail
   refine(kM _ _).mono ?_;rw[HA.out];rintro e w' ⟨rfl,rfl⟩;go_wp2_with fail
   refine(uO _ h0 h1 _).mono ?_;rw[HD.out];rintro e w' ⟨rfl,rfl⟩;go_wp2;go_ret;exact⟨rfl,rfl⟩
 ·rw[show dB c=true by unfold dB;simp[ha]];have HA:=hh9 ha;clear ha;go_enter Tryz.func177,Tryz.ntmps177;go_wp2_with fail
  refine(kM _ _).mono ?_;rw[HA.out];rintro e w' ⟨rfl,rfl⟩;go_wp2;go_ret;exact⟨rfl,rfl⟩
theorem Cg(c:Int)(w:World):Calls Tryz.prog 116 #[.int .i64 c] w fun e w'=>e=.panicked [{ v:=.iface 130 (.agg #[.int .i64 c]),recovered:=false }]/\w=w':=by
 go_enter Tryz.func116,Tryz.ntmps116;go_wp2;exact⟨rfl,rfl,rfl⟩
theorem dQ{R p d:Nat}{s:ByteArray}{w:World}(h:At w R s p d)(hs:s.size<=50000)(hp:p<=s.size) :
  Calls Tryz.prog 113 #[.pointer (some ⟨R,0,none⟩)] w (Kk (nx (rd s) p) w):=by
 obtain⟨c0,c1,c2,z0,z1,z2⟩:=h.cells;clear h;by_cases hlt:p<s.size
 ·rw[Cb hlt];have q1:decide (p=s.size)=false:=by simp;omega
  go_enter Tryz.func113,Tryz.ntmps113;go_wp2_with fail
  go_quiet (fail)
  go_wp2_with fail
  go_quiet (fail)
  go_wp2_with fail
  go_ret;exact⟨rfl,_,zx5 _ _ _⟩
 ·rw[DN hlt];obtain rfl:p=s.size:=by omega
  have q1:decide (s.size=s.size)=true:=by simp
  go_enter Tryz.func113,Tryz.ntmps113;go_wp2_with fail
  go_quiet (fail)
  go_wp2_with fail
  go_ret;exact⟨rfl,_,rfl⟩
theorem At.step{w:World}{R:Nat}{s:ByteArray}{p d:Nat}(h:At w R s p d):At (w.setCell ⟨R,1,none⟩ (.int .i64 ((p:Int)+1))) R s (p+1) d:=by
 have:=h.set (p+1);rwa[show ((p+1:Nat):Int)=(p:Int)+1 by omega]at this
theorem uP{R p d:Nat}{s:ByteArray}{w:World}(h:At w R s p d)(hs:s.size<=50000)(c:Int)(hc:0<c)(hy:rd s p=c) :
  Calls Tryz.prog 141 #[.pointer (some ⟨R,0,none⟩),.int .u8 c] w (DT R s d (.bool true) (p+1) w):=by
 have hlt:p<s.size:=by
  by_cases g:p<s.size
  ·exact g
  ·rw[kL g]at hy;omega
 have hn:=(sK hc).2 hy;obtain⟨c0,c1,c2,z0,z1,z2⟩:=h.cells;have HN:=hh9 hn;have H:=hh9 h;have HG:=hh9 (dQ h hs (by omega));clear hn h hy;go_enter Tryz.func141,Tryz.ntmps141;go_wp2_with fail
 refine HG.out.mono ?_;rw[HN.out];rintro e w' ⟨rfl,n,rfl⟩;go_wp2_with fail
 go_ret;exact⟨rfl,(H.out.drew n).step,fu (bY (iq _ _) n) _ _⟩
theorem tT{R p d:Nat}{s:ByteArray}{w:World}(h:At w R s p d)(hs:s.size<=50000)(hp:p<=s.size)(c:Int)(hc:0<c)(hy:rd s p≠c) :
  Calls Tryz.prog 141 #[.pointer (some ⟨R,0,none⟩),.int .u8 c] w (DT R s d (.bool false) p w):=by
 have hn:¬ nx (rd s) p=c:=fun g=>hy ((sK hc).1 g)
 have hb1:(nx (rd s) p != c)=true:=by simpa using hn
 have H:=hh9 h;have HG:=hh9 (dQ h hs hp);clear hn h hy;go_enter Tryz.func141,Tryz.ntmps141;go_wp2_with fail
 refine HG.out.mono ?_;rintro e w' ⟨rfl,n,rfl⟩;go_wp2_with fail
 go_ret;exact⟨rfl,H.out.drew n,bY (iq _ _) n⟩
def Sz(R:Nat)(s:ByteArray)(d:Nat)(q:Nat)(w:World)(e:Ending)(w':World):Prop:=DT R s d (.tuple #[]) q w e w'
theorem kG{R p d:Nat}{s:ByteArray}{w:World}(h:At w R s p d)(hs:s.size<=50000)(c:Int)(hc:0<c)(hy:rd s p=c) :
  Calls Tryz.prog 140 #[.pointer (some ⟨R,0,none⟩),.int .u8 c] w (Sz R s d (p+1) w):=by
 have HG:=hh9 (uP h hs c hc hy);clear hy h;go_enter Tryz.func140,Tryz.ntmps140;go_wp2_with fail
 refine HG.out.mono ?_;rintro e w' ⟨rfl,ha,hg⟩;have HA:=hh9 ha;have HG:=hh9 hg;clear ha hg;go_wp2_with fail
 go_end0;exact⟨rfl,HA.out,HG.out⟩
theorem Ig{R p d:Nat}{s:ByteArray}{w:World}(h:At w R s p d)(hs:s.size<=50000)(hp:p<=s.size)(c:Int)(hc:0<c)(hy:rd s p≠c) :
  Calls Tryz.prog 140 #[.pointer (some ⟨R,0,none⟩),.int .u8 c] w (Fa R 20 w):=by
 have HG:=hh9 (tT h hs hp c hc hy);clear hy h;go_enter Tryz.func140,Tryz.ntmps140;go_wp2_with fail
 refine HG.out.mono ?_;rintro e w' ⟨rfl,ha,hg⟩;have HG:=hh9 hg;clear ha hg;go_wp2_with fail
 refine(Cg _ _).mono ?_;rintro e w2 ⟨rfl,rfl⟩;go_wp2_with fail
 exact⟨rfl,rfl,HG.out⟩
theorem At.pos{w:World}{R:Nat}{s:ByteArray}{p d:Nat}(h:At w R s p d):qH R w=p:=by
 unfold qH;rw[h.cells.2.1];simp
def Ot(P:Int->Bool)(R:Nat)(s:ByteArray)(p d:Nat)(w:World)(e:Ending)(w':World):Prop :=
 ∃ q,eG P (rd s) p q/\q<=s.size/\DT R s d (.string (s.extract p q)) q w e w'
def Ou(P:Int->Bool)(R:Nat)(s:ByteArray)(p d:Nat)(w wr:World)(q:Nat):Prop :=
 At wr R s q d/\w.grownBy wr (some R)/\p<=q/\q<=s.size/\∀ i,p<=i->i<q->P (rd s i)=true
theorem YJ{R p d:Nat}{s:ByteArray}{w:World}(h:At w R s p d)(hs:s.size<=50000)(hp:p<=s.size) :
  Calls Tryz.prog 135 #[.pointer (some ⟨R,0,none⟩),.func (Fn.func 136) #[] #[]] w (Ot aZ R s p d w):=by
 obtain⟨c0,c1,c2,z0,z1,z2⟩:=h.cells;have H:=hh9 h;clear h;go_enter Tryz.func135,Tryz.ntmps135;go_wp2_with fail
 clear c0 c1 c2 z0 z1 z2;go_loopw [] (fun wr=>∃ q:Nat,Ou aZ R s p d w wr q) (fun wr=>s.size-qH R wr)
 case atStart=>exact⟨p,H.out,iq _ _,zbA _,hp,fun i h1 h2=>absurd h1 (by omega)⟩
 case round =>
  obtain⟨q,ha,hg,hpq,aR,hall⟩:=hrel;have HA:=hh9 ha;have HG:=hh9 hg;have HL:=hh9 hall;have HM:=hh9 ha.pos;obtain⟨c0,c1,c2,z0,z1,z2⟩:=ha.cells;have hr:=vR s q;clear ha hg hall
  cases hb:aZ (nx (rd s) q)
  ·have HB:=hh9 hb;have hle:decide ((p:Int)<=(q:Int))=true:=by simp;omega
   have hle2:decide ((q:Int)<=(s.size:Int))=true:=by simp;omega
   clear hb;go_wp2_with fail
   refine(dQ HA.out hs aR).mono ?_;rintro e w' ⟨rfl,n,rfl⟩;go_wp2_with fail
   refine(yg _ _).mono ?_;rw[HB.out];rintro e w' ⟨rfl,rfl⟩;go_wp2_with fail
   go_quiet (fail)
   go_wp2_with fail
   go_ret;exact⟨q,⟨hpq,HL.out,Oe (by decide) (by decide) HB.out⟩,aR,rfl,(HA.out.drew _).drew _,bY (bY HG.out _) _⟩
  ·have HB:=hh9 hb;have hlt:=Oc (by decide) hb;clear hb;go_wp2_with fail
   refine(dQ HA.out hs aR).mono ?_;rintro e w' ⟨rfl,n,rfl⟩;go_wp2_with fail
   refine(yg _ _).mono ?_;rw[HB.out];rintro e w' ⟨rfl,rfl⟩;go_wp2_with fail
   go_roundw
   case rel=>exact⟨q+1,(HA.out.drew n).step,fu (bY HG.out n) _ _,by omega,by omega,Cc HL.out (Od hlt HB.out)⟩
   case measure =>
    rw[HM.out,(HA.out.drew n).step.pos];omega
theorem YK{R p d:Nat}{s:ByteArray}{w:World}(h:At w R s p d)(hs:s.size<=50000)(hp:p<=s.size) :
  Calls Tryz.prog 135 #[.pointer (some ⟨R,0,none⟩),.func (Fn.func 160) #[] #[]] w (Ot dM R s p d w):=by
 obtain⟨c0,c1,c2,z0,z1,z2⟩:=h.cells;have H:=hh9 h;clear h;go_enter Tryz.func135,Tryz.ntmps135;go_wp2_with fail
 clear c0 c1 c2 z0 z1 z2;go_loopw [] (fun wr=>∃ q:Nat,Ou dM R s p d w wr q) (fun wr=>s.size-qH R wr)
 case atStart=>exact⟨p,H.out,iq _ _,zbA _,hp,fun i h1 h2=>absurd h1 (by omega)⟩
 case round =>
  obtain⟨q,ha,hg,hpq,aR,hall⟩:=hrel;have HA:=hh9 ha;have HG:=hh9 hg;have HL:=hh9 hall;have HM:=hh9 ha.pos;obtain⟨c0,c1,c2,z0,z1,z2⟩:=ha.cells;have hr:=vR s q;clear ha hg hall
  cases hb:dM (nx (rd s) q)
  ·have HB:=hh9 hb;have hle:decide ((p:Int)<=(q:Int))=true:=by simp;omega
   have hle2:decide ((q:Int)<=(s.size:Int))=true:=by simp;omega
   clear hb;go_wp2_with fail
   refine(dQ HA.out hs aR).mono ?_;rintro e w' ⟨rfl,n,rfl⟩;go_wp2_with fail
   refine(YF _ hr.1 hr.2 _).mono ?_;rw[HB.out];rintro e w' ⟨rfl,rfl⟩;go_wp2_with fail
   go_quiet (fail)
   go_wp2_with fail
   go_ret;exact⟨q,⟨hpq,HL.out,Oe (by decide) (by decide) HB.out⟩,aR,rfl,(HA.out.drew _).drew _,bY (bY HG.out _) _⟩
  ·have HB:=hh9 hb;have hlt:=Oc (by decide) hb;clear hb;go_wp2_with fail
   refine(dQ HA.out hs aR).mono ?_;rintro e w' ⟨rfl,n,rfl⟩;go_wp2_with fail
   refine(YF _ hr.1 hr.2 _).mono ?_;rw[HB.out];rintro e w' ⟨rfl,rfl⟩;go_wp2_with fail
   go_roundw
   case rel=>exact⟨q+1,(HA.out.drew n).step,fu (bY HG.out n) _ _,by omega,by omega,Cc HL.out (Od hlt HB.out)⟩
   case measure =>
    rw[HM.out,(HA.out.drew n).step.pos];omega
theorem YL{R p d:Nat}{s:ByteArray}{w:World}(h:At w R s p d)(hs:s.size<=50000)(hp:p<=s.size) :
  Calls Tryz.prog 135 #[.pointer (some ⟨R,0,none⟩),.func (Fn.func 193) #[] #[]] w (Ot gT R s p d w):=by
 obtain⟨c0,c1,c2,z0,z1,z2⟩:=h.cells;have H:=hh9 h;clear h;go_enter Tryz.func135,Tryz.ntmps135;go_wp2_with fail
 clear c0 c1 c2 z0 z1 z2;go_loopw [] (fun wr=>∃ q:Nat,Ou gT R s p d w wr q) (fun wr=>s.size-qH R wr)
 case atStart=>exact⟨p,H.out,iq _ _,zbA _,hp,fun i h1 h2=>absurd h1 (by omega)⟩
 case round =>
  obtain⟨q,ha,hg,hpq,aR,hall⟩:=hrel;have HA:=hh9 ha;have HG:=hh9 hg;have HL:=hh9 hall;have HM:=hh9 ha.pos;obtain⟨c0,c1,c2,z0,z1,z2⟩:=ha.cells;have hr:=vR s q;clear ha hg hall
  cases hb:gT (nx (rd s) q)
  ·have HB:=hh9 hb;have hle:decide ((p:Int)<=(q:Int))=true:=by simp;omega
   have hle2:decide ((q:Int)<=(s.size:Int))=true:=by simp;omega
   clear hb;go_wp2_with fail
   refine(dQ HA.out hs aR).mono ?_;rintro e w' ⟨rfl,n,rfl⟩;go_wp2_with fail
   refine(YG _ _).mono ?_;rw[HB.out];rintro e w' ⟨rfl,rfl⟩;go_wp2_with fail
   go_quiet (fail)
   go_wp2_with fail
   go_ret;exact⟨q,⟨hpq,HL.out,Oe (by decide) (by decide) HB.out⟩,aR,rfl,(HA.out.drew _).drew _,bY (bY HG.out _) _⟩
  ·have HB:=hh9 hb;have hlt:=Oc (by decide) hb;clear hb;go_wp2_with fail
   refine(dQ HA.out hs aR).mono ?_;rintro e w' ⟨rfl,n,rfl⟩;go_wp2_with fail
   refine(YG _ _).mono ?_;rw[HB.out];rintro e w' ⟨rfl,rfl⟩;go_wp2_with fail
   go_roundw
   case rel=>exact⟨q+1,(HA.out.drew n).step,fu (bY HG.out n) _ _,by omega,by omega,Cc HL.out (Od hlt HB.out)⟩
   case measure =>
    rw[HM.out,(HA.out.drew n).step.pos];omega
theorem zo0{R p d:Nat}{s:ByteArray}{w:World}(h:At w R s p d)(hs:s.size<=50000)(hp:p<=s.size) :
  Calls Tryz.prog 135 #[.pointer (some ⟨R,0,none⟩),.func (Fn.func 173) #[] #[]] w (Ot mR R s p d w):=by
 obtain⟨c0,c1,c2,z0,z1,z2⟩:=h.cells;have H:=hh9 h;clear h;go_enter Tryz.func135,Tryz.ntmps135;go_wp2_with fail
 clear c0 c1 c2 z0 z1 z2;go_loopw [] (fun wr=>∃ q:Nat,Ou mR R s p d w wr q) (fun wr=>s.size-qH R wr)
 case atStart=>exact⟨p,H.out,iq _ _,zbA _,hp,fun i h1 h2=>absurd h1 (by omega)⟩
 case round =>
  obtain⟨q,ha,hg,hpq,aR,hall⟩:=hrel;have HA:=hh9 ha;have HG:=hh9 hg;have HL:=hh9 hall;have HM:=hh9 ha.pos;obtain⟨c0,c1,c2,z0,z1,z2⟩:=ha.cells;have hr:=vR s q;clear ha hg hall
  cases hb:mR (nx (rd s) q)
  ·have HB:=hh9 hb;have hle:decide ((p:Int)<=(q:Int))=true:=by simp;omega
   have hle2:decide ((q:Int)<=(s.size:Int))=true:=by simp;omega
   clear hb;go_wp2_with fail
   refine(dQ HA.out hs aR).mono ?_;rintro e w' ⟨rfl,n,rfl⟩;go_wp2_with fail
   refine(YH _ _).mono ?_;rw[HB.out];rintro e w' ⟨rfl,rfl⟩;go_wp2_with fail
   go_quiet (fail)
   go_wp2_with fail
   go_ret;exact⟨q,⟨hpq,HL.out,Oe (by decide) (by decide) HB.out⟩,aR,rfl,(HA.out.drew _).drew _,bY (bY HG.out _) _⟩
  ·have HB:=hh9 hb;have hlt:=Oc (by decide) hb;clear hb;go_wp2_with fail
   refine(dQ HA.out hs aR).mono ?_;rintro e w' ⟨rfl,n,rfl⟩;go_wp2_with fail
   refine(YH _ _).mono ?_;rw[HB.out];rintro e w' ⟨rfl,rfl⟩;go_wp2_with fail
   go_roundw
   case rel=>exact⟨q+1,(HA.out.drew n).step,fu (bY HG.out n) _ _,by omega,by omega,Cc HL.out (Od hlt HB.out)⟩
   case measure =>
    rw[HM.out,(HA.out.drew n).step.pos];omega
theorem Ih{R p d:Nat}{s:ByteArray}{w:World}(h:At w R s p d)(hs:s.size<=50000)(hp:p<=s.size) :
  Calls Tryz.prog 159 #[.pointer (some ⟨R,0,none⟩)] w (Jh (wS (rd s) p) w):=by
 obtain⟨c0,c1,c2,z0,z1,z2⟩:=h.cells;have hR:=h.lt
 have hA:At (w.alloc (.cells #[.string s,.int .i64 p,.int .i64 d] 133)) w.heap.size s p d:=by
  unfold At;show (w.heap.push _)[w.heap.size]?=_
  simp
 have hB:Below w.heap.size w (w.alloc (.cells #[.string s,.int .i64 p,.int .i64 d] 133)):=(zbE _ _).alloc (zbA _) _;have HA:=hh9 hA;have HB:=hh9 hB;have H:=hh9 h;clear h hA hB;go_enter Tryz.func159,Tryz.ntmps159;go_wp2_with fail
 have hcases:(rd s p=59/\p<s.size)\/rd s p≠59:=by
  by_cases g:rd s p=59
  ·exact .inl ⟨g,by by_cases k:p<s.size;exact k;rw[kL k]at g;omega⟩
  ·exact .inr g
 have hsz:w.heap.size<=(w.alloc (.cells #[.string s,.int .i64 p,.int .i64 d] 133)).heap.size:=HB.out.size;rcases hcases with ⟨yh,hlt⟩|yh
 ·have AQ:=hh9 yh;clear yh c0 c1 c2 z0 z1 z2;refine(uP HA.out hs 59 (by omega) AQ.out).mono ?_;rintro e w1 ⟨rfl,ha,hg⟩;have HA1:=hh9 ha;have HB1:=hh9 (uK HB.out hg hsz (zbA _));clear ha hg HA HB;go_wp2_with fail
  refine(zo0 HA1.out hs (by omega)).mono ?_;rintro e w2 ⟨q,hrun,aR,rfl,ha,hg⟩;have HA:=hh9 ha;have HB:=hh9 (uK HB1.out hg HB1.out.size (zbA _));have HC:Hid (ji (rd s) p=q):=by unfold ji;rw[if_pos AQ.out];exact hrun.eq
  obtain⟨c0,c1,c2,z0,z1,z2⟩:=ha.cells;clear ha hg hrun HA1 HB1 AQ hlt hsz H;by_cases hq:q<s.size
  ·have q1:decide (q=s.size)=false:=by simp;omega
   by_cases h10:rd s q=10
   ·have rA:=hh9 h10;clear h10;go_wp2_with fail
    refine(uP HA.out hs 10 (by omega) rA.out).mono ?_;rintro e w3 ⟨rfl,ha,hg⟩;have HB2:=hh9 (uK HB.out hg HB.out.size (zbA _));obtain⟨c0',c1',c2',Ov,z1',z2'⟩:=ha.cells;clear ha hg c0 c1 c2 z0 z1 z2;go_wp2;go_ret;exact⟨nk (by rw[Yd HC.out rA.out]),HB2.out⟩
   ·have rA:=hh9 h10;clear h10;go_wp2_with fail
    refine(tT HA.out hs aR 10 (by omega) rA.out).mono ?_;rintro e w3 ⟨rfl,ha,hg⟩;have aC:=hh9 ha;have HB3:=hh9 (uK HB.out hg HB.out.size (zbA _));clear ha hg c0 c1 c2 z0 z1 z2 HA HB;by_cases nM:rd s q=13
    ·have rC:=hh9 nM;clear nM;go_wp2_with fail
     refine(uP aC.out hs 13 (by omega) rC.out).mono ?_;rintro e w4 ⟨rfl,ha,hg⟩;have bf:=hh9 ha;have eB:=hh9 (uK HB3.out hg HB3.out.size (zbA _));clear ha hg aC HB3;by_cases h11:rd s (q+1)=10
     ·have nN:=hh9 h11;clear h11;go_wp2_with fail
      refine(uP bf.out hs 10 (by omega) nN.out).mono ?_;rintro e w5 ⟨rfl,ha,hg⟩;have iR:=hh9 (uK eB.out hg eB.out.size (zbA _));obtain⟨c0',c1',c2',Ov,z1',z2'⟩:=ha.cells;clear ha hg;go_wp2;go_ret;exact⟨nk (by rw[Ye HC.out rC.out nN.out];omega),iR.out⟩
     ·have nN:=hh9 h11;clear h11;go_wp2_with fail
      refine(tT bf.out hs (by omega) 10 (by omega) nN.out).mono ?_;rintro e w5 ⟨rfl,ha,hg⟩;have iR:=hh9 (uK eB.out hg eB.out.size (zbA _));clear ha hg;go_wp2;go_ret;exact⟨nk (by rw[Og HC.out (by rw[rC.out];omega) rA.out (fun g=>nN.out g.2)]),iR.out⟩
    ·have rC:=hh9 nM;clear nM;go_wp2_with fail
     refine(tT aC.out hs aR 13 (by omega) rC.out).mono ?_;rintro e w4 ⟨rfl,ha,hg⟩;have eB:=hh9 (uK HB3.out hg HB3.out.size (zbA _));clear ha hg;go_wp2;go_ret;exact⟨nk (by rw[Og HC.out (by rw[pO hq];omega) rA.out (fun g=>rC.out g.1)]),eB.out⟩
  ·obtain⟨n,hn⟩:∃ n,n=s.size:=⟨_,rfl⟩
   have HN:=hh9 hn;obtain rfl:q=n:=by omega
   have q1:decide (q=s.size)=true:=by simp;omega
   clear hn;go_wp2_with fail
   go_ret;exact⟨nk (by rw[Yb HC.out (by rw[kL hq];omega)];omega),HB.out⟩
 ·have AQ:=hh9 yh;clear yh c0 c1 c2 z0 z1 z2;refine(tT HA.out hs hp 59 (by omega) AQ.out).mono ?_;rintro e w2 ⟨rfl,ha,hg⟩;have HA1:=hh9 ha;have HB1:=hh9 (uK HB.out hg hsz (zbA _));have HC:Hid (ji (rd s) p=p):=by unfold ji;rw[if_neg AQ.out];exact rfl
  obtain⟨c0,c1,c2,z0,z1,z2⟩:=ha.cells;clear ha hg HA HB AQ hsz H;have HA:=HA1;have HB:=HB1;clear HA1 HB1;obtain⟨q,hq⟩:∃ q,q=p:=⟨_,rfl⟩
  subst hq;have aR:=hp;by_cases hq:q<s.size
  ·have q1:decide (q=s.size)=false:=by simp;omega
   by_cases h10:rd s q=10
   ·have rA:=hh9 h10;clear h10;go_wp2_with fail
    refine(uP HA.out hs 10 (by omega) rA.out).mono ?_;rintro e w3 ⟨rfl,ha,hg⟩;have HB2:=hh9 (uK HB.out hg HB.out.size (zbA _));obtain⟨c0',c1',c2',Ov,z1',z2'⟩:=ha.cells;clear ha hg c0 c1 c2 z0 z1 z2;go_wp2;go_ret;exact⟨nk (by rw[Yd HC.out rA.out]),HB2.out⟩
   ·have rA:=hh9 h10;clear h10;go_wp2_with fail
    refine(tT HA.out hs aR 10 (by omega) rA.out).mono ?_;rintro e w3 ⟨rfl,ha,hg⟩;have aC:=hh9 ha;have HB3:=hh9 (uK HB.out hg HB.out.size (zbA _));clear ha hg c0 c1 c2 z0 z1 z2 HA HB;by_cases nM:rd s q=13
    ·have rC:=hh9 nM;clear nM;go_wp2_with fail
     refine(uP aC.out hs 13 (by omega) rC.out).mono ?_;rintro e w4 ⟨rfl,ha,hg⟩;have bf:=hh9 ha;have eB:=hh9 (uK HB3.out hg HB3.out.size (zbA _));clear ha hg aC HB3;by_cases h11:rd s (q+1)=10
     ·have nN:=hh9 h11;clear h11;go_wp2_with fail
      refine(uP bf.out hs 10 (by omega) nN.out).mono ?_;rintro e w5 ⟨rfl,ha,hg⟩;have iR:=hh9 (uK eB.out hg eB.out.size (zbA _));obtain⟨c0',c1',c2',Ov,z1',z2'⟩:=ha.cells;clear ha hg;go_wp2;go_ret;exact⟨nk (by rw[Ye HC.out rC.out nN.out];omega),iR.out⟩
     ·have nN:=hh9 h11;clear h11;go_wp2_with fail
      refine(tT bf.out hs (by omega) 10 (by omega) nN.out).mono ?_;rintro e w5 ⟨rfl,ha,hg⟩;have iR:=hh9 (uK eB.out hg eB.out.size (zbA _));clear ha hg;go_wp2;go_ret;exact⟨nk (by rw[Og HC.out (by rw[rC.out];omega) rA.out (fun g=>nN.out g.2)]),iR.out⟩
    ·have rC:=hh9 nM;clear nM;go_wp2_with fail
     refine(tT aC.out hs aR 13 (by omega) rC.out).mono ?_;rintro e w4 ⟨rfl,ha,hg⟩;have eB:=hh9 (uK HB3.out hg HB3.out.size (zbA _));clear ha hg;go_wp2;go_ret;exact⟨nk (by rw[Og HC.out (by rw[pO hq];omega) rA.out (fun g=>rC.out g.1)]),eB.out⟩
  ·obtain⟨n,hn⟩:∃ n,n=s.size:=⟨_,rfl⟩
   have HN:=hh9 hn;obtain rfl:q=n:=by omega
   have q1:decide (q=s.size)=true:=by simp;omega
   clear hn;go_wp2_with fail
   go_ret;exact⟨nk (by rw[Yb HC.out (by rw[kL hq];omega)];omega),HB.out⟩
theorem At.put{w:World}{R:Nat}{s:ByteArray}{p d:Nat}(h:At w R s p d){x:Int}{q:Nat}(hx:x=q):At (w.setCell ⟨R,1,none⟩ (.int .i64 x)) R s q d:=by rw[hx];exact h.set q
theorem At.below{w w':World}{R:Nat}{s:ByteArray}{p d:Nat}(h:At w R s p d)(hb:Below w.heap.size w w'):At w' R s p d:=(hb.block R h.lt).trans h
theorem SA{R p d e:Nat}{s:ByteArray}{w:World}(h:At w R s p d)(hs:s.size<=50000)(hp:p<=s.size)(he:eH (rd s) p=some e) :
  Calls Tryz.prog 137 #[.pointer (some ⟨R,0,none⟩)] w (Sz R s d e w):=by
 have HC:=hh9 (Ih h hs hp);have HE:=hh9 (Yf he);have H:=hh9 h;clear h he;go_enter Tryz.func137,Tryz.ntmps137;go_wp2_with fail
 refine HC.out.mono ?_;rw[HE.out];rintro e1 w1 ⟨rfl,hb⟩;obtain⟨c0,c1,c2,z0,z1,z2⟩:=(H.out.below hb).cells;have HA:=hh9 (H.out.below hb);have HB:=hh9 hb;clear hb;go_wp2;go_end0;exact⟨rfl,HA.out.set e,fu (dw (iq _ _) HB.out) _ _⟩
theorem SB{R p d:Nat}{s:ByteArray}{w:World}(h:At w R s p d)(hs:s.size<=50000)(hp:p<=s.size)(he:eH (rd s) p=none) :
  Calls Tryz.prog 137 #[.pointer (some ⟨R,0,none⟩)] w (Fa R 20 w):=by
 have HC:=hh9 (Ih h hs hp);have HE:=hh9 (Yg he);have H:=hh9 h;clear h he;go_enter Tryz.func137,Tryz.ntmps137;go_wp2_with fail
 refine HC.out.mono ?_;rw[HE.out];rintro e1 w1 ⟨rfl,hb⟩;have HB:=hh9 hb;clear hb;go_wp2_with fail
 refine(Cg _ _).mono ?_;rintro e w2 ⟨rfl,rfl⟩;go_wp2_with fail
 exact⟨rfl,rfl,dw (iq _ _) HB.out⟩
theorem zxg{R p d q e:Nat}{s:ByteArray}{w:World}(h:At w R s p d)(hs:s.size<=50000)(hp:p<=s.size)(hq:jC aZ (rd s) p=q)(he:eH (rd s) q=some e) :
  Calls Tryz.prog 114 #[.pointer (some ⟨R,0,none⟩)] w (Sz R s d e w):=by
 have HC:=hh9 (YJ h hs hp);have HE:=hh9 he;have HQ:=hh9 hq;clear h he hq;go_enter Tryz.func114,Tryz.ntmps114;go_wp2_with fail
 refine HC.out.mono ?_;rintro e1 w1 ⟨q1,hrun,aR,rfl,ha,hg⟩;obtain rfl:q1=q:=hrun.eq.symm.trans HQ.out;have HA:=hh9 ha;have HG:=hh9 hg;clear ha hg hrun HC;go_wp2_with fail
 refine(SA HA.out hs aR HE.out).mono ?_;rintro e1 w2 ⟨rfl,ha,hg⟩;have HA2:=hh9 ha;have HG2:=hh9 hg;clear ha hg;go_wp2_with fail
 go_end0;exact⟨rfl,HA2.out,HG.out.trans HG2.out⟩
theorem qap{R p d q:Nat}{s:ByteArray}{w:World}(h:At w R s p d)(hs:s.size<=50000)(hp:p<=s.size)(hq:jC aZ (rd s) p=q)(he:eH (rd s) q=none) :
  Calls Tryz.prog 114 #[.pointer (some ⟨R,0,none⟩)] w (Fa R 20 w):=by
 have HC:=hh9 (YJ h hs hp);have HE:=hh9 he;have HQ:=hh9 hq;clear h he hq;go_enter Tryz.func114,Tryz.ntmps114;go_wp2_with fail
 refine HC.out.mono ?_;rintro e1 w1 ⟨q1,hrun,aR,rfl,ha,hg⟩;obtain rfl:q1=q:=hrun.eq.symm.trans HQ.out;have HA:=hh9 ha;have HG:=hh9 hg;clear ha hg hrun HC;go_wp2_with fail
 refine(SB HA.out hs aR HE.out).mono ?_;rintro e1 w2 ⟨rfl,hg⟩;have HG2:=hh9 hg;clear hg;go_wp2_with fail
 exact⟨rfl,rfl,HG.out.trans HG2.out⟩
def zuj(R:Nat)(s:ByteArray)(p d:Nat)(w:World)(e:Ending)(w':World):Prop :=
 ∃ q,Skip (rd s) p q/\p<=q/\q<=s.size/\DT R s d (.bool (decide (p<q))) q w e w'
def qes(R:Nat)(s:ByteArray)(p d:Nat)(w wr:World)(q:Nat):Prop :=
 At wr R s q d/\w.grownBy wr (some R)/\p<=q/\q<=s.size/\∀ r,Skip (rd s) q r->Skip (rd s) p r
theorem Ii{R p d:Nat}{s:ByteArray}{w:World}(h:At w R s p d)(hs:s.size<=50000)(hp:p<=s.size) :
  Calls Tryz.prog 139 #[.pointer (some ⟨R,0,none⟩)] w (zuj R s p d w):=by
 obtain⟨c0,c1,c2,z0,z1,z2⟩:=h.cells;have H:=hh9 h;clear h;go_enter Tryz.func139,Tryz.ntmps139;go_wp2_with fail
 go_step3
 go_wp2_with fail
 go_step3
 go_wp2_with fail
 clear c0 c1 c2 z0 z1 z2;go_loopw [4,5] (fun _ _ wr=>∃ q:Nat,qes R s p d w wr q) (fun _ _ wr=>s.size-qH R wr)
 case atStart=>exact⟨p,H.out,iq _ _,zbA _,hp,fun r hr=>hr⟩
 case round =>
  obtain⟨q,ha,hg,hpq,aR,hsk⟩:=hrel;have HA:=hh9 ha;have HG:=hh9 hg;have HS:=hh9 hsk;have HM:=hh9 ha.pos;obtain⟨c0,c1,c2,z0,z1,z2⟩:=ha.cells;obtain⟨c,hc⟩:∃ c,c=nx (rd s) q:=⟨_,rfl⟩
  have hr:0<=c/\c<=255:=by rw[hc];exact vR s q
  have hbl:aZ c=aZ (rd s q):=by rw[hc];exact qd4
  have HC:=hh9 hc;clear ha hg hsk
  cases hb:aZ (rd s q)
  ·have HB:=hh9 hb;have Fb:=hh9 (hbl.trans hb);clear hb hbl;by_cases h3:c=59\/c=13\/c=10
   ·cases hle:eH (rd s) q with
    |none =>
     have HZ:Hid (Skip (rd s) q q):=Skip.here HB.out (fun e he=>by rw[hle]at he;cases he);have HL:=hh9 (Yg hle);clear hle hc c0 c1 c2 z0 z1 z2;rcases h3 with rfl|rfl|rfl
     all_goals
      go_wp2_with fail
      refine(dQ HA.out hs aR).mono ?_;rw[<- HC.out];rintro e w' ⟨rfl,n,rfl⟩;go_wp2_with fail
      refine(yg _ _).mono ?_;rw[Fb.out];rintro e w' ⟨rfl,rfl⟩;go_wp2_with fail
      refine(Ih (HA.out.drew n) hs aR).mono ?_;rw[HL.out];rintro e w2 ⟨rfl,hb2⟩;have HA2:=hh9 ((HA.out.drew n).below hb2);have HG2:=hh9 (dw (bY HG.out n) hb2);obtain⟨c0,c1,c2,z0,z1,z2⟩:=HA2.out.cells;clear hb2;go_wp2_with fail
      try rw[Exit.noGoto_ret]
      go_ret;exact⟨q,HS.out _ HZ.out,hpq,aR,rfl,HA2.out,HG2.out⟩
    |some e =>
     have HL:=hh9 (Yf hle);have hee:=qI aR hle;have jY:=hh9 hle;have q0:decide ((e:Int)<0)=false:=zbM (by omega);by_cases he:e<s.size
     ·cases hbe:aZ (rd s e)
      ·have HZ:Hid (Skip (rd s) q q):=Skip.here HB.out (fun e' he'=>by rw[hle]at he';cases he';exact hbe);have pK:Hid (aZ (s[e].toNat:Int)=false):=by rw[<- pO he];exact hbe
       have q1:decide (e=s.size)=false:=by simp;omega
       clear hle hc hbe c0 c1 c2 z0 z1 z2;rcases h3 with rfl|rfl|rfl
       all_goals
        go_wp2_with fail
        refine(dQ HA.out hs aR).mono ?_;rw[<- HC.out];rintro e' w' ⟨rfl,n,rfl⟩;go_wp2_with fail
        refine(yg _ _).mono ?_;rw[Fb.out];rintro e' w' ⟨rfl,rfl⟩;go_wp2_with fail
        refine(Ih (HA.out.drew n) hs aR).mono ?_;rw[HL.out];rintro e' w2 ⟨rfl,hb2⟩;have HA2:=hh9 ((HA.out.drew n).below hb2);have HG2:=hh9 (dw (bY HG.out n) hb2);obtain⟨c0,c1,c2,z0,z1,z2⟩:=HA2.out.cells;clear hb2;go_wp2_with fail
        refine(yg _ _).mono ?_;rw[pK.out];rintro e' w' ⟨rfl,rfl⟩;go_wp2_with fail
        try rw[Exit.noGoto_ret]
        go_ret;exact⟨q,HS.out _ HZ.out,hpq,aR,rfl,HA2.out,HG2.out⟩
      ·have pK:Hid (aZ (s[e].toNat:Int)=true):=by rw[<- pO he];exact hbe
       have HZ:Hid (∀ r,Skip (rd s) (e+1) r->Skip (rd s) q r):=fun r hr=>Skip.line HB.out hle hbe hr
       have q1:decide (e=s.size)=false:=by simp;omega
       clear hle hc hbe c0 c1 c2 z0 z1 z2;rcases h3 with rfl|rfl|rfl
       all_goals
        go_wp2_with fail
        refine(dQ HA.out hs aR).mono ?_;rw[<- HC.out];rintro e' w' ⟨rfl,n,rfl⟩;go_wp2_with fail
        refine(yg _ _).mono ?_;rw[Fb.out];rintro e' w' ⟨rfl,rfl⟩;go_wp2_with fail
        refine(Ih (HA.out.drew n) hs aR).mono ?_;rw[HL.out];rintro e' w2 ⟨rfl,hb2⟩;have HA2:=hh9 ((HA.out.drew n).below hb2);have HG2:=hh9 (dw (bY HG.out n) hb2);obtain⟨c0,c1,c2,z0,z1,z2⟩:=HA2.out.cells;clear hb2;go_wp2_with fail
        refine(yg _ _).mono ?_;rw[pK.out];rintro e' w' ⟨rfl,rfl⟩;go_wp2_with fail
        go_roundw
        case rel=>exact⟨e+1,HA2.out.put (by omega),fu HG2.out _ _,by omega,by omega,fun r hr=>HS.out r (HZ.out r hr)⟩
        case measure =>
         rw[HM.out,(HA2.out.put (x:=(e:Int)+1) (q:=e+1) (by omega)).pos];omega
     ·obtain⟨m,hm⟩:∃ m,m=s.size:=⟨_,rfl⟩
      have ng:=hh9 hm;obtain rfl:e=m:=by omega
      have q1:decide (e=s.size)=true:=by simp;omega
      have HZ:Hid (Skip (rd s) q q):=Skip.here HB.out (fun e' he'=>by rw[hle]at he';cases he';rw[kL he];decide);clear hle hc hm c0 c1 c2 z0 z1 z2;rcases h3 with rfl|rfl|rfl
      all_goals
       go_wp2_with fail
       refine(dQ HA.out hs aR).mono ?_;rw[<- HC.out];rintro e' w' ⟨rfl,n,rfl⟩;go_wp2_with fail
       refine(yg _ _).mono ?_;rw[Fb.out];rintro e' w' ⟨rfl,rfl⟩;go_wp2_with fail
       refine(Ih (HA.out.drew n) hs aR).mono ?_;rw[HL.out];rintro e' w2 ⟨rfl,hb2⟩;have HA2:=hh9 ((HA.out.drew n).below hb2);have HG2:=hh9 (dw (bY HG.out n) hb2);obtain⟨c0,c1,c2,z0,z1,z2⟩:=HA2.out.cells;clear hb2;go_wp2_with fail
       try rw[Exit.noGoto_ret]
       go_ret;exact⟨q,HS.out _ HZ.out,hpq,aR,rfl,HA2.out,HG2.out⟩
   ·have e1:(c==59)=false:=by simp;omega
    have e2:(c==13)=false:=by simp;omega
    have e3:(c==10)=false:=by simp;omega
    have HZ:Hid (Skip (rd s) q q):=Skip.here HB.out (fun e he=>zx6 he (by omega) (by omega) (by omega));clear hc h3;go_wp2_with fail
    refine(dQ HA.out hs aR).mono ?_;rw[<- HC.out];rintro e w' ⟨rfl,n,rfl⟩;go_wp2_with fail
    refine(yg _ _).mono ?_;rw[Fb.out];rintro e w' ⟨rfl,rfl⟩;go_wp2_with fail
    try rw[Exit.noGoto_ret]
    go_ret;exact⟨q,HS.out _ HZ.out,hpq,aR,rfl,HA.out.drew n,bY HG.out n⟩
  ·have HB:=hh9 hb;have Fb:=hh9 (hbl.trans hb);have hlt:=R5 hb;clear hb hbl hc;go_wp2_with fail
   refine(dQ HA.out hs aR).mono ?_;rw[<- HC.out];rintro e w' ⟨rfl,n,rfl⟩;go_wp2_with fail
   refine(yg _ _).mono ?_;rw[Fb.out];rintro e w' ⟨rfl,rfl⟩;go_wp2_with fail
   go_roundw
   case rel=>exact⟨q+1,(HA.out.drew n).step,fu (bY HG.out n) _ _,by omega,by omega,fun r hr=>HS.out r (.blank HB.out hr)⟩
   case measure =>
    rw[HM.out,(HA.out.drew n).step.pos];omega
def jf{α:Type}(mk:α->Value)(R:Nat)(s:ByteArray)(d:Nat)(g:Got α)(w:World)(e:Ending)(w':World):Prop :=
 match g with
 |.ok x q=>q<=s.size/\DT R s d (mk x) q w e w'
 |.err c=>Fa R c w e w'
def Kv(b lim:Int)(R:Nat)(s:ByteArray)(p d:Nat)(w wr:World)(v:Value)(q:Nat):Prop :=
 At wr R s q d/\w.grownBy wr (some R)/\p<=q/\q<=s.size/\(∀ i,p<=i->i<q->bC b (rd s i)=true)/\v=.int .i64 (uL lim (val b (rd s) p (q-p)))
theorem wW{R p d:Nat}{s:ByteArray}{w:World}(b lim:Int)(hb:b=2\/b=10\/b=16)(hl:0<=lim)(hl2:lim<=2000000)(h:At w R s p d)(hs:s.size<=50000)(hp:p<=s.size) :
  Calls Tryz.prog 187 #[.pointer (some ⟨R,0,none⟩),.int .i64 b,.int .i64 lim] w (jf (fun v=>.int .i64 v) R s d (fC b lim (rd s) p) w):=by
 have oL:b<=16:=by omega
 have hb2:2<=b:=by omega
 have H:=hh9 h;have jX:=hh9 hb;have hr:=vR s p;clear h hb
 cases hd:bC b (rd s p)
 ·have HD:=hh9 ((Oh oL).trans hd);rw[R7 hd];clear hd;go_enter Tryz.func187,Tryz.ntmps187;go_wp2_with fail
  refine(dQ H.out hs hp).mono ?_;rintro e w' ⟨rfl,n,rfl⟩;go_wp2_with fail
  refine(Ie _ _ hr.1 hr.2 _).mono ?_;rw[HD.out];rintro e w' ⟨rfl,rfl⟩;go_wp2_with fail
  refine(Cg _ _).mono ?_;rintro e w2 ⟨rfl,rfl⟩;go_wp2_with fail
  exact⟨rfl,rfl,bY (iq _ _) n⟩
 ·have HD:=hh9 ((Oh oL).trans hd);have HD0:=hh9 hd;clear hd;go_enter Tryz.func187,Tryz.ntmps187;go_wp2_with fail
  refine(dQ H.out hs hp).mono ?_;rintro e w' ⟨rfl,n,rfl⟩;go_wp2_with fail
  refine(Ie _ _ hr.1 hr.2 _).mono ?_;rw[HD.out];rintro e w' ⟨rfl,rfl⟩;go_wp2_with fail
  go_loopw [7] (fun v wr=>∃ q:Nat,Kv b lim R s p d w wr v q) (fun _ wr=>s.size-qH R wr)
  case atStart=>exact⟨p,H.out.drew n,bY (iq _ _) n,zbA _,hp,fun i h1 h2=>absurd h1 (by omega),by rw[Nat.sub_self];unfold val uL;simp;omega⟩
  case round =>
   obtain⟨q,ha,hg,hpq,aR,hall,rfl⟩:=hrel;have HA:=hh9 ha;have HG:=hh9 hg;have HL:=hh9 hall;have HM:=hh9 ha.pos;have hv:=Kl hb2 (rd s) p (q-p);have hc:=zp9 hl hv;have hq:=vR s q;obtain⟨c0,c1,c2,z0,z1,z2⟩:=ha.cells;clear ha hg hall;obtain⟨V,hV⟩:∃ x,x=val b (rd s) p (q-p):=⟨_,rfl⟩
   rw[<- hV]at hv hc ⊢;obtain⟨C,hC⟩:∃ x,x=uL lim V:=⟨_,rfl⟩
   rw[<- hC]at hc ⊢;have HV:=hh9 hV;have HC:=hh9 hC;clear hV hC
   cases hd:bC b (rd s q)
   ·have HD2:=hh9 ((Oh oL).trans hd);have hrun:eG (bC b) (rd s) p q:=⟨hpq,HL.out,hd⟩
    have hlt:p<q:=by
     by_cases g:p<q
     ·exact g
     ·obtain rfl:p=q:=by omega
      rw[HD0.out]at hd
      cases hd
    have HR:=hh9 (R8 (lim:=lim) hrun hlt);clear hd hrun;rw[<- HV.out]at HR;by_cases hov:lim<V
    ·have HE:Hid (fC b lim (rd s) p=.err 2):=by rw[HR.out,if_pos hov];exact rfl
     have hCv:lim<C:=by rw[HC.out];unfold uL;omega
     go_wp2_with fail
     refine(dQ HA.out hs aR).mono ?_;rintro e w' ⟨rfl,n,rfl⟩;go_wp2_with fail
     refine(Ie _ _ hq.1 hq.2 _).mono ?_;rw[HD2.out];rintro e w' ⟨rfl,rfl⟩;go_wp2_with fail
     refine(Cg _ _).mono ?_;rintro e w2 ⟨rfl,rfl⟩;go_wp2_with fail
     rw[HE.out];exact⟨rfl,rfl,bY HG.out n⟩
    ·have HE:Hid (fC b lim (rd s) p=.ok V q):=by rw[HR.out,if_neg hov];exact rfl
     have hCv:C<=lim:=by rw[HC.out];unfold uL;omega
     have HCV:Hid (C=V):=by rw[HC.out];unfold uL;exact(by omega:min V (lim+1)=V)
     go_wp2_with fail
     refine(dQ HA.out hs aR).mono ?_;rintro e w' ⟨rfl,n,rfl⟩;go_wp2_with fail
     refine(Ie _ _ hq.1 hq.2 _).mono ?_;rw[HD2.out];rintro e w' ⟨rfl,rfl⟩;go_wp2_with fail
     go_ret;rw[HE.out];exact⟨aR,nk HCV.out,HA.out.drew n,bY HG.out n⟩
   ·have HD2:=hh9 ((Oh oL).trans hd);have hlt:=Yi oL hd;have hx:=R4 (nx (rd s) q);have hm0:0<=C*b:=Int.mul_nonneg hc.1 (by omega);have hm1:C*b<=40000000:=by rcases jX.out with g|g|g<;>rw[g]<;>omega
    have kW:=hh9 (Cc (P:=bC b) HL.out hd)
    have HST:Hid (min (C*b+iN (nx (rd s) q)) (lim+1)=uL lim (val b (rd s) p (q+1-p))):=by
     have e1:q+1-p=(q-p)+1:=by omega
     have e2:p+(q-p)=q:=by omega
     have hs2:=zr8 (v:=V) jX.out hl hv hx.1;rw[HC.out,hs2,e1];show uL lim (V*b+iN (nx (rd s) q))=uL lim (val b (rd s) p (q-p)*b+iN (rd s (p+(q-p))))
     rw[e2,HV.out,qeo]
    clear hd;go_wp2_with fail
    refine(dQ HA.out hs aR).mono ?_;rintro e w' ⟨rfl,n,rfl⟩;go_wp2_with fail
    refine(Ie _ _ hq.1 hq.2 _).mono ?_;rw[HD2.out];rintro e w' ⟨rfl,rfl⟩;go_wp2_with fail
    refine(dQ (HA.out.drew n) hs aR).mono ?_;rintro e w' ⟨rfl,n2,rfl⟩;go_wp2_with fail
    refine(YE _ hq.1 hq.2 _).mono ?_;rintro e w' ⟨rfl,rfl⟩;go_wp2_with fail
    go_roundw
    case rel=>exact⟨q+1,(HA.out.drew _).step,fu (bY HG.out _) _ _,by omega,by omega,kW.out,by rw[<- HST.out]<;>exact R9 (by rw[show min (C*b+iN (nx (rd s) q)) (lim+1)=if C*b+iN (nx (rd s) q)<=lim+1 then C*b+iN (nx (rd s) q) else lim+1 from rfl]<;>split<;>split<;>omega)⟩
    case measure =>
     rw[HM.out,(HA.out.drew _).step.pos];omega
end Go.Proofs.YtahibnnhjahmnaaGreatDoor
