/- Part 18 of what the laws of the grammar rest on. -/
import Derived.Test.YtahibnnhjahmnaaGreatDoorA17
set_option linter.all false
set_option maxRecDepth 100000
set_option maxHeartbeats 8000000
namespace Go.Proofs.YtahibnnhjahmnaaGreatDoor
open Go.RowKit
theorem DU{α:Type}{mk:α->Value}{R q d:Nat}{s:ByteArray}{g:Got α}{x:α}{v:Value}{w w':World}(hg:g=.ok x q)(hq:q<=s.size)(hv:v=mk x)(ha:At w' R s q d)(hgr:w.grownBy w' (some R)) :
  jf mk R s d g w (.returned v) w':=by
 subst hg hv;exact⟨hq,rfl,ha,hgr⟩
theorem Ij{α:Type}{mk:α->Value}{R d:Nat}{s:ByteArray}{g:Got α}{c:Int}{w w':World}(hg:g=.err c)(hgr:w.grownBy w' (some R)) :
  jf mk R s d g w (.panicked [{ v:=.iface 130 (.agg #[.int .i64 c]),recovered:=false }]) w':=by
 subst hg;exact⟨rfl,hgr⟩
theorem YM{R p d:Nat}{s:ByteArray}{w:World}(h:At w R s p d)(hs:s.size<=50000)(hp:p<=s.size) :
  Calls Tryz.prog 184 #[.pointer (some ⟨R,0,none⟩)] w (jf cval R s d (aN (rd s) p) w):=by
 have H:=hh9 h;have hr:=vR s p;clear h
 cases hd:aS (rd s p)
 ·have HD:=hh9 (H8.trans hd);have HF:Hid ((if aS (rd s p) then fC 10 200 (rd s) p else .ok (-1) p)=.ok (-1) p):=by rw[hd];exact rfl
  clear hd;go_enter Tryz.func184,Tryz.ntmps184;go_wp2_with fail
  refine(dQ H.out hs hp).mono ?_;rintro e w1 ⟨rfl,n,rfl⟩;go_wp2_with fail
  refine(uO _ hr.1 hr.2 _).mono ?_;rw[HD.out];rintro e w1 ⟨rfl,rfl⟩;have HA:=hh9 (H.out.drew n);have HG:Hid (w.grownBy (w.drewN n) (some R)):=bY (iq _ _) n;obtain⟨q,hq⟩:∃ q,q=p:=⟨_,rfl⟩
  have HF:Hid ((if aS (rd s p) then fC 10 200 (rd s) p else .ok (-1) p)=.ok (-1) q):=by rw[hq];exact HF
  rw[<- hq]at HA;have aR:q<=s.size:=by omega
  clear hr hq;by_cases lW:rd s q=42
  ·have rR:=hh9 lW;have hlt:=fP (by omega) lW;clear lW;go_wp2_with fail
   refine(uP HA.out hs 42 (by omega) rR.out).mono ?_;rintro e w2 ⟨rfl,ha,hg⟩;have HA2:=hh9 ha;have HG2:=hh9 (HG.out.trans hg);have hr2:=vR s (q+1);clear ha hg HA HG
   cases hd2:aS (rd s (q+1))
   ·have HD2:=hh9 (H8.trans hd2);have HE:Hid (aN (rd s) p=.ok (max (-1) 0,-1,true) (q+1)):=Km HF.out rR.out (by rw[hd2];rfl);clear hd2;go_wp2_with fail
    refine(dQ HA2.out hs (by omega)).mono ?_;rintro e w3 ⟨rfl,n3,rfl⟩;go_wp2_with fail
    refine(uO _ hr2.1 hr2.2 _).mono ?_;rw[HD2.out];rintro e w3 ⟨rfl,rfl⟩;go_wp2_with fail
    go_ret3
    exact DU HE.out (by omega) (by rfl) (HA2.out.drew _) (bY HG2.out _)
   ·have HD2:=hh9 (H8.trans hd2)
    cases hn2:fC 10 200 (rd s) (q+1) with
    |err c =>
     have HE:Hid (aN (rd s) p=.err c):=Sb HF.out rR.out (by rw[hd2];exact hn2);have gY:=hh9 hn2;clear hd2 hn2;go_wp2_with fail
     refine(dQ HA2.out hs (by omega)).mono ?_;rintro e w3 ⟨rfl,n3,rfl⟩;go_wp2_with fail
     refine(uO _ hr2.1 hr2.2 _).mono ?_;rw[HD2.out];rintro e w3 ⟨rfl,rfl⟩;go_wp2_with fail
     refine(wW 10 200 (.inr (.inl rfl)) (by omega) (by omega) (HA2.out.drew n3) hs (by omega)).mono ?_;rw[gY.out];rintro e w4 ⟨rfl,hg⟩;have bD:=hh9 ((bY HG2.out n3).trans hg);clear hg;go_wp2_with fail
     exact⟨rfl,Ij HE.out bD.out⟩
    |ok hi q2 =>
     have HE:Hid (aN (rd s) p=.ok (max (-1) 0,hi,true) q2):=Km HF.out rR.out (by rw[hd2];exact hn2);have gY:=hh9 hn2;clear hd2 hn2;go_wp2_with fail
     refine(dQ HA2.out hs (by omega)).mono ?_;rintro e w3 ⟨rfl,n3,rfl⟩;go_wp2_with fail
     refine(uO _ hr2.1 hr2.2 _).mono ?_;rw[HD2.out];rintro e w3 ⟨rfl,rfl⟩;go_wp2_with fail
     refine(wW 10 200 (.inr (.inl rfl)) (by omega) (by omega) (HA2.out.drew n3) hs (by omega)).mono ?_;rw[gY.out];rintro e w4 ⟨hq2,rfl,ha,hg⟩;have bf:=hh9 ha;have bD:=hh9 ((bY HG2.out n3).trans hg);clear ha hg;go_wp2_with fail
     go_ret3
     exact DU HE.out hq2 (by rfl) bf.out bD.out
  ·have rR:=hh9 lW;have HE:Hid (aN (rd s) p=.ok (max (-1) 0,max (-1) 0,decide (0<=(-1:Int))) q):=Oj HF.out lW;clear lW;go_wp2_with fail
   refine(tT HA.out hs aR 42 (by omega) rR.out).mono ?_;rintro e w2 ⟨rfl,ha,hg⟩;have HA2:=hh9 ha;have HG2:=hh9 (HG.out.trans hg);clear ha hg HA HG;go_wp2_with fail
   go_ret3
   exact DU HE.out aR (by rfl) HA2.out HG2.out
 ·have HD:=hh9 (H8.trans hd);have HC:=hh9 (wW 10 200 (.inr (.inl rfl)) (by omega) (by omega) (H.out.drew 0) hs hp)
  cases hn:fC 10 200 (rd s) p with
  |err c =>
   have HE:Hid (aN (rd s) p=.err c):=Sc (by rw[hd];exact hn);have HN:=hh9 hn;clear hd hn HC;go_enter Tryz.func184,Tryz.ntmps184;go_wp2_with fail
   refine(dQ H.out hs hp).mono ?_;rintro e w1 ⟨rfl,n,rfl⟩;go_wp2_with fail
   refine(uO _ hr.1 hr.2 _).mono ?_;rw[HD.out];rintro e w1 ⟨rfl,rfl⟩;go_wp2_with fail
   refine(wW 10 200 (.inr (.inl rfl)) (by omega) (by omega) (H.out.drew n) hs hp).mono ?_;rw[HN.out];rintro e w1 ⟨rfl,hg⟩;have HG:=hh9 hg;clear hg;go_wp2_with fail
   exact⟨rfl,Ij HE.out ((bY (iq _ _) n).trans HG.out)⟩
  |ok lo q =>
   have HF:Hid ((if aS (rd s p) then fC 10 200 (rd s) p else .ok (-1) p)=.ok lo q):=by rw[hd];exact hn
   have HN:=hh9 hn;have hlo:=Oi (by omega) hn;clear hd hn HC;go_enter Tryz.func184,Tryz.ntmps184;go_wp2_with fail
   refine(dQ H.out hs hp).mono ?_;rintro e w1 ⟨rfl,n,rfl⟩;go_wp2_with fail
   refine(uO _ hr.1 hr.2 _).mono ?_;rw[HD.out];rintro e w1 ⟨rfl,rfl⟩;go_wp2_with fail
   refine(wW 10 200 (.inr (.inl rfl)) (by omega) (by omega) (H.out.drew n) hs hp).mono ?_;rw[HN.out];rintro e w1 ⟨aR,rfl,ha,hg⟩;have HA:=hh9 ha;have HG:=hh9 ((bY (iq _ _) n).trans hg);clear ha hg hr;by_cases lW:rd s q=42
   ·have rR:=hh9 lW;have hlt:=fP (by omega) lW;clear lW;go_wp2_with fail
    refine(uP HA.out hs 42 (by omega) rR.out).mono ?_;rintro e w2 ⟨rfl,ha,hg⟩;have HA2:=hh9 ha;have HG2:=hh9 (HG.out.trans hg);have hr2:=vR s (q+1);clear ha hg HA HG
    cases hd2:aS (rd s (q+1))
    ·have HD2:=hh9 (H8.trans hd2);have HE:Hid (aN (rd s) p=.ok (max (lo) 0,-1,true) (q+1)):=Km HF.out rR.out (by rw[hd2];rfl);clear hd2;go_wp2_with fail
     refine(dQ HA2.out hs (by omega)).mono ?_;rintro e w3 ⟨rfl,n3,rfl⟩;go_wp2_with fail
     refine(uO _ hr2.1 hr2.2 _).mono ?_;rw[HD2.out];rintro e w3 ⟨rfl,rfl⟩;go_wp2_with fail
     go_ret3
     exact DU HE.out (by omega) (by unfold cval;simp only[Int.max_eq_left hlo,zbN hlo];rfl) (HA2.out.drew _) (bY HG2.out _)
    ·have HD2:=hh9 (H8.trans hd2)
     cases hn2:fC 10 200 (rd s) (q+1) with
     |err c =>
      have HE:Hid (aN (rd s) p=.err c):=Sb HF.out rR.out (by rw[hd2];exact hn2);have gY:=hh9 hn2;clear hd2 hn2;go_wp2_with fail
      refine(dQ HA2.out hs (by omega)).mono ?_;rintro e w3 ⟨rfl,n3,rfl⟩;go_wp2_with fail
      refine(uO _ hr2.1 hr2.2 _).mono ?_;rw[HD2.out];rintro e w3 ⟨rfl,rfl⟩;go_wp2_with fail
      refine(wW 10 200 (.inr (.inl rfl)) (by omega) (by omega) (HA2.out.drew n3) hs (by omega)).mono ?_;rw[gY.out];rintro e w4 ⟨rfl,hg⟩;have bD:=hh9 ((bY HG2.out n3).trans hg);clear hg;go_wp2_with fail
      exact⟨rfl,Ij HE.out bD.out⟩
     |ok hi q2 =>
      have HE:Hid (aN (rd s) p=.ok (max (lo) 0,hi,true) q2):=Km HF.out rR.out (by rw[hd2];exact hn2);have gY:=hh9 hn2;clear hd2 hn2;go_wp2_with fail
      refine(dQ HA2.out hs (by omega)).mono ?_;rintro e w3 ⟨rfl,n3,rfl⟩;go_wp2_with fail
      refine(uO _ hr2.1 hr2.2 _).mono ?_;rw[HD2.out];rintro e w3 ⟨rfl,rfl⟩;go_wp2_with fail
      refine(wW 10 200 (.inr (.inl rfl)) (by omega) (by omega) (HA2.out.drew n3) hs (by omega)).mono ?_;rw[gY.out];rintro e w4 ⟨hq2,rfl,ha,hg⟩;have bf:=hh9 ha;have bD:=hh9 ((bY HG2.out n3).trans hg);clear ha hg;go_wp2_with fail
      go_ret3
      exact DU HE.out hq2 (by unfold cval;simp only[Int.max_eq_left hlo,zbN hlo];rfl) bf.out bD.out
   ·have rR:=hh9 lW;have HE:Hid (aN (rd s) p=.ok (max (lo) 0,max (lo) 0,decide (0<=(lo:Int))) q):=Oj HF.out lW;clear lW;go_wp2_with fail
    refine(tT HA.out hs aR 42 (by omega) rR.out).mono ?_;rintro e w2 ⟨rfl,ha,hg⟩;have HA2:=hh9 ha;have HG2:=hh9 (HG.out.trans hg);clear ha hg HA HG;go_wp2_with fail
    go_ret3
    exact DU HE.out aR (by unfold cval;simp only[Int.max_eq_left hlo,zbN hlo];rfl) HA2.out HG2.out
end Go.Proofs.YtahibnnhjahmnaaGreatDoor
namespace Go.Proofs
open Go.Shelf
def Tryz.nO:Go.Shelf.Ren:=⟨fun|159=>161|165=>87|166=>88|167=>131|169=>89|230=>132|204=>175|240=>105|241=>106|197=>150|118=>151|168=>152|270=>153|262=>154|276=>127|277=>128|260=>165|242=>166|313=>167|278=>178|274=>179|275=>180|n=>n,fun|9=>9|4=>4|3=>3|5=>5|72=>120|0=>0|76=>124|75=>123|107=>154|70=>118|20=>20|37=>22|127=>137|21=>21|105=>159|164=>148|162=>175|203=>173|119=>182|46=>180|139=>185|138=>184|51=>178|160=>186|208=>196|206=>194|80=>92|n=>n,fun|13=>1|3=>3|4=>4|n=>n⟩
theorem Tryz.Ch:Go.Proofs.Lays.n159 Tryz.prog Tryz.nO:={
 mixed:=by kernel_rfl
 f118:=Tryz.func151.trans (congrArg some (by kernel_rfl))
 f159:=Tryz.func161.trans (congrArg some (by kernel_rfl))
 f165:=Tryz.func87.trans (congrArg some (by kernel_rfl))
 f166:=Tryz.func88.trans (congrArg some (by kernel_rfl))
 f167:=Tryz.func131.trans (congrArg some (by kernel_rfl))
 f168:=Tryz.func152.trans (congrArg some (by kernel_rfl))
 f169:=Tryz.func89.trans (congrArg some (by kernel_rfl))
 f197:=Tryz.func150.trans (congrArg some (by kernel_rfl))
 f204:=Tryz.func175.trans (congrArg some (by kernel_rfl))
 f230:=Tryz.func132.trans (congrArg some (by kernel_rfl))
 f240:=Tryz.func105.trans (congrArg some (by kernel_rfl))
 f241:=Tryz.func106.trans (congrArg some (by kernel_rfl))
 f242:=Tryz.func166.trans (congrArg some (by kernel_rfl))
 f260:=Tryz.func165.trans (congrArg some (by kernel_rfl))
 f262:=Tryz.func154.trans (congrArg some (by kernel_rfl))
 f270:=Tryz.func153.trans (congrArg some (by kernel_rfl))
 f274:=Tryz.func179.trans (congrArg some (by kernel_rfl))
 f275:=Tryz.func180.trans (congrArg some (by kernel_rfl))
 f276:=Tryz.func127.trans (congrArg some (by kernel_rfl))
 f277:=Tryz.func128.trans (congrArg some (by kernel_rfl))
 f278:=Tryz.func178.trans (congrArg some (by kernel_rfl))
 f313:=Tryz.func167.trans (congrArg some (by kernel_rfl))
 t0:=Tryz.underlying0
 a0:=Tryz.isAgg0
 z0:=Tryz.sizeOf0
 v0:=Tryz.zeroValue0
 t3:=Tryz.underlying3
 a3:=Tryz.isAgg3
 z3:=Tryz.sizeOf3
 v3:=Tryz.zeroValue3
 t4:=Tryz.underlying4
 a4:=Tryz.isAgg4
 z4:=Tryz.sizeOf4
 v4:=Tryz.zeroValue4
 t5:=Tryz.underlying5
 a5:=Tryz.isAgg5
 z5:=Tryz.sizeOf5
 v5:=Tryz.zeroValue5
 t9:=Tryz.underlying9
 a9:=Tryz.isAgg9
 z9:=Tryz.sizeOf9
 v9:=Tryz.zeroValue9
 t20:=Tryz.underlying20
 a20:=Tryz.isAgg20
 z20:=Tryz.sizeOf20
 v20:=Tryz.zeroValue20
 t21:=Tryz.underlying21
 a21:=Tryz.isAgg21
 z21:=Tryz.sizeOf21
 v21:=Tryz.zeroValue21
 t37:=Tryz.underlying22
 a37:=Tryz.isAgg22
 z37:=Tryz.sizeOf22
 v37:=Tryz.zeroValue22
 t46:=Tryz.underlying180
 a46:=Tryz.isAgg180
 z46:=Tryz.sizeOf180
 v46:=Tryz.zeroValue180
 t51:=Tryz.underlying178
 a51:=Tryz.isAgg178
 z51:=Tryz.sizeOf178
 v51:=Tryz.zeroValue178
 t70:=Tryz.underlying118
 a70:=Tryz.isAgg118
 z70:=Tryz.sizeOf118
 v70:=Tryz.zeroValue118
 t72:=Tryz.underlying120
 a72:=Tryz.isAgg120
 z72:=Tryz.sizeOf120
 v72:=Tryz.zeroValue120
 t75:=Tryz.underlying123
 a75:=Tryz.isAgg123
 z75:=Tryz.sizeOf123
 v75:=Tryz.zeroValue123
 t76:=Tryz.underlying124
 a76:=Tryz.isAgg124
 z76:=Tryz.sizeOf124
 v76:=Tryz.zeroValue124
 t105:=Tryz.underlying159
 a105:=Tryz.isAgg159
 z105:=Tryz.sizeOf159
 v105:=Tryz.zeroValue159
 t107:=Tryz.underlying154
 a107:=Tryz.isAgg154
 z107:=Tryz.sizeOf154
 v107:=Tryz.zeroValue154
 t119:=Tryz.underlying182
 a119:=Tryz.isAgg182
 z119:=Tryz.sizeOf182
 t127:=Tryz.underlying137
 a127:=Tryz.isAgg137
 z127:=Tryz.sizeOf137
 v127:=Tryz.zeroValue137
 t138:=Tryz.underlying184
 a138:=Tryz.isAgg184
 z138:=Tryz.sizeOf184
 v138:=Tryz.zeroValue184
 t139:=Tryz.underlying185
 a139:=Tryz.isAgg185
 z139:=Tryz.sizeOf185
 v139:=Tryz.zeroValue185
 t160:=Tryz.underlying186
 a160:=Tryz.isAgg186
 z160:=Tryz.sizeOf186
 v160:=Tryz.zeroValue186
 t162:=Tryz.underlying175
 a162:=Tryz.isAgg175
 z162:=Tryz.sizeOf175
 v162:=Tryz.zeroValue175
 t164:=Tryz.underlying148
 a164:=Tryz.isAgg148
 z164:=Tryz.sizeOf148
 v164:=Tryz.zeroValue148
 t203:=Tryz.underlying173
 a203:=Tryz.isAgg173
 z203:=Tryz.sizeOf173
 v203:=Tryz.zeroValue173
 t206:=Tryz.underlying194
 a206:=Tryz.isAgg194
 z206:=Tryz.sizeOf194
 v206:=Tryz.zeroValue194
 t208:=Tryz.underlying196
 a208:=Tryz.isAgg196
 z208:=Tryz.sizeOf196
 v208:=Tryz.zeroValue196
 g3:=by kernel_rfl
 g4:=by kernel_rfl
 g13:=by kernel_rfl }
theorem Tryz.mJ:Builder.Extra Tryz.prog Tryz.nO:={
 sizeBuilder:=by kernel_rfl
 liesBuilder:=by kernel_rfl
 t5:=Tryz.underlying5
 a5:=Tryz.isAgg5
 z5:=Tryz.sizeOf5
 v5:=Tryz.zeroValue5
 infoByte:=by kernel_rfl
 cellsByte:=by kernel_rfl
 sizeByte:=by kernel_rfl
 neB5:=by decide }
open Go.RowKit in
theorem Tryz.strings_ToLower_ascii(s:ByteArray)(w:World)(hs:s.size<=140737488355328)(hascii:∀ (j:Nat) (b:UInt8),s.data.toList[j]?=some b->b.toNat<128) :
  Calls Tryz.prog 161 #[.string s] w fun e w'=>e=.returned (.string ⟨(Lib.toLowerA s.data.toList).toArray⟩)/\Below w.heap.size w w':=Any.strings_ToLower_ascii Tryz.Ch Tryz.mJ s w hs hascii
end Go.Proofs
namespace Go.Proofs.YtahibnnhjahmnaaGreatDoor
open Go.RowKit
theorem qdc{c:Int}(h0:0<=c)(h1:c<=255):Lib.lowerB (ig c)=ig (low c):=by
 have key:∀ i:Fin 256,Lib.lowerB (ig ((i.val:Nat):Int))=ig (low ((i.val:Nat):Int)):=by decide
 have:=key ⟨c.toNat,by omega⟩;simpa[show ((c.toNat:Nat):Int)=c by omega]using this
theorem zxh{x:List Int}(h:∀ c∈x,0<=c/\c<=255):(⟨(Lib.toLowerA (ak x).data.toList).toArray⟩:ByteArray)=ak (x.map low):=by
 rw[Ag];unfold Lib.toLowerA ak;rw[List.map_map,List.map_map]
 congr 2
 apply List.map_congr_left;intro c hc;exact qdc (h c hc).1 (h c hc).2
theorem YN{x:List Int}{w:World}(hx:∀ c∈x,0<=c/\c<128)(hl:x.length<=100000) :
  Calls Tryz.prog 161 #[.string (ak x)] w fun e w'=>e=.returned (.string (ak (x.map low)))/\Below w.heap.size w w':=by
 have h:=Tryz.strings_ToLower_ascii (ak x) w (by rw[eP];omega) (by
  intro j b hb;rw[Ag,List.getElem?_map]at hb
  cases hc:x[j]? with
  |none=>rw[hc]at hb;cases hb
  |some c =>
   rw[hc]at hb
   cases hb
   have hm:=hx c (zbI hc);unfold ig;have:(UInt8.ofNat c.toNat).toNat=c.toNat%256:=by simp
   omega)
 rwa[zxh (fun c hc=>⟨(hx c hc).1,by have:=(hx c hc).2;omega⟩)]at h
theorem Ow{R p d:Nat}{s:ByteArray}{w:World}(h:At w R s p d)(hs:s.size<=50000)(hp:p<=s.size) :
  Calls Tryz.prog 138 #[.pointer (some ⟨R,0,none⟩)] w (jf (fun x=>.string (ak x)) R s d (lU (rd s) p) w):=by
 obtain⟨q,hq⟩:∃ q,jC dM (rd s) p=q:=⟨_,rfl⟩
 obtain⟨mK,yV⟩:=yT (P:=dM) (by decide) hp;rw[hq]at mK yV;have H:=hh9 h;have HQ:=hh9 hq;have nX:=hh9 mK;have hpq:=mK.le;have hlen:=Kn (rd s) p (q-p);have hsz:(ak (cut (rd s) p (q-p))).size=q-p:=by rw[eP,hlen]
 have HX:=hh9 (Sd (p:=p) yV);obtain⟨X,hX⟩:∃ X,X=cut (rd s) p (q-p):=⟨_,rfl⟩
 rw[<- hX]at hlen hsz HX;have HB:Hid (∀ c∈X,0<=c/\c<128):=by rw[hX];exact Sg Sk mK
 have HLEN:=hh9 hlen;have HXX:=hh9 hX;obtain⟨T,hT⟩:∃ T,T=ak X:=⟨_,rfl⟩
 rw[<- hT]at hsz HX;have HT:=hh9 hT;have kE:=hh9 hsz;clear h hq mK hlen hX hT hsz;by_cases hlong:40<q-p
 ·have HE:Hid (lU (rd s) p=.err 2):=by unfold lU;rw[HQ.out,if_pos hlong];exact rfl
  have hts:40<T.size:=by rw[kE.out];exact hlong
  go_enter Tryz.func138,Tryz.ntmps138;go_wp2_with fail
  refine(YK H.out hs hp).mono ?_;rintro e w1 ⟨q1,hrun,aR,rfl,ha,hg⟩;obtain rfl:q1=q:=hrun.one nX.out;rw[HX.out];have HG:=hh9 hg;clear ha hg hrun;go_wp2_with fail
  refine(Cg _ _).mono ?_;rintro e w2 ⟨rfl,rfl⟩;go_wp2_with fail
  exact⟨rfl,Ij HE.out HG.out⟩
 ·have HE:Hid (lU (rd s) p=.ok (X.map low) q):=by unfold lU;rw[HQ.out,if_neg hlong,HXX.out];exact rfl
  have hts:T.size<=40:=by rw[kE.out];omega
  go_enter Tryz.func138,Tryz.ntmps138;go_wp2_with fail
  refine(YK H.out hs hp).mono ?_;rintro e w1 ⟨q1,hrun,aR,rfl,ha,hg⟩;obtain rfl:q1=q:=hrun.one nX.out;rw[HX.out];have HA:=hh9 ha;have HG:=hh9 hg;clear ha hg hrun;go_wp2_with fail
  rw[HT.out];refine(YN HB.out (by rw[HLEN.out];omega)).mono ?_;rintro e w2 ⟨rfl,hb⟩;have HA2:=hh9 (HA.out.below hb);have HG2:=hh9 (dw HG.out hb);clear hb;go_wp2_with fail
  go_ret;exact DU HE.out aR rfl HA2.out HG2.out
theorem AU{R p d:Nat}{s:ByteArray}{w:World}(h:At w R s p d)(hs:s.size<=50000)(hp:p<=s.size) :
  Calls Tryz.prog 190 #[.pointer (some ⟨R,0,none⟩)] w (jf (fun x=>.string (ak x)) R s d (iY (rd s) p) w):=by
 have H:=hh9 h;clear h;by_cases fI:rd s p=34
 ·have hlt:=fP (by omega) fI;obtain⟨q,hq⟩:∃ q,jC gT (rd s) (p+1)=q:=⟨_,rfl⟩
  obtain⟨mK,yV⟩:=yT (P:=gT) (by decide) (s:=s) (p:=p+1) (by omega);rw[hq]at mK yV;have HQ:=hh9 hq;have nX:=hh9 mK;have qj:=hh9 fI;have HX:=hh9 (Sd (p:=p+1) yV);clear hq mK fI;by_cases Fe:rd s q=34
  ·have SC:=hh9 Fe;have HE:Hid (iY (rd s) p=.ok (cut (rd s) (p+1) (q-(p+1))) (q+1)):=by unfold iY;rw[HQ.out,if_pos qj.out,if_pos Fe];exact rfl
   have hlt2:=fP (by omega) Fe;clear Fe;go_enter Tryz.func190,Tryz.ntmps190;go_wp2_with fail
   refine(kG H.out hs 34 (by omega) qj.out).mono ?_;rintro e w1 ⟨rfl,ha,hg⟩;have HA:=hh9 ha;have HG:=hh9 hg;clear ha hg;go_wp2_with fail
   refine(YL HA.out hs (by omega)).mono ?_;rintro e w2 ⟨q1,hrun,aR,rfl,ha,hg⟩;obtain rfl:q1=q:=hrun.one nX.out;rw[HX.out];have HA2:=hh9 ha;have HG2:=hh9 (HG.out.trans hg);clear ha hg hrun;go_wp2_with fail
   refine(kG HA2.out hs 34 (by omega) SC.out).mono ?_;rintro e w3 ⟨rfl,ha,hg⟩;have aC:=hh9 ha;have aG:=hh9 (HG2.out.trans hg);clear ha hg;go_wp2_with fail
   go_ret;exact DU HE.out (by omega) rfl aC.out aG.out
  ·have SC:=hh9 Fe;have HE:Hid (iY (rd s) p=.err 20):=by unfold iY;rw[HQ.out,if_pos qj.out,if_neg Fe];exact rfl
   clear Fe;go_enter Tryz.func190,Tryz.ntmps190;go_wp2_with fail
   refine(kG H.out hs 34 (by omega) qj.out).mono ?_;rintro e w1 ⟨rfl,ha,hg⟩;have HA:=hh9 ha;have HG:=hh9 hg;clear ha hg;go_wp2_with fail
   refine(YL HA.out hs (by omega)).mono ?_;rintro e w2 ⟨q1,hrun,aR,rfl,ha,hg⟩;obtain rfl:q1=q:=hrun.one nX.out;have HA2:=hh9 ha;have HG2:=hh9 (HG.out.trans hg);clear ha hg hrun;go_wp2_with fail
   refine(Ig HA2.out hs aR 34 (by omega) SC.out).mono ?_;rintro e w3 ⟨rfl,hg⟩;have aG:=hh9 (HG2.out.trans hg);clear hg;go_wp2_with fail
   exact⟨rfl,Ij HE.out aG.out⟩
 ·have qj:=hh9 fI;have HE:Hid (iY (rd s) p=.err 20):=by unfold iY;rw[if_neg fI];exact rfl
  clear fI;go_enter Tryz.func190,Tryz.ntmps190;go_wp2_with fail
  refine(Ig H.out hs hp 34 (by omega) qj.out).mono ?_;rintro e w3 ⟨rfl,hg⟩;have aG:=hh9 hg;clear hg;go_wp2_with fail
  exact⟨rfl,Ij HE.out aG.out⟩
def YO(R:Nat)(s:ByteArray)(d:Nat)(g:Got Tree)(w:World)(e:Ending)(w':World):Prop :=
 match g with
 |.ok t q=>∃ x:XV,av w' (fun b=>w.heap.size<=b) x t/\q<=s.size/\DT R s d x.val q w e w'
 |.err c=>Fa R c w e w'
theorem At.aj{w:World}{R:Nat}{s:ByteArray}{p d:Nat}(h:At w R s p d){g:Nat}(hg:R≠g)(cs:Array Value):At (w.setRow g cs) R s p d:=(setRow_other _ _ _ _ hg).trans h
theorem YP{x:List Int}{w:World}(hx:∀ c∈x,0<=c/\c<128)(hl:x.length<=100000) :
  Calls Tryz.prog 189 #[.string (ak x)] w (GU (w.heap.size+1) (Bh x) w):=by
 have HC:=hh9 (fun W=>YN (x:=x) (w:=W) hx hl);clear hx hl;obtain⟨s,hs⟩:∃ s,s=ak x:=⟨_,rfl⟩
 rw[<- hs]at HC ⊢;clear hs;have HR:=hh9 (fG w);have HB0:=hh9 ((zbE w.heap.size w).alloc (zbA _) (.cells #[.int .i64 0,.string ⟨#[]⟩,.slice none 0 0,.int .i64 0,.int .i64 0,.slice none 0 0] 29));go_enter Tryz.func189,Tryz.ntmps189;go_wp2_with fail
 refine(HC.out _).mono ?_;rintro e w1 ⟨rfl,hb⟩;have HR1:=hh9 (HR.out.kept (hb.block w.heap.size (by simp)));have HB:=hh9 (HB0.out.trans (hb.mono (by simp)));clear hb HR HB0;go_wp2_with (refine bA rfl _ _ rfl w.heap.size ⟨5,ak (x.map low),.slice none 0 0,0,0,.slice none 0 0⟩ rfl rfl HR1.out rfl rfl ?_)
 refine bodyPost_ret_by (zag rfl _ _ w.heap.size ⟨5,ak (x.map low),.slice none 0 0,0,0,.slice none 0 0⟩ rfl HR1.out) rfl ⟨_,?_,rfl,below_setRow HB.out (zbA _) _⟩;exact(Ah _ _ _ _ _ _).aj (fun b hb=>by omega) _
theorem zuk{base:Nat}{v:Value}{t:Tree}{w:World}(k:Int)(h:fK w base v [t])(hb0:base<=w.heap.size) :
  Calls Tryz.prog 163 #[.int .i64 k,v] w (GU base t w):=by
 obtain⟨vs,hl,hr,ht⟩:=h
 obtain⟨x,rfl⟩:∃ x,vs=[x]:=by
  match vs,hl with
  |[x],_=>exact⟨x,rfl⟩
 have hx:=(ht 0 x t rfl rfl).weak (P':=fun b=>base<=b) (fun b hP _=>hP.1);obtain⟨g,cap,rfl⟩:=(fB hr).resolve_left (fun h=>by cases h.2);have c0:=eZ hr (j:=0) rfl;have c1:=eZ hr (j:=1) rfl;have c2:=eZ hr (j:=2) rfl;have c3:=eZ hr (j:=3) rfl;have c4:=eZ hr (j:=4) rfl;have c5:=eZ hr (j:=5) rfl;obtain⟨hbg,hcap,hmax,hg⟩:=iX hr;have HT:=hh9 hx;have HR:=hh9 (fG w);have HB0:=hh9 ((zbE w.heap.size w).alloc (zbA _) (.cells #[.int .i64 0,.string ⟨#[]⟩,.slice none 0 0,.int .i64 0,.int .i64 0,.slice none 0 0] 29));obtain⟨x0,x1,x2,x3,x4,x5⟩:=x;have hs2:(Value.oneCell' x2=true):=fq HT.out;have hs5:(Value.oneCell' x5=true):=eU HT.out;have HS2:=hh9 hs2;have yX:=hh9 hs5;clear hr ht hx hl hs2 hs5;go_enter Tryz.func163,Tryz.ntmps163;go_wp2_with (refine bA rfl _ _ rfl w.heap.size ⟨x0,x1,x2,x3,x4,x5⟩ rfl rfl HR.out HS2.out yX.out ?_)
 refine bodyPost_ret_by (zag rfl _ _ w.heap.size ⟨x0,x1,x2,x3,x4,x5⟩ rfl HR.out) rfl ⟨_,?_,rfl,below_setRow HB0.out (zbA _) _⟩;have h1:=HT.out.weak (P':=fun b=>base<=b/\b≠w.heap.size) (fun b hP hl=>⟨hP,by omega⟩);have h2:=h1.under (W':=w.alloc (.cells #[.int .i64 0,.string ⟨#[]⟩,.slice none 0 0,.int .i64 0,.int .i64 0,.slice none 0 0] 29)) ((zbE _ _).alloc (zbA _) _);exact(h2.aj (fun b hP=>hP.2) _).weak (fun b hP _=>hP.1)
theorem zre{base:Nat}{v:Value}{l:List Tree}{w:World}(k:Int)(h:fK w base v l)(hb0:base<=w.heap.size)(hn:l.length≠1)(hn2:l.length<=1000000) :
  Calls Tryz.prog 163 #[.int .i64 k,v] w (GU base (.mk k [] [] 0 0 l) w):=by
 have HK:=hh9 h;obtain⟨vs,hl,hr,ht⟩:=h;obtain⟨n,hln⟩:∃ n,n=l.length:=⟨_,rfl⟩
 rw[<- hln]at hn hn2;have hq:decide ((n:Int)=1)=false:=H9 hn;have hq2:((n:Int)==1)=false:=by simp;omega
 have HR:=hh9 (fG w);have HB0:=hh9 ((zbE w.heap.size w).alloc (zbA _) (.cells #[.int .i64 0,.string ⟨#[]⟩,.slice none 0 0,.int .i64 0,.int .i64 0,.slice none 0 0] 29));have fin:∀ (ops:Nat),True:=fun _=>trivial
 have hone:v.oneCell'=true:=by rcases fB hr with ⟨rfl,_⟩|⟨g,cap,rfl⟩<;>rfl
 have yY:=hh9 hone
 have hT:av ((w.alloc (.cells #[.int .i64 0,.string ⟨#[]⟩,.slice none 0 0,.int .i64 0,.int .i64 0,.slice none 0 0] 29)).setRow w.heap.size (XV.arr ⟨k,⟨#[]⟩,.slice none 0 0,0,0,v⟩)) (fun b=>base<=b) ⟨k,⟨#[]⟩,.slice none 0 0,0,0,v⟩ (.mk k [] [] 0 0 l):=by
  have h1:=(HK.out.tree k 0 0).weak (P':=fun b=>base<=b/\b≠w.heap.size) (fun b hP hl=>⟨hP,by omega⟩);have h2:=h1.under (W':=w.alloc (.cells #[.int .i64 0,.string ⟨#[]⟩,.slice none 0 0,.int .i64 0,.int .i64 0,.slice none 0 0] 29)) ((zbE _ _).alloc (zbA _) _);exact(h2.aj (fun b hP=>hP.2) _).weak (fun b hP _=>hP.1)
 have HT:=hh9 hT;clear ht hT hone HK fin;rcases fB hr with ⟨rfl,h0⟩|⟨g,cap,rfl⟩
 ·clear hr hl hln;go_enter Tryz.func163,Tryz.ntmps163;go_wp2_with (refine bA rfl _ _ rfl w.heap.size ⟨k,⟨#[]⟩,.slice none 0 0,0,0,.slice none 0 0⟩ rfl rfl HR.out rfl rfl ?_)
  exact bodyPost_ret_by (zag rfl _ _ w.heap.size ⟨k,⟨#[]⟩,.slice none 0 0,0,0,.slice none 0 0⟩ rfl HR.out) rfl ⟨_,HT.out,rfl,below_setRow HB0.out (zbA _) _⟩
 ·rw[<- hln]at HT yY ⊢;clear hr hl hln;go_enter Tryz.func163,Tryz.ntmps163;go_wp2_with (refine bA rfl _ _ rfl w.heap.size ⟨k,⟨#[]⟩,.slice none 0 0,0,0,.slice (some ⟨g,0,none⟩) n cap⟩ rfl rfl HR.out rfl rfl ?_)
  exact bodyPost_ret_by (zag rfl _ _ w.heap.size ⟨k,⟨#[]⟩,.slice none 0 0,0,0,.slice (some ⟨g,0,none⟩) n cap⟩ rfl HR.out) rfl ⟨_,HT.out,rfl,below_setRow HB0.out (zbA _) _⟩
theorem SE{base:Nat}{v:Value}{l:List Tree}{w:World}(k:Int)(h:fK w base v l)(hb0:base<=w.heap.size)(hn2:l.length<=1000000) :
  Calls Tryz.prog 163 #[.int .i64 k,v] w (GU base (uj k l) w):=by
 by_cases hn:l.length=1
 ·match l,hn with
  |[t],_=>exact zuk k h hb0
 ·rw[Ia k hn];exact zre k h hb0 hn hn2
theorem qaq{x:List Int}{w:World}(hx:∀ c∈x,0<=c/\c<128)(hl:x.length<=100000)(hne:x≠[]) :
  Calls Tryz.prog 191 #[.string (ak x),.bool true] w (GU w.heap.size (.mk 6 [] x 0 0 []) w):=by
 obtain⟨i0,hi0,hi1⟩:=Option.map_eq_some_iff.1 Om;obtain⟨hz0,hz1,hz2⟩:i0.zero=some (.int .i64 0)/\i0.size=1/\i0.bytes=8:=by simpa using hi1
 have hsz:=eP x;have hpos:0<x.length:=List.length_pos_iff.2 hne;have hget:=Sl hx;obtain⟨s,hs⟩:∃ s,s=ak x:=⟨_,rfl⟩
 rw[<- hs]at hsz hget ⊢;obtain⟨n,hn⟩:∃ n,n=x.length:=⟨_,rfl⟩
 rw[<- hn]at hsz hpos hl
 have hlist:s.toList.isEmpty=false:=by
  rw[Lib.toList_data]
  cases h:s.data.toList with
  |nil =>
   have:s.size=0:=by
    show s.data.size=0
    rw[<- Array.length_toList,h];rfl
   omega
  |cons a l=>rfl
 have HN:=hh9 hn;have kE:=hh9 hsz;have qU:=hh9 hget;have HR:=hh9 (fG w);have HB0:=hh9 ((zbE w.heap.size w).alloc (zbA _) (.cells #[.int .i64 0,.string ⟨#[]⟩,.slice none 0 0,.int .i64 0,.int .i64 0,.slice none 0 0] 29));clear hx hne hs hn hget hi1;go_enter Tryz.func191,Tryz.ntmps191;go_wp2_with (refine wpList_make_full _ rfl _ _ 26 rfl w.heap.size 3 i0 (.int .i64 0) 1 Tryz.underlying26 hi0 hz0 hz1 .i64 .i64 (n:Int) (n:Int) n rfl rfl rfl rfl ?c1 ?c2 ?c3 ?_)
 case c1=>rw[hz2];omega
 case c2=>unfold maxLen;omega
 case c3=>simp
 intro w1 hown hgrow;have yQ:=HR.out.kept (hgrow.block w.heap.size (by simp) (by simp));have hB1:=HB0.out.grown hgrow (by simp) (fun k hk=>by cases hk)
 have H1:Hid (Yk x w.heap.size (w.heap.size+1) w w1 0):=⟨List.replicate n 0,by rw[List.length_replicate];exact HN.out,by
  rw[<- HN.out,<- zuf];have:=hown;rwa[toList_madeCells_one]at this,fun j hj=>absurd hj (by omega),hB1,yQ⟩
 clear hown hgrow yQ hB1 HR HB0;go_wp2_with fail
 go_loopw [20] (fun v wr=>∃ i:Nat,v=.int .i64 i/\i<=n/\Hid (Yk x w.heap.size (w.heap.size+1) w wr i)) (fun v _=>n-(intOf v).toNat)
 case atStart=>exact⟨0,rfl,by omega,H1⟩
 case round =>
  obtain⟨i,rfl,hi,HI⟩:=hrel;by_cases hlt:i<n
  ·obtain⟨ys,hy,hrow,hall,hbel,hres⟩:=HI.out;rw[<- HN.out]at hrow;have hfz:=ztp hrow i;have hyl:i<ys.length:=by rw[hy,<- HN.out];exact hlt
   have hcl:=eZ hrow (Nn ys i hyl);have hss:i<s.size:=by omega
   have HX:=hh9 (qU.out i hss);have cO:=hh9 hrow;have aF:=hh9 hall;have aA:=hh9 hbel;have aV:=hh9 hres;have HY:=hh9 hy;have hw:0<=ys[i]\/True:=.inr trivial;obtain⟨old,hold⟩:∃ old,old=ys[i]:=⟨_,rfl⟩
   rw[<- hold]at hcl;clear hrow hall hbel hres hy hold hw;go_wp2_with fail
   go_roundw
   case rel =>
    rw[V8];refine⟨i+1,by go_num,by omega,?_⟩;have hst:=cO.out.stored i (.int .i64 (s[i].toNat:Int));refine⟨ys.set i (s[i].toNat:Int),by rw[List.length_set];exact HY.out,?_,fun j hj=>?_,?_,?_⟩
    ·rw[<- zue,<- HN.out];exact hst.1
    ·by_cases hji:j=i
     ·subst hji;rw[List.getElem?_set_self hyl];exact HX.out.symm
     ·rw[List.getElem?_set_ne (fun e=>hji e.symm)];exact aF.out j (by omega)
    ·exact aA.out.setCell (by simp) _
    ·exact aV.out.kept (hst.2.block _ aV.out.lt (fun e=>by have:=zbB e;omega))
   case measure=>simp[intOf];omega
  ·obtain⟨ys,hy,hrow,hall,hbel,hres⟩:=HI.out
   have hyx:ys=x:=by
    apply List.ext_getElem?;intro j;by_cases hj:j<i
    ·exact hall j hj
    ·rw[List.getElem?_eq_none (by rw[hy,<- HN.out];omega),List.getElem?_eq_none (by rw[<- HN.out];omega)]
   subst hyx;rw[<- HN.out]at hrow;have cO:=hh9 hrow;have aA:=hh9 hbel;have aV:=hh9 hres;clear hrow hall hbel hres hy;go_wp2_with (refine bA rfl _ _ rfl w.heap.size ⟨6,⟨#[]⟩,.slice (some ⟨w.heap.size+1,0,none⟩) n n,0,0,.slice none 0 0⟩ rfl rfl aV.out rfl rfl ?_)
   refine bodyPost_ret_by (zag rfl _ _ w.heap.size ⟨6,⟨#[]⟩,.slice (some ⟨w.heap.size+1,0,none⟩) n n,0,0,.slice none 0 0⟩ rfl aV.out) rfl ⟨_,?_,rfl,below_setRow aA.out (zbA _) _⟩;have hrow:=cO.out;rw[HN.out]at hrow ⊢
   have hup:wr.ownsRow (w.heap.size+1) 3 1 (.slice (some ⟨w.heap.size+1,0,none⟩) ys.length ys.length) ys.length (dA ys):=by
    refine⟨hrow.1,?_⟩;rcases hrow.2 with ⟨h0,_⟩|⟨g',cap',cur,hv,hb,rest⟩
    ·cases h0
    ·simp at hv;obtain⟨rfl,rfl⟩:=hv;exact .inr ⟨_,_,cur,rfl,zbA _,rest⟩
   have h1:=Jk (P:=fun b=>w.heap.size+1<=b) 6 hup (fun b hb=>hb);exact(h1.aj (fun b hb=>by omega) _).weak (fun b hb _=>by omega)
theorem Ox{x:List Int}{w:World}(b:Bool)(hx:∀ c∈x,0<=c/\c<128)(hl:x.length<=100000) :
  Calls Tryz.prog 191 #[.string (ak x),.bool b] w (GU w.heap.size (mU x b) w):=by
 by_cases hb:b=true/\x≠[]
 ·obtain⟨rfl,hne⟩:=hb;rw[Yl hne];exact qaq hx hl hne
 ·rw[zx9 hb];have HC:=hh9 (fun W=>YP (x:=x) (w:=W) hx hl);have HR:=hh9 (fG w);have HB0:=hh9 ((zbE w.heap.size w).alloc (zbA _) (.cells #[.int .i64 0,.string ⟨#[]⟩,.slice none 0 0,.int .i64 0,.int .i64 0,.slice none 0 0] 29))
  cases b with
  |false =>
   obtain⟨s,hs⟩:∃ s,s=ak x:=⟨_,rfl⟩
   rw[<- hs]at HC ⊢;clear hs hx hl hb;go_enter Tryz.func191,Tryz.ntmps191;go_wp2_with fail
   refine(HC.out _).mono ?_;rintro e w1 ⟨y,hy,rfl,hb⟩;have HY:=hh9 hy;have HR1:=hh9 (HR.out.kept (hb.block w.heap.size (by simp)));have HB:=hh9 (HB0.out.trans (hb.mono (by simp)));obtain⟨h2,h5⟩:y.ns.oneCell'=true/\y.ks.oneCell'=true:=⟨fq hy,eU hy⟩
   have H2:=hh9 h2;have H5:=hh9 h5;clear hb HR HB0 hy h2 h5;go_wp2_with (refine bA rfl _ _ rfl w.heap.size y rfl rfl HR1.out H2.out H5.out ?_)
   refine bodyPost_ret_by (zag rfl _ _ w.heap.size y rfl HR1.out) rfl ⟨y,?_,rfl,below_setRow HB.out (zbA _) _⟩;exact(HY.out.aj (fun b hb=>by simp at hb;omega) _).weak (fun b hb _=>by simp at hb;omega)
  |true =>
   have hx0:x=[]:=by
    by_cases g:x=[]
    ·exact g
    ·exact absurd ⟨rfl,g⟩ hb
   subst hx0;rw[GQ]at HC ⊢;clear hx hl hb;go_enter Tryz.func191,Tryz.ntmps191;go_wp2_with fail
   refine(HC.out _).mono ?_;rintro e w1 ⟨y,hy,rfl,hb⟩;have HY:=hh9 hy;have HR1:=hh9 (HR.out.kept (hb.block w.heap.size (by simp)));have HB:=hh9 (HB0.out.trans (hb.mono (by simp)));obtain⟨h2,h5⟩:y.ns.oneCell'=true/\y.ks.oneCell'=true:=⟨fq hy,eU hy⟩
   have H2:=hh9 h2;have H5:=hh9 h5;clear hb HR HB0 hy h2 h5;go_wp2_with (refine bA rfl _ _ rfl w.heap.size y rfl rfl HR1.out H2.out H5.out ?_)
   refine bodyPost_ret_by (zag rfl _ _ w.heap.size y rfl HR1.out) rfl ⟨y,?_,rfl,below_setRow HB.out (zbA _) _⟩;exact(HY.out.aj (fun b hb=>by simp at hb;omega) _).weak (fun b hb _=>by simp at hb;omega)
def uQ(R:Nat)(s:ByteArray)(d:Nat)(k:Ask)(p:Nat)(w:World)(e:Ending)(w':World):Prop:=∃ r:Got Tree,aK (rd s) k d p r/\YO R s d r w e w'
def YQ(b:Int)(R:Nat)(s:ByteArray)(p d:Nat)(w wr:World)(v:Value)(q:Nat):Prop :=
 ∃ l:List Int,wr.ownsRow (w.heap.size+1) 3 1 v l.length (dA l)/\0<l.length/\l.length<=q/\q<=s.size/\At wr R s q d/\w.grownBy wr (some R)/\bg wr w.heap.size/\∀ r,aK (rd s) (.dots b l) d q r->aK (rd s) (.nums b) d p r
theorem Ik{R p d:Nat}{s:ByteArray}{w:World}(b:Int)(hb:b=2\/b=10\/b=16)(h:At w R s p d)(hs:s.size<=50000)(hp:p<=s.size) :
  Calls Tryz.prog 192 #[.pointer (some ⟨R,0,none⟩),.int .i64 b] w (uQ R s d (.nums b) p w):=by
 obtain⟨i0,hi0,hi1⟩:=Option.map_eq_some_iff.1 Om;obtain⟨hz0,hz1,hz2⟩:i0.zero=some (.int .i64 0)/\i0.size=1/\i0.bytes=8:=by simpa using hi1
 clear hi1;have hR:=h.lt;have hA0:=h.alloc (.cells #[.int .i64 0,.string ⟨#[]⟩,.slice none 0 0,.int .i64 0,.int .i64 0,.slice none 0 0] 29);have hG0:=World.grownBy_alloc w (.cells #[.int .i64 0,.string ⟨#[]⟩,.slice none 0 0,.int .i64 0,.int .i64 0,.slice none 0 0] 29) (some R);have HR:=hh9 (fG w);have HA:=hh9 hA0;have HG:=hh9 hG0;have hdg:bC b (-1)=false:=by rcases hb with rfl|rfl|rfl<;>decide
 have SF:=hh9 hdg;have jX:=hh9 hb;clear h hA0 hG0 hb hdg
 cases hn:fC b 1114111 (rd s) p with
 |err c =>
  have HE:=hh9 hn;clear hn;go_enter Tryz.func192,Tryz.ntmps192;go_wp2_with fail
  refine(wW b 1114111 jX.out (by omega) (by omega) HA.out hs hp).mono ?_;rw[HE.out];rintro e w1 ⟨rfl,hg⟩;have aT:=hh9 (HG.out.trans hg);clear hg;go_wp2_with fail
  exact⟨rfl,_,.gF HE.out,rfl,aT.out⟩
 |ok v q =>
  have HE:=hh9 hn;obtain⟨hpq,aR⟩:=Oo SF.out hp hn;clear hn;go_enter Tryz.func192,Tryz.ntmps192;go_wp2_with fail
  refine(wW b 1114111 jX.out (by omega) (by omega) HA.out hs hp).mono ?_;rw[HE.out];rintro e w1 ⟨_,rfl,ha,hg⟩;have hz1':w.heap.size+1<=w1.heap.size:=by have:=hg.size;simp at this;omega
  have HR1:=hh9 (lV (bG HR.out hg (by omega)) (.cells #[.int .i64 v] 3));have HA1:=hh9 (ha.alloc (.cells #[.int .i64 v] 3));have aT:=hh9 (dn (HG.out.trans hg) (.cells #[.int .i64 v] 3));have cO:=hh9 (Ym w1 (w.heap.size+1) hz1' v);clear ha hg HR HA HG;by_cases h45:rd s q=45
  ·have AV:=hh9 h45;have hlt:=fP (by omega) h45;clear h45;go_wp2_with fail
   refine(uP HA1.out hs 45 (by omega) AV.out).mono ?_;rintro e w2 ⟨rfl,ha,hg⟩;have HR2:=hh9 (bG HR1.out hg (by omega));have HA2:=hh9 ha;have HG2:=hh9 (aT.out.trans hg);have jZ:=hh9 (E5 cO.out hg (by omega));clear ha hg HR1 HA1 aT cO
   cases hn2:fC b 1114111 (rd s) (q+1) with
   |err c =>
    have HE2:=hh9 hn2;clear hn2;go_wp2_with fail
    refine(wW b 1114111 jX.out (by omega) (by omega) HA2.out hs (by omega)).mono ?_;rw[HE2.out];rintro e w3 ⟨rfl,hg⟩;have aG:=hh9 (HG2.out.trans hg);clear hg;go_wp2_with fail
    exact⟨rfl,_,.gX HE.out AV.out HE2.out,rfl,aG.out⟩
   |ok u q2 =>
    have HE2:=hh9 hn2;obtain⟨SG,Fg⟩:=Oo SF.out (by omega) hn2;clear hn2;go_wp2_with fail
    refine(wW b 1114111 jX.out (by omega) (by omega) HA2.out hs (by omega)).mono ?_;rw[HE2.out];rintro e w3 ⟨_,rfl,ha,hg⟩;have HR3:=hh9 (bG HR2.out hg (by omega));have aC:=hh9 ha;have aG:=hh9 (HG2.out.trans hg);have sM:=hh9 (E5 jZ.out hg (by omega));have hb3:w.heap.size+1<=w3.heap.size:=by have:=aG.out.size;have:=HR3.out.lt;omega
    clear ha hg HR2 HA2 HG2 jZ;go_wp2_with (at_builtin;go_loud (refine wpList_append_own_at _ rfl _ _ 26 rfl (w.heap.size+1) 3 i0 (.int .i64 0) 1 8 Tryz.underlying26 hi0 hz0 hz1 hz2 rfl (by decide) _ _ _ rfl (sM.out.alloc _) ⟨w3.heap.size,0,none⟩ 1 1 [.int .i64 u] rfl rfl (cell_one_new _ _ _) ?c2 ?c3 ?c4 ?c5 ?_))
    case c2=>intro x hx;simp at hx;subst hx;rfl
    case c3=>unfold maxLen;omega
    case c4=>omega
    case c5=>simp;omega
    intro v' w4 hown oM _ hat;have hgrow:(w3.alloc (.cells #[.int .i64 u] 3)).grownBy w4 (some w1.heap.size):=oM;clear oM;have hg1:w.heap.size+1<=w1.heap.size:=hz1';have HR4:=hh9 (bG (lV HR3.out _) hgrow (by omega));have bf:=hh9 ((aC.out.alloc _).kept hgrow (fun e=>by have:=zbB e;omega));have bD:=hh9 (Nr (dn aG.out _) hgrow (by omega));have yZ:=hh9 (Sm (W:=w3) (l:=[v]) hown);obtain⟨g4,cap4,rfl⟩:=(fB hown).resolve_left (fun h=>by cases h.2);have c0:=eZ hown (j:=0) rfl;have c1:=eZ hown (j:=1) rfl;obtain⟨k1,k2,k3,k4⟩:=iX hown;clear hown hgrow hat HR3 aC aG sM;by_cases huv:u<v
    ·have hq1:decide (u<v)=true:=zbN huv;have SH:=hh9 huv;clear huv;go_wp2_with fail
     go_quiet (fail)
     go_wp2_with fail
     refine(Cg _ _).mono ?_;rintro e w5 ⟨rfl,rfl⟩;go_wp2_with fail
     exact⟨rfl,_,.fF HE.out AV.out HE2.out (by have:=SH.out;omega),rfl,bY bD.out _⟩
    ·have hq1:decide (u<v)=false:=zbM huv;have SH:=hh9 huv;clear huv;go_wp2_with fail
     go_quiet (fail)
     go_wp2_with (refine bA rfl _ _ rfl w.heap.size ⟨7,⟨#[]⟩,.slice (some ⟨g4,0,none⟩) 2 cap4,0,0,.slice none 0 0⟩ rfl rfl HR4.out rfl rfl ?_)
     refine bodyPost_ret_by (zag rfl _ _ w.heap.size ⟨7,⟨#[]⟩,.slice (some ⟨g4,0,none⟩) 2 cap4,0,0,.slice none 0 0⟩ rfl HR4.out) rfl ⟨_,.span HE.out AV.out HE2.out (by have:=SH.out;omega),_,?_,Fg,rfl,(bf.out.drew _).aj (by omega) _,dY (bY bD.out _) (zbA _) _⟩;have h1:=Jk (W:=w4.drewN nq) (P:=fun b=>w.heap.size+1<=b) 7 (V9 yZ.out nq) (fun b hb=>hb);exact(h1.aj (fun b hb=>by omega) _).weak (fun b hb _=>by omega)
  ·have AV:=hh9 h45;clear h45;go_wp2_with fail
   refine(tT HA1.out hs aR 45 (by omega) AV.out).mono ?_;rintro e w2 ⟨rfl,ha,hg⟩
   have H0:Hid (YQ b R s p d w w2 (.slice (some ⟨w1.heap.size,0,none⟩) 1 1) q) :=
    ⟨[v],E5 cO.out hg (by omega),by simp,by simp;omega,aR,ha,aT.out.trans hg,bG HR1.out hg (by omega),fun r hr=>.nums HE.out AV.out hr⟩
   clear ha hg HR1 HA1 aT cO;go_wp2_with fail
   go_loopw [5] (fun v wr=>∃ q:Nat,Hid (YQ b R s p d w wr v q)) (fun _ wr=>s.size-qH R wr)
   case atStart=>exact⟨q,H0⟩
   case round =>
    obtain⟨q,HI⟩:=hrel;obtain⟨l,hrow,hl0,hlq,aR,ha,hg,hres,hall⟩:=HI.out;have HA:=hh9 ha;have HG:=hh9 hg;have HR:=hh9 hres;have cO:=hh9 hrow;have aF:=hh9 hall;have HM:=hh9 ha.pos;obtain⟨g,cap,rfl⟩:=(fB hrow).resolve_left (fun h=>by omega);have hgb:=(iX hrow).1;have Il:Hid (l.length=l.length):=rfl;clear hrow ha hg hres hall;by_cases h46:rd s q=46
    ·have Ci:=hh9 h46;have hlt:=fP (by omega) h46;clear h46;go_wp2_with fail
     refine(uP HA.out hs 46 (by omega) Ci.out).mono ?_;rintro e w2 ⟨rfl,ha,hg⟩;have HR2:=hh9 (bG HR.out hg (by omega));have HA2:=hh9 ha;have HG2:=hh9 (HG.out.trans hg);have jZ:=hh9 (E5 cO.out hg (by omega));clear ha hg HR HA HG cO
     cases hn2:fC b 1114111 (rd s) (q+1) with
     |err c =>
      have HE2:=hh9 hn2;clear hn2;go_wp2_with fail
      refine(wW b 1114111 jX.out (by omega) (by omega) HA2.out hs (by omega)).mono ?_;rw[HE2.out];rintro e w3 ⟨rfl,hg⟩;have aG:=hh9 (HG2.out.trans hg);clear hg;go_wp2_with fail
      exact⟨rfl,_,aF.out _ (.jm Ci.out HE2.out),rfl,aG.out⟩
     |ok u q2 =>
      have HE2:=hh9 hn2;obtain⟨SG,Fg⟩:=Oo SF.out (by omega) hn2;clear hn2;go_wp2_with fail
      refine(wW b 1114111 jX.out (by omega) (by omega) HA2.out hs (by omega)).mono ?_;rw[HE2.out];rintro e w3 ⟨_,rfl,ha,hg⟩;have HR3:=hh9 (bG HR2.out hg (by omega));have aC:=hh9 ha;have aG:=hh9 (HG2.out.trans hg);have sM:=hh9 (E5 jZ.out hg (by omega));have hb3:w.heap.size+1<=w3.heap.size:=by have:=aG.out.size;have:=HR3.out.lt;omega
      clear ha hg HR2 HA2 HG2 jZ;go_wp2_with (at_builtin;go_loud (refine wpList_append_own_at _ rfl _ _ 26 rfl (w.heap.size+1) 3 i0 (.int .i64 0) 1 8 Tryz.underlying26 hi0 hz0 hz1 hz2 rfl (by decide) _ _ _ rfl (sM.out.alloc _) ⟨w3.heap.size,0,none⟩ 1 1 [.int .i64 u] rfl rfl (cell_one_new _ _ _) ?c2 ?c3 ?c4 ?c5 ?_))
      case c2=>intro x hx;simp at hx;subst hx;rfl
      case c3=>unfold maxLen;omega
      case c4=>omega
      case c5=>simp;omega
      intro v' w4 hown oM _ hat;have hgrow:(w3.alloc (.cells #[.int .i64 u] 3)).grownBy w4 (some g):=oM;clear oM;have HR4:=hh9 (bG (lV HR3.out _) hgrow (by omega));have bf:=hh9 ((aC.out.alloc _).kept hgrow (fun e=>by have:=zbB e;omega));have bD:=hh9 (Nr (dn aG.out _) hgrow (by omega));have yZ:=hh9 (Sm (W:=w3) hown);clear hown hgrow hat HR3 aC aG sM;go_wp2_with fail
      go_roundw
      case rel=>exact⟨q2,l++[u],yZ.out,by simp,by simp;omega,Fg,bf.out,bD.out,HR4.out,fun r hr=>aF.out r (.jV Ci.out HE2.out hr)⟩
      case measure =>
       rw[HM.out,bf.out.pos];omega
    ·have Ci:=hh9 h46;clear h46;go_wp2_with fail
     refine(tT HA.out hs aR 46 (by omega) Ci.out).mono ?_;rintro e w2 ⟨rfl,ha,hg⟩;have HR2:=hh9 (bG HR.out hg (by omega));have HA2:=hh9 ha;have HG2:=hh9 (HG.out.trans hg);have jZ:=hh9 (E5 cO.out hg (by omega));clear ha hg HR HA HG cO;go_wp2_with (refine bA rfl _ _ rfl w.heap.size ⟨6,⟨#[]⟩,.slice (some ⟨g,0,none⟩) l.length cap,0,0,.slice none 0 0⟩ rfl rfl HR2.out rfl rfl ?_)
     refine bodyPost_ret_by (zag rfl _ _ w.heap.size ⟨6,⟨#[]⟩,.slice (some ⟨g,0,none⟩) l.length cap,0,0,.slice none 0 0⟩ rfl HR2.out) rfl ⟨_,aF.out _ (.iP Ci.out),_,?_,aR,rfl,HA2.out.aj (by omega) _,dY HG2.out (zbA _) _⟩;have h1:=Jk (P:=fun b=>w.heap.size+1<=b) 6 jZ.out (fun b hb=>hb);exact(h1.aj (fun b hb=>by omega) _).weak (fun b hb _=>by omega)
end Go.Proofs.YtahibnnhjahmnaaGreatDoor
