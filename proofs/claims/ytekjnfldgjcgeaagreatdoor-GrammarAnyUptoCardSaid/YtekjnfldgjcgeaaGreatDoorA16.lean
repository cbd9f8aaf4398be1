/- Part 16 of what the laws of the grammar rest on. -/
import Derived.Test.YtekjnfldgjcgeaaGreatDoorA13
import Derived.Test.YtekjnfldgjcgeaaGreatDoorA15
import Derived.Great.BuildSlice
import Derived.KernelRfl
set_option linter.all false
set_option maxRecDepth 100000
set_option maxHeartbeats 8000000
namespace Go.Proofs.YtekjnfldgjcgeaaGreatDoor
open Go.RowKit
def RReads (R:Nat) (s:ByteArray) (d:Nat) (k:Ask) (p:Nat) (w:World) (e:Ending) (w':World):Prop:=∃ r:Got Tree,Ans (rd s) k d p r/\zoe R s d r w e w'
def qay (b:Int) (R:Nat) (s:ByteArray) (p d:Nat) (w wr:World) (v:Value) (q:Nat):Prop :=
 ∃ l:List Int,wr.ownsRow (w.heap.size+1) 3 1 v l.length (zat l)/\0<l.length/\l.length<=q/\q<=s.size/\At wr R s q d/\w.grownBy wr (some R)/\Res0 wr w.heap.size/\∀ r,Ans (rd s) (.dots b l) d q r->Ans (rd s) (.nums b) d p r
theorem zdq {R p d:Nat} {s:ByteArray} {w:World} (b:Int) (hb:b=2\/b=10\/b=16) (h:At w R s p d) (hs:s.size<=50000) (hp:p<=s.size) :
  Calls Tryz.prog 190 #[.pointer (some ⟨R,0,none⟩),.int .i64 b] w (RReads R s d (.nums b) p w):=by
 obtain ⟨i0,hi0,hi1⟩:=Option.map_eq_some_iff.1 zmy
 obtain ⟨hz0,hz1,hz2⟩:i0.zero=some (.int .i64 0)/\i0.size=1/\i0.bytes=8:=by simpa using hi1
 clear hi1
 have hR:=h.lt
 have hA0:=h.alloc (.cells #[.int .i64 0,.string ⟨#[]⟩,.slice none 0 0,.int .i64 0,.int .i64 0,.slice none 0 0] 35)
 have hG0:=World.grownBy_alloc w (.cells #[.int .i64 0,.string ⟨#[]⟩,.slice none 0 0,.int .i64 0,.int .i64 0,.slice none 0 0] 35) (some R)
 have HR:=hh9 (zav w)
 have HA:=hh9 hA0
 have HG:=hh9 hG0
 have hdg:isDg b (-1)=false:=by rcases hb with rfl | rfl | rfl<;>decide
 have HDG:=hh9 hdg
 have HBB:=hh9 hb
 clear h hA0 hG0 hb hdg
 cases hn:zbl b 1114111 (rd s) p with
 | err c =>
  have HE:=hh9 hn
  clear hn
  go_enter Tryz.func190,Tryz.ntmps190
  go_wp2_with fail
  refine (zc6 b 1114111 HBB.out (by omega) (by omega) HA.out hs hp).mono ?_
  rw [HE.out]
  rintro e w1 ⟨rfl,hg⟩
  have HG1:=hh9 (HG.out.trans hg)
  clear hg
  go_wp2_with fail
  exact ⟨rfl,_,.numsErr HE.out,rfl,HG1.out⟩
 | ok v q =>
  have HE:=hh9 hn
  obtain ⟨hpq,hqs⟩:=zj4 HDG.out hp hn
  clear hn
  go_enter Tryz.func190,Tryz.ntmps190
  go_wp2_with fail
  refine (zc6 b 1114111 HBB.out (by omega) (by omega) HA.out hs hp).mono ?_
  rw [HE.out]
  rintro e w1 ⟨_,rfl,ha,hg⟩
  have hz1':w.heap.size+1<=w1.heap.size:=by have:=hg.size;simp at this;omega
  have HR1:=hh9 (zaz (za8 HR.out hg (by omega)) (.cells #[.int .i64 v] 3))
  have HA1:=hh9 (ha.alloc (.cells #[.int .i64 v] 3))
  have HG1:=hh9 (zao (HG.out.trans hg) (.cells #[.int .i64 v] 3))
  have HROW:=hh9 (zll w1 (w.heap.size+1) hz1' v)
  clear ha hg HR HA HG
  by_cases h45:rd s q=45
  ·have H45:=hh9 h45
   have hlt:=zbu (by omega) h45
   clear h45
   go_wp2_with fail
   refine (zca HA1.out hs 45 (by omega) H45.out).mono ?_
   rintro e w2 ⟨rfl,ha,hg⟩
   have HR2:=hh9 (za8 HR1.out hg (by omega))
   have HA2:=hh9 ha
   have HG2:=hh9 (HG1.out.trans hg)
   have HROW2:=hh9 (zfj HROW.out hg (by omega))
   clear ha hg HR1 HA1 HG1 HROW
   cases hn2:zbl b 1114111 (rd s) (q+1) with
   | err c =>
    have HE2:=hh9 hn2
    clear hn2
    go_wp2_with fail
    refine (zc6 b 1114111 HBB.out (by omega) (by omega) HA2.out hs (by omega)).mono ?_
    rw [HE2.out]
    rintro e w3 ⟨rfl,hg⟩
    have HG3:=hh9 (HG2.out.trans hg)
    clear hg
    go_wp2_with fail
    exact ⟨rfl,_,.spanErr HE.out H45.out HE2.out,rfl,HG3.out⟩
   | ok u q2 =>
    have HE2:=hh9 hn2
    obtain ⟨hpq2,hqs2⟩:=zj4 HDG.out (by omega) hn2
    clear hn2
    go_wp2_with fail
    refine (zc6 b 1114111 HBB.out (by omega) (by omega) HA2.out hs (by omega)).mono ?_
    rw [HE2.out]
    rintro e w3 ⟨_,rfl,ha,hg⟩
    have HR3:=hh9 (za8 HR2.out hg (by omega))
    have HA3:=hh9 ha
    have HG3:=hh9 (HG2.out.trans hg)
    have HROW3:=hh9 (zfj HROW2.out hg (by omega))
    have hb3:w.heap.size+1<=w3.heap.size:=by have:=HG3.out.size;have:=HR3.out.lt;omega
    clear ha hg HR2 HA2 HG2 HROW2
    go_wp2_with (at_builtin;go_loud (refine wpList_append_own_at _ rfl _ _ 32 rfl (w.heap.size+1) 3 i0 (.int .i64 0) 1 8 Tryz.underlying32 hi0 hz0 hz1 hz2 rfl (by decide) _ _ _ rfl (HROW3.out.alloc _) ⟨w3.heap.size,0,none⟩ 1 1 [.int .i64 u] rfl rfl (cell_one_new _ _ _) ?c2 ?c3 ?c4 ?c5 ?_))
    case c2=>intro x hx;simp at hx;subst hx;rfl
    case c3=>unfold maxLen;omega
    case c4=>omega
    case c5=>simp;omega
    intro v' w4 hown hgrow0 _ hat
    have hgrow:(w3.alloc (.cells #[.int .i64 u] 3)).grownBy w4 (some w1.heap.size):=hgrow0
    clear hgrow0
    have hg1:w.heap.size+1<=w1.heap.size:=hz1'
    have HR4:=hh9 (za8 (zaz HR3.out _) hgrow (by omega))
    have HA4:=hh9 ((HA3.out.alloc _).kept hgrow (fun e=>by have:=Option.some.inj e;omega))
    have HG4:=hh9 (zh2 (zao HG3.out _) hgrow (by omega))
    have HROW4:=hh9 (zk4 (W:=w3) (l:=[v]) hown)
    obtain ⟨g4,cap4,rfl⟩:=(zan hown).resolve_left (fun h=>by cases h.2)
    have c0:=zaq hown (j:=0) rfl
    have c1:=zaq hown (j:=1) rfl
    obtain ⟨k1,k2,k3,k4⟩:=zb0 hown
    clear hown hgrow hat HR3 HA3 HG3 HROW3
    by_cases huv:u<v
    ·have hq1:decide (u<v)=true:=decide_eq_true huv
     have HUV:=hh9 huv
     clear huv
     go_wp2_with fail
     go_quiet (fail)
     go_wp2_with fail
     refine (zea _ _).mono ?_
     rintro e w5 ⟨rfl,rfl⟩
     go_wp2_with fail
     exact ⟨rfl,_,.spanLess HE.out H45.out HE2.out (by have:=HUV.out;omega),rfl,za5 HG4.out _⟩
    ·have hq1:decide (u<v)=false:=decide_eq_false huv
     have HUV:=hh9 huv
     clear huv
     go_wp2_with fail
     go_quiet (fail)
     go_wp2_with (refine za6 rfl _ _ rfl w.heap.size ⟨7,⟨#[]⟩,.slice (some ⟨g4,0,none⟩) 2 cap4,0,0,.slice none 0 0⟩ rfl rfl HR4.out rfl rfl ?_)
     refine bodyPost_ret_by (zaj rfl _ _ w.heap.size ⟨7,⟨#[]⟩,.slice (some ⟨g4,0,none⟩) 2 cap4,0,0,.slice none 0 0⟩ rfl HR4.out) rfl ⟨_,.span HE.out H45.out HE2.out (by have:=HUV.out;omega),_,?_,hqs2,rfl,(HA4.out.drew _).set_row (by omega) _,zae (za5 HG4.out _) (Nat.le_refl _) _⟩
     have h1:=zfr (W:=w4.drewN nq) (P:=fun b=>w.heap.size+1<=b) 7 (znl HROW4.out nq) (fun b hb=>hb)
     exact (h1.set_row (fun b hb=>by omega) _).weak (fun b hb _=>by omega)
  ·have H45:=hh9 h45
   clear h45
   go_wp2_with fail
   refine (zci HA1.out hs hqs 45 (by omega) H45.out).mono ?_
   rintro e w2 ⟨rfl,ha,hg⟩
   have H0:Hid (qay b R s p d w w2 (.slice (some ⟨w1.heap.size,0,none⟩) 1 1) q) :=
    ⟨[v],zfj HROW.out hg (by omega),by simp,by simp;omega,hqs,ha,HG1.out.trans hg,za8 HR1.out hg (by omega),fun r hr=>.nums HE.out H45.out hr⟩
   clear ha hg HR1 HA1 HG1 HROW
   go_wp2_with fail
   go_loopw [5] (fun v wr=>∃ q:Nat,Hid (qay b R s p d w wr v q)) (fun _ wr=>s.size-zf4 R wr)
   case atStart=>exact ⟨q,H0⟩
   case round =>
    obtain ⟨q,HI⟩:=hrel
    obtain ⟨l,hrow,hl0,hlq,hqs,ha,hg,hres,hall⟩:=HI.out
    have HA:=hh9 ha
    have HG:=hh9 hg
    have HR:=hh9 hres
    have HROW:=hh9 hrow
    have HALL:=hh9 hall
    have HM:=hh9 ha.pos
    obtain ⟨g,cap,rfl⟩:=(zan hrow).resolve_left (fun h=>by omega)
    have hgb:=(zb0 hrow).1
    have HLL:Hid (l.length=l.length):=rfl
    clear hrow ha hg hres hall
    by_cases h46:rd s q=46
    ·have H46:=hh9 h46
     have hlt:=zbu (by omega) h46
     clear h46
     go_wp2_with fail
     refine (zca HA.out hs 46 (by omega) H46.out).mono ?_
     rintro e w2 ⟨rfl,ha,hg⟩
     have HR2:=hh9 (za8 HR.out hg (by omega))
     have HA2:=hh9 ha
     have HG2:=hh9 (HG.out.trans hg)
     have HROW2:=hh9 (zfj HROW.out hg (by omega))
     clear ha hg HR HA HG HROW
     cases hn2:zbl b 1114111 (rd s) (q+1) with
     | err c =>
      have HE2:=hh9 hn2
      clear hn2
      go_wp2_with fail
      refine (zc6 b 1114111 HBB.out (by omega) (by omega) HA2.out hs (by omega)).mono ?_
      rw [HE2.out]
      rintro e w3 ⟨rfl,hg⟩
      have HG3:=hh9 (HG2.out.trans hg)
      clear hg
      go_wp2_with fail
      exact ⟨rfl,_,HALL.out _ (.dotsErr H46.out HE2.out),rfl,HG3.out⟩
     | ok u q2 =>
      have HE2:=hh9 hn2
      obtain ⟨hpq2,hqs2⟩:=zj4 HDG.out (by omega) hn2
      clear hn2
      go_wp2_with fail
      refine (zc6 b 1114111 HBB.out (by omega) (by omega) HA2.out hs (by omega)).mono ?_
      rw [HE2.out]
      rintro e w3 ⟨_,rfl,ha,hg⟩
      have HR3:=hh9 (za8 HR2.out hg (by omega))
      have HA3:=hh9 ha
      have HG3:=hh9 (HG2.out.trans hg)
      have HROW3:=hh9 (zfj HROW2.out hg (by omega))
      have hb3:w.heap.size+1<=w3.heap.size:=by have:=HG3.out.size;have:=HR3.out.lt;omega
      clear ha hg HR2 HA2 HG2 HROW2
      go_wp2_with (at_builtin;go_loud (refine wpList_append_own_at _ rfl _ _ 32 rfl (w.heap.size+1) 3 i0 (.int .i64 0) 1 8 Tryz.underlying32 hi0 hz0 hz1 hz2 rfl (by decide) _ _ _ rfl (HROW3.out.alloc _) ⟨w3.heap.size,0,none⟩ 1 1 [.int .i64 u] rfl rfl (cell_one_new _ _ _) ?c2 ?c3 ?c4 ?c5 ?_))
      case c2=>intro x hx;simp at hx;subst hx;rfl
      case c3=>unfold maxLen;omega
      case c4=>omega
      case c5=>simp;omega
      intro v' w4 hown hgrow0 _ hat
      have hgrow:(w3.alloc (.cells #[.int .i64 u] 3)).grownBy w4 (some g):=hgrow0
      clear hgrow0
      have HR4:=hh9 (za8 (zaz HR3.out _) hgrow (by omega))
      have HA4:=hh9 ((HA3.out.alloc _).kept hgrow (fun e=>by have:=Option.some.inj e;omega))
      have HG4:=hh9 (zh2 (zao HG3.out _) hgrow (by omega))
      have HROW4:=hh9 (zk4 (W:=w3) hown)
      clear hown hgrow hat HR3 HA3 HG3 HROW3
      go_wp2_with fail
      go_roundw
      case rel=>exact ⟨q2,l++[u],HROW4.out,by simp,by simp;omega,hqs2,HA4.out,HG4.out,HR4.out,fun r hr=>HALL.out r (.dotsOk H46.out HE2.out hr)⟩
      case measure =>
       rw [HM.out,HA4.out.pos]
       omega
    ·have H46:=hh9 h46
     clear h46
     go_wp2_with fail
     refine (zci HA.out hs hqs 46 (by omega) H46.out).mono ?_
     rintro e w2 ⟨rfl,ha,hg⟩
     have HR2:=hh9 (za8 HR.out hg (by omega))
     have HA2:=hh9 ha
     have HG2:=hh9 (HG.out.trans hg)
     have HROW2:=hh9 (zfj HROW.out hg (by omega))
     clear ha hg HR HA HG HROW
     go_wp2_with (refine za6 rfl _ _ rfl w.heap.size ⟨6,⟨#[]⟩,.slice (some ⟨g,0,none⟩) l.length cap,0,0,.slice none 0 0⟩ rfl rfl HR2.out rfl rfl ?_)
     refine bodyPost_ret_by (zaj rfl _ _ w.heap.size ⟨6,⟨#[]⟩,.slice (some ⟨g,0,none⟩) l.length cap,0,0,.slice none 0 0⟩ rfl HR2.out) rfl ⟨_,HALL.out _ (.dotsEnd H46.out),_,?_,hqs,rfl,HA2.out.set_row (by omega) _,zae HG2.out (Nat.le_refl _) _⟩
     have h1:=zfr (P:=fun b=>w.heap.size+1<=b) 6 HROW2.out (fun b hb=>hb)
     exact (h1.set_row (fun b hb=>by omega) _).weak (fun b hb _=>by omega)
def zgu (f:Nat) (a:Ask) (k:Nat):Prop:=∀ {R p d:Nat} {s:ByteArray} {w:World},At w R s p d->s.size<=50000->p<=s.size->d<=50->s.size-p<=k ->
 Calls Tryz.prog f #[.pointer (some ⟨R,0,none⟩)] w (RReads R s d a p w)
theorem zzc {k:Nat} (hel:zgu 183 .elem k):zgu 174 .rep k:=by
 intro R p d s w h hs hp hd hk
 have hR:=h.lt
 have HR:=hh9 (zav w)
 have HA:=hh9 (h.alloc (.cells #[.int .i64 0,.string ⟨#[]⟩,.slice none 0 0,.int .i64 0,.int .i64 0,.slice none 0 0] 35))
 have HG:=hh9 (World.grownBy_alloc w (.cells #[.int .i64 0,.string ⟨#[]⟩,.slice none 0 0,.int .i64 0,.int .i64 0,.slice none 0 0] 35) (some R))
 have HEL:Hid (zgu 183 .elem k):=@hel
 clear h hel
 cases hn:countAt (rd s) p with
 | err c =>
  have HE:=hh9 hn
  clear hn
  go_enter Tryz.func174,Tryz.ntmps174
  go_wp2_with fail
  refine (zlv HA.out hs hp).mono ?_
  rw [HE.out]
  rintro e w1 ⟨rfl,hg⟩
  have HG1:=hh9 (HG.out.trans hg)
  clear hg
  go_wp2_with fail
  exact ⟨rfl,_,.repCount HE.out,rfl,HG1.out⟩
 | ok y q =>
  obtain ⟨lo,hi,b⟩:=y
  have HE:=hh9 hn
  obtain ⟨hpq,hqs⟩:=zi0 hp hn
  clear hn
  go_enter Tryz.func174,Tryz.ntmps174
  go_wp2_with fail
  refine (zlv HA.out hs hp).mono ?_
  rw [HE.out]
  rintro e w1 ⟨_,rfl,ha,hg⟩
  have hz1:w.heap.size+1<=w1.heap.size:=by have:=hg.size;simp at this;omega
  have HR1:=hh9 (za8 HR.out hg (by omega))
  have HA1:=hh9 ha
  have HG1:=hh9 (HG.out.trans hg)
  clear ha hg HR HA HG
  simp only [cval]
  go_wp2_with fail
  refine (HEL.out HA1.out hs hqs hd (by omega)).mono ?_
  rintro e w2 ⟨r,hans,hgv⟩
  cases r with
  | err c =>
   obtain ⟨rfl,hg⟩:=hgv
   have HANS:=hh9 hans
   have HG2:=hh9 (HG1.out.trans hg)
   clear hans hg
   go_wp2_with fail
   exact ⟨rfl,_,.repErr HE.out HANS.out,rfl,HG2.out⟩
  | ok t q' =>
   obtain ⟨x,ht,hq',rfl,ha,hg⟩:=hgv
   have HANS:=hh9 hans
   have hz2:w1.heap.size<=w2.heap.size:=hg.size
   have HR2:=hh9 (zaz (za8 HR1.out hg (by omega)) (.cells #[.int .i64 0,.string ⟨#[]⟩,.slice none 0 0,.int .i64 0,.int .i64 0,.slice none 0 0] 35))
   have HA2:=hh9 ha
   have HG2:=hh9 (HG1.out.trans hg)
   obtain ⟨h2,h5⟩:x.ns.oneCell'=true/\x.ks.oneCell'=true:=⟨zaa ht,zab ht⟩
   have H2:=hh9 h2
   have H5:=hh9 h5
   have HT:=hh9 ht
   clear hans ha hg h2 h5 ht HR1 HA1 HG1
   have hz3:w.heap.size<w2.heap.size:=by omega
   -- the world behind the element's own block
   have HT3:Hid (TreeAt ((w2.alloc (.cells #[.int .i64 0,.string ⟨#[]⟩,.slice none 0 0,.int .i64 0,.int .i64 0,.slice none 0 0] 35)).setRow w2.heap.size x.arr) (fun b=>w1.heap.size<=b/\b≠w2.heap.size) x t):=by
    have h1:=HT.out.weak (P':=fun b=>w1.heap.size<=b/\b≠w2.heap.size) (fun b hP hl=>⟨hP,by omega⟩)
    have h3:=h1.under (W':=w2.alloc (.cells #[.int .i64 0,.string ⟨#[]⟩,.slice none 0 0,.int .i64 0,.int .i64 0,.slice none 0 0] 35)) ((Below.refl _ _).alloc (Nat.le_refl _) _)
    exact h3.set_row (fun b hP=>hP.2) _
   have HG3:Hid (w.grownBy ((w2.alloc (.cells #[.int .i64 0,.string ⟨#[]⟩,.slice none 0 0,.int .i64 0,.int .i64 0,.slice none 0 0] 35)).setRow w2.heap.size x.arr) (some R)):=zae (zao HG2.out _) (by omega) _
   have HA3:Hid (At ((w2.alloc (.cells #[.int .i64 0,.string ⟨#[]⟩,.slice none 0 0,.int .i64 0,.int .i64 0,.slice none 0 0] 35)).setRow w2.heap.size x.arr) R s q' d):=(HA2.out.alloc _).set_row (by have:=HA2.out.lt;omega) _
   have HR3:Hid (Res0 ((w2.alloc (.cells #[.int .i64 0,.string ⟨#[]⟩,.slice none 0 0,.int .i64 0,.int .i64 0,.slice none 0 0] 35)).setRow w2.heap.size x.arr) w.heap.size):=zew HR2.out _ (by omega)
   cases b with
   | false =>
    go_wp2_with (first
     | (refine za6 rfl _ _ rfl w2.heap.size x rfl rfl (zav w2) H2.out H5.out ?_)
     | (refine zb8 rfl _ rfl w2.heap.size x rfl (zdn (zav w2) _) ?_)
     | (refine za6 rfl _ _ rfl w.heap.size x rfl rfl HR3.out H2.out H5.out ?_))
    refine bodyPost_ret_by (zaj rfl _ _ w.heap.size x rfl HR3.out) rfl ⟨_,.repBare HE.out HANS.out,x,?_,hq',rfl,HA3.out.set_row (by omega) _,zae HG3.out (Nat.le_refl _) _⟩
    exact (HT3.out.set_row (fun b hP=>by omega) _).weak (fun b hP _=>by omega)
   | true =>
    by_cases hbad:0<=hi/\hi<lo
    ·have q1:decide (0<=hi)=true:=decide_eq_true hbad.1
     have q2:decide (hi<lo)=true:=decide_eq_true hbad.2
     have HBAD:=hh9 hbad
     clear hbad
     go_wp2_with (refine za6 rfl _ _ rfl w2.heap.size x rfl rfl (zav w2) H2.out H5.out ?_)
     refine (zea _ _).mono ?_
     rintro e w5 ⟨rfl,rfl⟩
     go_wp2_with fail
     exact ⟨rfl,_,.repLess HE.out HANS.out HBAD.out,rfl,HG3.out⟩
    ·have fin:∀ W:World,W=(w2.alloc (.cells #[.int .i64 0,.string ⟨#[]⟩,.slice none 0 0,.int .i64 0,.int .i64 0,.slice none 0 0] 35)).setRow w2.heap.size x.arr->Res0 (W.alloc (.cells x.arr 35)) w.heap.size /\
       RReads R s d .rep p w (.returned (XV.val ⟨3,⟨#[]⟩,.slice none 0 0,lo,hi,.slice (some ⟨w2.heap.size+1,0,none⟩) 1 1⟩)) ((W.alloc (.cells x.arr 35)).setRow w.heap.size (XV.arr ⟨3,⟨#[]⟩,.slice none 0 0,lo,hi,.slice (some ⟨w2.heap.size+1,0,none⟩) 1 1⟩)):=by
      intro W hW
      subst hW
      refine ⟨zaz HR3.out _,_,.repOk HE.out HANS.out hbad,_,?_,hq',rfl,(HA3.out.alloc _).set_row (by omega) _,zae (zao HG3.out _) (Nat.le_refl _) _⟩
      have hsz:w2.heap.size+1=((w2.alloc (.cells #[.int .i64 0,.string ⟨#[]⟩,.slice none 0 0,.int .i64 0,.int .i64 0,.slice none 0 0] 35)).setRow w2.heap.size x.arr).heap.size:=by simp [World.setRow]
      have hk:=zbq.one (W:=(w2.alloc (.cells #[.int .i64 0,.string ⟨#[]⟩,.slice none 0 0,.int .i64 0,.int .i64 0,.slice none 0 0] 35)).setRow w2.heap.size x.arr) (W':=(((w2.alloc (.cells #[.int .i64 0,.string ⟨#[]⟩,.slice none 0 0,.int .i64 0,.int .i64 0,.slice none 0 0] 35)).setRow w2.heap.size x.arr).alloc (.cells x.arr 35))) (base:=w.heap.size+1) (g:=w2.heap.size+1)
       (HT3.out.weak (fun b hP _=>by omega)) (by omega) (by omega) (by rw [hsz];exact heap_alloc_new _ _) (fun b _ hl=>heap_alloc_old _ _ hl) (by simp)
      exact ((hk.tree 3 lo hi).set_row (fun b hb=>by omega) _).weak (fun b hb _=>by omega)
     have HF:=hh9 (fin _ rfl)
     clear fin
     by_cases hlo:0<=hi
     ·have q1:decide (0<=hi)=true:=decide_eq_true hlo
      have q2:decide (hi<lo)=false:=decide_eq_false (fun h=>hbad ⟨hlo,h⟩)
      clear hbad
      go_wp2_with (first
       | (refine za6 rfl _ _ rfl w2.heap.size x rfl rfl (zav w2) H2.out H5.out ?_)
       | (refine zb8 rfl _ rfl w2.heap.size x rfl (zdn (zav w2) _) ?_)
       | (refine zbc rfl _ rfl x rfl H2.out H5.out ?_)
       | (refine za6 rfl _ _ rfl w.heap.size ⟨3,⟨#[]⟩,.slice none 0 0,lo,hi,.slice (some ⟨w2.heap.size+1,0,none⟩) 1 1⟩ rfl rfl HF.out.1 rfl rfl ?_))
      exact bodyPost_ret_by (zaj rfl _ _ w.heap.size ⟨3,⟨#[]⟩,.slice none 0 0,lo,hi,.slice (some ⟨w2.heap.size+1,0,none⟩) 1 1⟩ rfl HF.out.1) rfl HF.out.2
     ·have q1:decide (0<=hi)=false:=decide_eq_false hlo
      clear hbad
      go_wp2_with (first
       | (refine za6 rfl _ _ rfl w2.heap.size x rfl rfl (zav w2) H2.out H5.out ?_)
       | (refine zb8 rfl _ rfl w2.heap.size x rfl (zdn (zav w2) _) ?_)
       | (refine zbc rfl _ rfl x rfl H2.out H5.out ?_)
       | (refine za6 rfl _ _ rfl w.heap.size ⟨3,⟨#[]⟩,.slice none 0 0,lo,hi,.slice (some ⟨w2.heap.size+1,0,none⟩) 1 1⟩ rfl rfl HF.out.1 rfl rfl ?_))
      exact bodyPost_ret_by (zaj rfl _ _ w.heap.size ⟨3,⟨#[]⟩,.slice none 0 0,lo,hi,.slice (some ⟨w2.heap.size+1,0,none⟩) 1 1⟩ rfl HF.out.1) rfl HF.out.2
theorem zvy {w w':World} {base R:Nat} {s:ByteArray} {p d:Nat} {v:Value} {l:List Tree} (hk:zbq w base v l) (h:At w R s p d) (hg:w.grownBy w' v.ownBlock) (hR:R<base):At w' R s p d:=by
 obtain ⟨vs,_,h2,_⟩:=hk
 refine h.kept hg (fun e=>?_)
 rcases zan h2 with ⟨rfl,_⟩ | ⟨g,cap,rfl⟩
 ·simp [Value.ownBlock] at e
 ·have hb:=(zb0 h2).1
  have:=Option.some.inj e
  simp at this
  omega
def qaz (R:Nat) (s:ByteArray) (p d:Nat) (w wr:World) (v:Value) (q:Nat):Prop :=
 ∃ l:List Tree,zbq wr (w.heap.size+1) v l/\0<l.length/\l.length<=q+1/\p<=q/\q<=s.size/\At wr R s q d/\w.grownBy wr (some R)/\Res0 wr w.heap.size/\∀ r,Ans (rd s) (.concMore l) d q r->Ans (rd s) .conc d p r
theorem zvz {k:Nat} (hel:zgu 174 .rep k):zgu 160 .conc k:=by
 intro R p d s w h hs hp hd hk
 have hR:=h.lt
 have HR:=hh9 (zav w)
 have HA:=hh9 (h.alloc (.cells #[.int .i64 0,.string ⟨#[]⟩,.slice none 0 0,.int .i64 0,.int .i64 0,.slice none 0 0] 35))
 have HG:=hh9 (World.grownBy_alloc w (.cells #[.int .i64 0,.string ⟨#[]⟩,.slice none 0 0,.int .i64 0,.int .i64 0,.slice none 0 0] 35) (some R))
 have HEL:Hid (zgu 174 .rep k):=@hel
 clear h hel
 go_enter Tryz.func160,Tryz.ntmps160
 go_wp2_with fail
 refine (HEL.out HA.out hs hp hd (by omega)).mono ?_
 rintro e w1 ⟨r,hans,hgv⟩
 cases r with
 | err c =>
  obtain ⟨rfl,hg⟩:=hgv
  have HANS:=hh9 hans
  have HG2:=hh9 (HG.out.trans hg)
  clear hans hg
  go_wp2_with fail
  exact ⟨rfl,_,.concErr HANS.out,rfl,HG2.out⟩
 | ok t q =>
  obtain ⟨x,ht,hqs,rfl,ha,hg⟩:=hgv
  have hpq:=(hans.bound trivial hp t q rfl).1
  obtain ⟨h2,h5⟩:x.ns.oneCell'=true/\x.ks.oneCell'=true:=⟨zaa ht,zab ht⟩
  have H2:=hh9 h2
  have H5:=hh9 h5
  have hz1:w.heap.size+1<=w1.heap.size:=by have:=hg.size;simp at this;omega
  have ht1:TreeAt w1 (fun b=>w.heap.size+1<=b) x t:=ht.weak (fun b hb _=>by simp at hb;omega)
  have H0:Hid (qaz R s p d w (w1.alloc (.cells x.arr 35)) (.slice (some ⟨w1.heap.size,0,none⟩) 1 1) q) :=
   ⟨[t],zbq.one ht1 (Nat.le_refl _) hz1 (heap_alloc_new w1 _) (fun b _ hl=>heap_alloc_old _ _ hl) (by simp),by simp,by simp,hpq,hqs,ha.alloc _,zao (HG.out.trans hg) _,zaz (za8 HR.out hg (by omega)) _,
    fun r hr=>.concOk hans hr⟩
  clear hans ha hg h2 h5 ht ht1 HR HA HG
  go_wp2_with (refine zbc rfl _ rfl x rfl H2.out H5.out ?_)
  clear H2 H5
  go_loopw [3] (fun v wr=>∃ q:Nat,Hid (qaz R s p d w wr v q)) (fun _ wr=>s.size-zf4 R wr)
  case atStart=>exact ⟨q,H0⟩
  case round =>
   clear H0 hz1 hpq hqs
   obtain ⟨q,HI⟩:=hrel
   obtain ⟨l,hk0,hl0,hlq,hpq,hqs,ha,hg,hres,hall⟩:=HI.out
   have HA:=hh9 ha
   have HG:=hh9 hg
   have HRES:=hh9 hres
   have HK:=hh9 hk0
   have HALL:=hh9 hall
   have HM:=hh9 ha.pos
   have hz:w.heap.size+1<=wr.heap.size:=by have:=hres.lt;omega
   clear ha hg hres hk0 hall
   obtain ⟨q1,hq1⟩:∃ q1,q1=zad (rd s) q:=⟨_,rfl⟩
   obtain ⟨hsk0,hle1,hls1⟩:=zdo hqs
   rw [<- hq1] at hsk0 hle1 hls1
   have HSK:=hh9 hsk0
   have HQ1:=hh9 hq1
   clear hsk0 hq1
   go_wp2_with fail
   refine (zf8 HA.out hs hqs).mono ?_
   rintro e w2 ⟨q2,hsk,hle,hls,rfl,ha,hg⟩
   obtain rfl:q2=q1:=hsk.one HSK.out
   have HA2:=hh9 ha
   have HG2:=hh9 (HG.out.trans hg)
   have HK2:=hh9 (HK.out.grown hg (by omega))
   have HRES2:=hh9 (za8 HRES.out hg (by omega))
   have hz2:w.heap.size+1<=w2.heap.size:=by have:=hg.size;omega
   clear hsk ha hg HA HG HK HRES
   by_cases hlt:q<q2
   ·have hb1:decide (q<q2)=true:=decide_eq_true hlt
    have hr:=zcu s q2
    cases hrp:isRp (rd s q2)
    ·have HRP:=hh9 (zvq.trans hrp)
     have HEND:Hid (Ans (rd s) .conc d p (.ok (zgq 2 l) q2)):=HALL.out _ (by
      have:=Ans.cmoreEnd (f:=rd s) (d:=d) (p:=q) (l:=l) (by rw [<- HQ1.out,hrp];simp)
      rwa [<- HQ1.out] at this)
     clear hrp
     rw [hb1]
     go_wp2_with fail
     refine (zag HA2.out hs hls).mono ?_
     rintro e w3 ⟨rfl,n,rfl⟩
     go_wp2_with fail
     refine (zlt _ hr.1 hr.2 _).mono ?_
     rw [HRP.out]
     rintro e w3 ⟨rfl,rfl⟩
     have HA3:=hh9 (HA2.out.drew n)
     have HG3:=hh9 (za5 HG2.out n)
     have HK3:=hh9 (HK2.out.below (W':=w2.drewN n) (za7 (Below.refl _ _) n))
     have HRES3:Hid (Res0 (w2.drewN n) w.heap.size):=HRES2.out
     have hz3:w.heap.size+1<=(w2.drewN n).heap.size:=hz2
     obtain ⟨w3,hw3⟩:∃ x,x=w2.drewN n:=⟨_,rfl⟩
     rw [<- hw3] at HA3 HG3 HK3 HRES3 hz3 ⊢
     clear hw3
     go_wp2_with fail
     refine (zi4 2 HK3.out hz3 (by omega)).mono ?_
     rintro e w4 ⟨x,ht,rfl,hb⟩
     have H2:=hh9 (zaa ht)
     have H5:=hh9 (zab ht)
     have HR4:=hh9 (HRES3.out.kept (hb.block _ HRES3.out.lt))
     have HA4:=hh9 (HA3.out.below hb)
     have HG4:=hh9 (za4 HG3.out hb)
     have HT:=hh9 ht
     clear ht hb
     go_wp2_with (refine za6 rfl _ _ rfl w.heap.size x rfl rfl HR4.out H2.out H5.out ?_)
     refine bodyPost_ret_by (zaj rfl _ _ w.heap.size x rfl HR4.out) rfl ⟨_,HEND.out,x,?_,hls,rfl,HA4.out.set_row (by omega) _,zae HG4.out (Nat.le_refl _) _⟩
     exact (HT.out.set_row (fun b hb=>by omega) _).weak (fun b hb _=>by omega)
    ·have HRP:=hh9 (zvq.trans hrp)
     have HC:Hid (q<zad (rd s) q/\isRp (rd s (zad (rd s) q))=true):=by rw [<- HQ1.out];exact ⟨hlt,hrp⟩
     clear hrp
     rw [hb1]
     go_wp2_with fail
     refine (zag HA2.out hs hls).mono ?_
     rintro e w3 ⟨rfl,n,rfl⟩
     go_wp2_with fail
     refine (zlt _ hr.1 hr.2 _).mono ?_
     rw [HRP.out]
     rintro e w3 ⟨rfl,rfl⟩
     have HK3:=hh9 (HK2.out.below (W':=w2.drewN n) (za7 (Below.refl _ _) n))
     go_wp2_with fail
     refine (HEL.out (HA2.out.drew n) hs hls hd (by omega)).mono ?_
     rintro e w4 ⟨r,hans,hgv⟩
     cases r with
     | err c =>
      obtain ⟨rfl,hg⟩:=hgv
      have HANS:=hh9 hans
      have HG4:=hh9 ((za5 HG2.out n).trans hg)
      clear hans hg
      go_wp2_with fail
      refine ⟨rfl,_,HALL.out _ (.cmoreErr HC.out ?_),rfl,HG4.out⟩
      rw [<- HQ1.out]
      exact HANS.out
     | ok t q3 =>
      obtain ⟨x,ht,hqs3,rfl,ha,hg⟩:=hgv
      have hpq3:=(hans.bound trivial hls t q3 rfl).1
      have h2:=zaa ht
      have h5:=zab ht
      have H2:=hh9 h2
      have H5:=hh9 h5
      have hz4:w.heap.size+1<=w4.heap.size:=by have:=hg.size;exact Nat.le_trans hz2 this
      have HK4:=hh9 ((HK3.out.grown hg (by omega)).below ((Below.refl w4.heap.size w4).alloc (Nat.le_refl _) (.cells x.arr 35)))
      have HT4:=hh9 ((ziz HK3.out ht hz2).under ((Below.refl w4.heap.size w4).alloc (Nat.le_refl _) (.cells x.arr 35)))
      have HA4:=hh9 (ha.alloc (.cells x.arr 35))
      have HG4:=hh9 (zao ((za5 HG2.out n).trans hg) (.cells x.arr 35))
      have HR4:=hh9 (zaz (za8 (W:=w2.drewN n) HRES2.out hg (by omega)) (.cells x.arr 35))
      have HANS:=hh9 hans
      clear hans ha hg ht HK3 HA2 HG2 HK2 HRES2 h2 h5
      go_wp2_with (first
       | (refine zbc rfl _ rfl x rfl H2.out H5.out ?_)
       | (at_builtin;go_loud (refine zh3 rfl _ _ rfl (w.heap.size+1) _ l t x w4.heap.size rfl rfl HK4.out HT4.out (heap_alloc_new w4 _) ?c1 ?c2 ?_)))
      case c1=>omega
      case c2=>simp;omega
      intro v' w5 hk5 hgrow
      have HK5:=hh9 hk5
      have HA5:=hh9 (zvy HK4.out HA4.out hgrow (by omega))
      have HG5:=hh9 (zgc HK4.out HG4.out hgrow (by omega))
      have HR5:=hh9 (ziy HK4.out HR4.out hgrow (by omega))
      clear hk5 hgrow HK4 HA4 HG4 HR4 HT4 H2 H5
      go_wp2_with fail
      go_roundw
      case rel=>exact ⟨q3,l++[t],HK5.out,by simp,by simp;omega,by omega,hqs3,HA5.out,HG5.out,HR5.out,fun r hr=>HALL.out r (.cmoreOk HC.out (by rw [<- HQ1.out];exact HANS.out) hr)⟩
      case measure =>
       rw [HM.out,HA5.out.pos]
       omega
   ·have hb1:decide (q<q2)=false:=decide_eq_false hlt
    have HEND:Hid (Ans (rd s) .conc d p (.ok (zgq 2 l) q2)):=HALL.out _ (by
     have:=Ans.cmoreEnd (f:=rd s) (d:=d) (p:=q) (l:=l) (by rw [<- HQ1.out];exact fun h=>hlt h.1)
     rwa [<- HQ1.out] at this)
    rw [hb1]
    have HA3:=HA2
    have HG3:=HG2
    have HK3:=HK2
    have HRES3:=HRES2
    have hz3:=hz2
    clear HA2 HG2 HK2 HRES2 hz2
    obtain ⟨w3,hw3⟩:∃ x,x=w2:=⟨_,rfl⟩
    subst hw3
    go_wp2_with fail
    refine (zi4 2 HK3.out hz3 (by omega)).mono ?_
    rintro e w4 ⟨x,ht,rfl,hb⟩
    have H2:=hh9 (zaa ht)
    have H5:=hh9 (zab ht)
    have HR4:=hh9 (HRES3.out.kept (hb.block _ HRES3.out.lt))
    have HA4:=hh9 (HA3.out.below hb)
    have HG4:=hh9 (za4 HG3.out hb)
    have HT:=hh9 ht
    clear ht hb
    go_wp2_with (refine za6 rfl _ _ rfl w.heap.size x rfl rfl HR4.out H2.out H5.out ?_)
    refine bodyPost_ret_by (zaj rfl _ _ w.heap.size x rfl HR4.out) rfl ⟨_,HEND.out,x,?_,hls,rfl,HA4.out.set_row (by omega) _,zae HG4.out (Nat.le_refl _) _⟩
    exact (HT.out.set_row (fun b hb=>by omega) _).weak (fun b hb _=>by omega)
def qb0 (R:Nat) (s:ByteArray) (p d:Nat) (w wr:World) (v:Value) (q:Nat):Prop :=
 ∃ l:List Tree,zbq wr (w.heap.size+1) v l/\0<l.length/\l.length<=q+1/\p<=q/\q<=s.size/\At wr R s q d/\w.grownBy wr (some R)/\Res0 wr w.heap.size/\∀ r,Ans (rd s) (.altMore l) d q r->Ans (rd s) .alts d p r
theorem zw0 {k:Nat} (hel:zgu 160 .conc k):zgu 140 .alts k:=by
 intro R p d s w h hs hp hd hk
 have hR:=h.lt
 have HR:=hh9 (zav w)
 have HA:=hh9 (h.alloc (.cells #[.int .i64 0,.string ⟨#[]⟩,.slice none 0 0,.int .i64 0,.int .i64 0,.slice none 0 0] 35))
 have HG:=hh9 (World.grownBy_alloc w (.cells #[.int .i64 0,.string ⟨#[]⟩,.slice none 0 0,.int .i64 0,.int .i64 0,.slice none 0 0] 35) (some R))
 have HEL:Hid (zgu 160 .conc k):=@hel
 clear h hel
 go_enter Tryz.func140,Tryz.ntmps140
 go_wp2_with fail
 refine (HEL.out HA.out hs hp hd (by omega)).mono ?_
 rintro e w1 ⟨r,hans,hgv⟩
 cases r with
 | err c =>
  obtain ⟨rfl,hg⟩:=hgv
  have HANS:=hh9 hans
  have HG2:=hh9 (HG.out.trans hg)
  clear hans hg
  go_wp2_with fail
  exact ⟨rfl,_,.altsErr HANS.out,rfl,HG2.out⟩
 | ok t q =>
  obtain ⟨x,ht,hqs,rfl,ha,hg⟩:=hgv
  have hpq:=(hans.bound trivial hp t q rfl).1
  obtain ⟨h2,h5⟩:x.ns.oneCell'=true/\x.ks.oneCell'=true:=⟨zaa ht,zab ht⟩
  have H2:=hh9 h2
  have H5:=hh9 h5
  have hz1:w.heap.size+1<=w1.heap.size:=by have:=hg.size;simp at this;omega
  have ht1:TreeAt w1 (fun b=>w.heap.size+1<=b) x t:=ht.weak (fun b hb _=>by simp at hb;omega)
  have H0:Hid (qb0 R s p d w (w1.alloc (.cells x.arr 35)) (.slice (some ⟨w1.heap.size,0,none⟩) 1 1) q) :=
   ⟨[t],zbq.one ht1 (Nat.le_refl _) hz1 (heap_alloc_new w1 _) (fun b _ hl=>heap_alloc_old _ _ hl) (by simp),by simp,by simp,hpq,hqs,ha.alloc _,zao (HG.out.trans hg) _,zaz (za8 HR.out hg (by omega)) _,
    fun r hr=>.altsOk hans hr⟩
  clear hans ha hg h2 h5 ht ht1 HR HA HG
  go_wp2_with (refine zbc rfl _ rfl x rfl H2.out H5.out ?_)
  clear H2 H5
  go_loopw [3] (fun v wr=>∃ q:Nat,Hid (qb0 R s p d w wr v q)) (fun _ wr=>s.size-zf4 R wr)
  case atStart=>exact ⟨q,H0⟩
  case round =>
   clear H0 hz1 hpq hqs
   obtain ⟨q,HI⟩:=hrel
   obtain ⟨l,hk0,hl0,hlq,hpq,hqs,ha,hg,hres,hall⟩:=HI.out
   have HA:=hh9 ha
   have HG:=hh9 hg
   have HRES:=hh9 hres
   have HK:=hh9 hk0
   have HALL:=hh9 hall
   have HM:=hh9 ha.pos
   have hz:w.heap.size+1<=wr.heap.size:=by have:=hres.lt;omega
   clear ha hg hres hk0 hall
   by_cases h47:rd s q=47
   ·have H47:=hh9 h47
    have hlt:=zbu (by omega) h47
    clear h47
    go_wp2_with fail
    refine (zca HA.out hs 47 (by omega) H47.out).mono ?_
    rintro e w2 ⟨rfl,ha,hg⟩
    have HA2:=hh9 ha
    have HG2:=hh9 (HG.out.trans hg)
    have HK2:=hh9 (HK.out.grown hg (by omega))
    have HRES2:=hh9 (za8 HRES.out hg (by omega))
    have hz2:w.heap.size+1<=w2.heap.size:=by have:=hg.size;omega
    clear ha hg HA HG HK HRES
    go_wp2_with fail
    refine (zf8 HA2.out hs (by omega)).mono ?_
    rintro e w3 ⟨q2,hsk,hle,hls,rfl,ha,hg⟩
    have HSK:=hh9 hsk.eq
    have HA3:=hh9 ha
    have HG3:=hh9 (HG2.out.trans hg)
    have HK3:=hh9 (HK2.out.grown hg (by omega))
    have HRES3:=hh9 (za8 HRES2.out hg (by omega))
    have hz3:w.heap.size+1<=w3.heap.size:=by have:=hg.size;omega
    clear hsk ha hg HA2 HG2 HK2 HRES2
    go_wp2_with fail
    refine (HEL.out HA3.out hs hls hd (by omega)).mono ?_
    rintro e w4 ⟨r,hans,hgv⟩
    cases r with
    | err c =>
     obtain ⟨rfl,hg⟩:=hgv
     have HANS:=hh9 hans
     have HG4:=hh9 (HG3.out.trans hg)
     clear hans hg
     go_wp2_with fail
     refine ⟨rfl,_,HALL.out _ (.moreErr H47.out ?_),rfl,HG4.out⟩
     rw [HSK.out]
     exact HANS.out
    | ok t q3 =>
     obtain ⟨x,ht,hqs3,rfl,ha,hg⟩:=hgv
     have hpq3:=(hans.bound trivial hls t q3 rfl).1
     have h2:=zaa ht
     have h5:=zab ht
     have H2:=hh9 h2
     have H5:=hh9 h5
     have hz4:w.heap.size+1<=w4.heap.size:=by have:=hg.size;omega
     have HK4:=hh9 ((HK3.out.grown hg (by omega)).below ((Below.refl w4.heap.size w4).alloc (Nat.le_refl _) (.cells x.arr 35)))
     have HT4:=hh9 ((ziz HK3.out ht hz3).under ((Below.refl w4.heap.size w4).alloc (Nat.le_refl _) (.cells x.arr 35)))
     have HA4:=hh9 (ha.alloc (.cells x.arr 35))
     have HG4:=hh9 (zao (HG3.out.trans hg) (.cells x.arr 35))
     have HR4:=hh9 (zaz (za8 HRES3.out hg (by omega)) (.cells x.arr 35))
     have HANS:=hh9 hans
     clear hans ha hg ht HK3 HA3 HG3 HRES3 h2 h5
     go_wp2_with (first
      | (refine zbc rfl _ rfl x rfl H2.out H5.out ?_)
      | (at_builtin;go_loud (refine zh3 rfl _ _ rfl (w.heap.size+1) _ l t x w4.heap.size rfl rfl HK4.out HT4.out (heap_alloc_new w4 _) ?c1 ?c2 ?_)))
     case c1=>omega
     case c2=>simp;omega
     intro v' w5 hk5 hgrow
     have HK5:=hh9 hk5
     have HA5:=hh9 (zvy HK4.out HA4.out hgrow (by omega))
     have HG5:=hh9 (zgc HK4.out HG4.out hgrow (by omega))
     have HR5:=hh9 (ziy HK4.out HR4.out hgrow (by omega))
     clear hk5 hgrow HK4 HA4 HG4 HR4 HT4 H2 H5
     go_wp2_with fail
     go_roundw
     case rel=>exact ⟨q3,l++[t],HK5.out,by simp,by simp;omega,by omega,hqs3,HA5.out,HG5.out,HR5.out,fun r hr=>HALL.out r (.moreOk H47.out (by rw [HSK.out];exact HANS.out) hr)⟩
     case measure =>
      rw [HM.out,HA5.out.pos]
      omega
   ·have H47:=hh9 h47
    have HEND:Hid (Ans (rd s) .alts d p (.ok (zgq 1 l) q)):=HALL.out _ (.moreEnd h47)
    clear h47
    go_wp2_with fail
    refine (zci HA.out hs hqs 47 (by omega) H47.out).mono ?_
    rintro e w3 ⟨rfl,ha,hg⟩
    have HA3:=hh9 ha
    have HG3:=hh9 (HG.out.trans hg)
    have HK3:=hh9 (HK.out.grown hg (by omega))
    have HRES3:=hh9 (za8 HRES.out hg (by omega))
    have hz3:w.heap.size+1<=w3.heap.size:=by have:=hg.size;omega
    clear ha hg HA HG HK HRES
    go_wp2_with fail
    refine (zi4 1 HK3.out hz3 (by omega)).mono ?_
    rintro e w4 ⟨x,ht,rfl,hb⟩
    have H2:=hh9 (zaa ht)
    have H5:=hh9 (zab ht)
    have HR4:=hh9 (HRES3.out.kept (hb.block _ HRES3.out.lt))
    have HA4:=hh9 (HA3.out.below hb)
    have HG4:=hh9 (za4 HG3.out hb)
    have HT:=hh9 ht
    clear ht hb
    go_wp2_with (refine za6 rfl _ _ rfl w.heap.size x rfl rfl HR4.out H2.out H5.out ?_)
    refine bodyPost_ret_by (zaj rfl _ _ w.heap.size x rfl HR4.out) rfl ⟨_,HEND.out,x,?_,hqs,rfl,HA4.out.set_row (by omega) _,zae HG4.out (Nat.le_refl _) _⟩
    exact (HT.out.set_row (fun b hb=>by omega) _).weak (fun b hb _=>by omega)
def qc4 (R:Nat) (s:ByteArray) (d p:Nat) (cl:Int) (w:World) (e:Ending) (w':World):Prop:=∃ r:Got Tree,InBr (rd s) d p cl r/\zoe R s d r w e w'
theorem At.putd {w:World} {R:Nat} {s:ByteArray} {p d:Nat} (h:At w R s p d) {x:Int} {q:Nat} (hx:x=q):At (w.setCell ⟨R,2,none⟩ (.int .i64 x)) R s p q:=by rw [hx];exact h.setd q
theorem zha {R p d:Nat} {s:ByteArray} {w:World} (o cl:Int) (ho0:0<o) (hcl0:0<cl) (hel:∀ k',k'<s.size-p->zgu 140 .alts k') (h:At w R s p d) (hs:s.size<=50000) (hd:d<=50) (ho:rd s p=o) :
  Calls Tryz.prog 186 #[.pointer (some ⟨R,0,none⟩),.int .u8 o,.int .u8 cl] w (qc4 R s d p cl w):=by
 have hR:=h.lt
 have hlt:=zbu (by omega) ho
 have HR:=hh9 (zav w)
 have HA:=hh9 (h.alloc (.cells #[.int .i64 0,.string ⟨#[]⟩,.slice none 0 0,.int .i64 0,.int .i64 0,.slice none 0 0] 35))
 have HG:=hh9 (World.grownBy_alloc w (.cells #[.int .i64 0,.string ⟨#[]⟩,.slice none 0 0,.int .i64 0,.int .i64 0,.slice none 0 0] 35) (some R))
 have HO:=hh9 ho
 have HEL:Hid (∀ k',k'<s.size-p->zgu 140 .alts k'):=hel
 clear h hel ho
 go_enter Tryz.func186,Tryz.ntmps186
 go_wp2_with fail
 refine (zb1 HA.out hs o ho0 HO.out).mono ?_
 rintro e w1 ⟨rfl,ha,hg⟩
 have hz1:w.heap.size+1<=w1.heap.size:=by have:=hg.size;simp at this;omega
 have HR1:=hh9 (za8 HR.out hg (by omega))
 have HA1:=hh9 ha
 have HG1:=hh9 (HG.out.trans hg)
 obtain ⟨c0,c1,c2,z0,z1,z2⟩:=ha.cells
 clear ha hg HR HA HG
 by_cases h50:d=50
 ·have hq:decide ((d:Int)=50)=true:=decide_eq_true (by omega)
  have hq2:((d:Int)==50)=true:=by simp;omega
  have HD:=hh9 h50
  clear h50
  go_wp2_with fail
  refine (zea _ _).mono ?_
  rintro e w5 ⟨rfl,rfl⟩
  go_wp2_with fail
  exact ⟨rfl,_,.deep HD.out,rfl,HG1.out⟩
 ·have hq:decide ((d:Int)=50)=false:=decide_eq_false (by omega)
  have hq2:((d:Int)==50)=false:=by simp;omega
  have hd2:d+1<=50:=by omega
  go_wp2_with fail
  have HA2:=hh9 (HA1.out.putd (x:=(d:Int)+1) (q:=d+1) (by omega))
  have HG2:=hh9 (zah HG1.out 2 (.int .i64 ((d:Int)+1)))
  have HR2:=hh9 (zdh (k:=2) (v:=.int .i64 ((d:Int)+1)) HR1.out (show w.heap.size≠R by omega))
  refine (zf8 HA2.out hs (by omega)).mono ?_
  rintro e w3 ⟨q,hsk,hle,hls,rfl,ha,hg⟩
  have HSK:=hh9 hsk.eq
  have hz3:w.heap.size+1<=w3.heap.size:=by have:=hg.size;simp at this;omega
  have HA3:=hh9 ha
  have HG3:=hh9 (HG2.out.trans hg)
  have HR3:=hh9 (za8 HR2.out hg (by omega))
  clear hsk ha hg HA2 HG2 HR2 HA1 HG1 HR1
  go_wp2_with fail
  refine (HEL.out (s.size-q) (by omega) HA3.out hs hls hd2 (Nat.le_refl _)).mono ?_
  rintro e w4 ⟨r,hans,hgv⟩
  cases r with
  | err c =>
   obtain ⟨rfl,hg⟩:=hgv
   have HANS:Hid (Ans (rd s) .alts (d+1) (zad (rd s) (p+1)) (.err c)):=by rw [HSK.out];exact hans
   have HG4:=hh9 (HG3.out.trans hg)
   clear hans hg
   go_wp2_with fail
   exact ⟨rfl,_,.err (by omega) HANS.out,rfl,HG4.out⟩
  | ok t q2 =>
   obtain ⟨x,ht,hqs,rfl,ha,hg⟩:=hgv
   have HANS:Hid (Ans (rd s) .alts (d+1) (zad (rd s) (p+1)) (.ok t q2)):=by rw [HSK.out];exact hans
   have h2:=zaa ht
   have h5:=zab ht
   have H2:=hh9 h2
   have H5:=hh9 h5
   have hz4:w.heap.size+1<=w4.heap.size:=by have:=hg.size;omega
   have HG4:Hid (w.grownBy ((w4.alloc (.cells #[.int .i64 0,.string ⟨#[]⟩,.slice none 0 0,.int .i64 0,.int .i64 0,.slice none 0 0] 35)).setRow w4.heap.size x.arr) (some R)):=zae (zao (HG3.out.trans hg) _) (by omega) _
   have HA4:Hid (At ((w4.alloc (.cells #[.int .i64 0,.string ⟨#[]⟩,.slice none 0 0,.int .i64 0,.int .i64 0,.slice none 0 0] 35)).setRow w4.heap.size x.arr) R s q2 (d+1)):=(ha.alloc _).set_row (by have:=ha.lt;omega) _
   have HR4:Hid (Res0 ((w4.alloc (.cells #[.int .i64 0,.string ⟨#[]⟩,.slice none 0 0,.int .i64 0,.int .i64 0,.slice none 0 0] 35)).setRow w4.heap.size x.arr) w.heap.size):=zew (zaz (za8 HR3.out hg (by omega)) _) _ (by omega)
   have HB4:Hid (((w4.alloc (.cells #[.int .i64 0,.string ⟨#[]⟩,.slice none 0 0,.int .i64 0,.int .i64 0,.slice none 0 0] 35)).setRow w4.heap.size x.arr).heap[w4.heap.size]?=some (.cells x.arr 35 (0,0))):=zdn (zav w4) _
   have HT4:Hid (TreeAt ((w4.alloc (.cells #[.int .i64 0,.string ⟨#[]⟩,.slice none 0 0,.int .i64 0,.int .i64 0,.slice none 0 0] 35)).setRow w4.heap.size x.arr) (fun b=>w.heap.size+1<=b/\b≠w4.heap.size) x t):=by
    have h1:=ht.weak (P':=fun b=>w.heap.size+1<=b/\b≠w4.heap.size) (fun b hP hl=>⟨by omega,by omega⟩)
    have h3:=h1.under (W':=w4.alloc (.cells #[.int .i64 0,.string ⟨#[]⟩,.slice none 0 0,.int .i64 0,.int .i64 0,.slice none 0 0] 35)) ((Below.refl _ _).alloc (Nat.le_refl _) _)
    exact h3.set_row (fun b hP=>hP.2) _
   have hz5:w4.heap.size<((w4.alloc (.cells #[.int .i64 0,.string ⟨#[]⟩,.slice none 0 0,.int .i64 0,.int .i64 0,.slice none 0 0] 35)).setRow w4.heap.size x.arr).heap.size:=by simp [World.setRow]
   clear hans ha hg ht h2 h5 HA3 HG3 HR3
   go_wp2_with (refine za6 rfl _ _ rfl w4.heap.size x rfl rfl (zav w4) H2.out H5.out ?_)
   obtain ⟨w5,hw5⟩:∃ y,y=(w4.alloc (.cells #[.int .i64 0,.string ⟨#[]⟩,.slice none 0 0,.int .i64 0,.int .i64 0,.slice none 0 0] 35)).setRow w4.heap.size x.arr:=⟨_,rfl⟩
   rw [<- hw5] at HG4 HA4 HR4 HB4 HT4 hz5 ⊢
   clear hw5
   by_cases hcl:rd s q2=cl
   ·have HCL:=hh9 hcl
    have hlt2:=zbu (by omega) hcl
    clear hcl
    refine (zb1 HA4.out hs cl hcl0 HCL.out).mono ?_
    rintro e w6 ⟨rfl,ha,hg⟩
    have hz6:w5.heap.size<=w6.heap.size:=hg.size
    obtain ⟨c0',c1',c2',z0',z1',z2'⟩:=ha.cells
    have HA6:Hid (At (w6.setCell ⟨R,2,none⟩ (.int .i64 (d:Int))) R s (q2+1) d):=ha.putd rfl
    have HG6:=hh9 (zah (HG4.out.trans hg) 2 (.int .i64 (d:Int)))
    have HR6:=hh9 (zdh (k:=2) (v:=.int .i64 (d:Int)) (za8 HR4.out hg (by omega)) (show w.heap.size≠R by omega))
    have HB6:Hid ((w6.setCell ⟨R,2,none⟩ (.int .i64 (d:Int))).heap[w4.heap.size]?=some (.cells x.arr 35 (0,0))):=by
     have e1:=Below.heap_setCell w6 ⟨R,2,none⟩ (.int .i64 (d:Int)) w4.heap.size (show w4.heap.size≠R by omega)
     exact e1.trans ((hg.block w4.heap.size hz5 (fun e=>by have:=Option.some.inj e;omega)).trans HB4.out)
    have HT6:Hid (TreeAt (w6.setCell ⟨R,2,none⟩ (.int .i64 (d:Int))) (fun b=>w.heap.size+1<=b/\b≠w4.heap.size) x t):=by
     have h1:=HT4.out.kept (W':=w6) (P':=fun b=>w.heap.size+1<=b/\b≠w4.heap.size) (fun b hP hl=>⟨hg.block b hl (fun e=>by have:=Option.some.inj e;omega),hP⟩) hz6
     exact h1.cell (fun b hP=>by omega)
    clear ha hg HA4 HG4 HR4 HB4 HT4 c0 c1 c2 z0 z1 z2 hq hq2
    have hsub:((d+1:Nat):Int)-1=(d:Int):=by omega
    have hd0:(0:Int)<=(d:Int):=by omega
    go_wp2_with (first
     | (refine zb8 rfl _ rfl w4.heap.size x rfl HB6.out ?_)
     | (refine za6 rfl _ _ rfl w.heap.size x rfl rfl HR6.out H2.out H5.out ?_))
    refine bodyPost_ret_by (zaj rfl _ _ w.heap.size x rfl HR6.out) rfl ⟨_,.ok (by omega) HANS.out HCL.out,x,?_,hlt2,rfl,HA6.out.set_row (by omega) _,zae HG6.out (Nat.le_refl _) _⟩
    exact (HT6.out.set_row (fun b hb=>by omega) _).weak (fun b hb _=>by omega)
   ·have HCL:=hh9 hcl
    clear hcl
    refine (zi2 HA4.out hs hqs cl hcl0 HCL.out).mono ?_
    rintro e w6 ⟨rfl,hg⟩
    have HG6:=hh9 (HG4.out.trans hg)
    clear hg
    go_wp2_with fail
    exact ⟨rfl,_,.opened (by omega) HANS.out HCL.out,rfl,HG6.out⟩
end Go.Proofs.YtekjnfldgjcgeaaGreatDoor
