/- Part 39 of what the laws of the grammar rest on. -/
import Derived.Test.YtahibnnhjahmnaaGreatDoorA38
set_option linter.all false
set_option maxRecDepth 100000
set_option maxHeartbeats 8000000
namespace Go.Proofs.YtahibnnhjahmnaaGreatDoor
open Go.RowKit
def ME(fold:Bool)(R:Nat)(s:ByteArray)(p:Nat)(w:World)(e:Ending)(w':World):Prop :=
 ∃ (x:XV) (t:Tree) (q:Nat) (c:Int),av w' (fun b=>w.heap.size<=b) x t/\aW R s x.val q c w e w' /\
  ((c=0/\q<=s.size/\∃ xs,iY (rd s) p=.ok xs q/\t=(if fold=true then Bh xs else mU xs true))\/(c=20/\q<=s.size+1/\iY (rd s) p=.err 20))
def oh(W:World)(E:Nat)(k:Int)(T:ByteArray)(v:Value):Prop:=W.heap[E]?=some (.cells #[.int .i64 k,.string T,v,.int .i64 0,.int .i64 0,.slice none 0 0] 29 (0,0))
theorem oh.lt{W:World}{E:Nat}{k:Int}{T:ByteArray}{v:Value}(h:oh W E k T v):E<W.heap.size:=(zbD.1 h).1
theorem oh.text{W:World}{E:Nat}{k:Int}{T:ByteArray}{v:Value}(h:oh W E k T v)(T':ByteArray):oh (W.setCell ⟨E,1,none⟩ (.string T')) E k T' v:=by
 unfold oh at h ⊢;unfold World.setCell;simp only[Array.getElem?_modify,h];simp
theorem oh.kind{W:World}{E:Nat}{k:Int}{T:ByteArray}{v:Value}(h:oh W E k T v)(k':Int):oh (W.setCell ⟨E,0,none⟩ (.int .i64 k')) E k' T v:=by
 unfold oh at h ⊢;unfold World.setCell;simp only[Array.getElem?_modify,h];simp
theorem oh.nums{W:World}{E:Nat}{k:Int}{T:ByteArray}{v:Value}(h:oh W E k T v)(v':Value):oh (W.setCell ⟨E,2,none⟩ v') E k T v':=by
 unfold oh at h ⊢;unfold World.setCell;simp only[Array.getElem?_modify,h];simp
theorem oh.cells{W:World}{E:Nat}{k:Int}{T:ByteArray}{v:Value}(h:oh W E k T v):W.cell? ⟨E,0,none⟩=some (.int .i64 k)/\W.cell? ⟨E,1,none⟩=some (.string T)/\W.cell? ⟨E,2,none⟩=some v /\
  W.frozen? ⟨E,0,none⟩=false/\W.frozen? ⟨E,1,none⟩=false/\W.frozen? ⟨E,2,none⟩=false:=by
 unfold oh at h;simp[World.cell?,World.frozen?,h]
theorem oh.kept{W W':World}{E:Nat}{k:Int}{T:ByteArray}{v:Value}{row:Option Nat}(h:oh W E k T v)(hg:W.grownBy W' row)(hne:some E≠row):oh W' E k T v:=(hg.block E h.lt hne).trans h
theorem II{w w':World}{R:Nat}(h:w.grownBy w' (some R)){E:Nat}(hE:w.heap.size<=E)(k:Nat)(v:Value):w.grownBy (w'.setCell ⟨E,k,none⟩ v) (some R) :=
 ⟨h.os,h.tape,h.output,by simpa[World.setCell]using h.size,fun i hi hr=>(zbQ _ _ _ _ (fun e=>by simp at e;omega)).trans (h.block i hi hr)⟩
theorem MF{W:World}{g:Nat}(hr:bg W g){E:Nat}(hne:g≠E)(k:Nat)(v:Value):bg (W.setCell ⟨E,k,none⟩ v) g :=
 hr.kept (zbQ _ _ _ _ (fun e=>hne (by simpa using e)))
theorem bL.kI{w:World}{R:Nat}{s:ByteArray}{p:Nat}{c:Int}(h:bL w R s p c){E:Nat}(hne:R≠E)(k:Nat)(v:Value):bL (w.setCell ⟨E,k,none⟩ v) R s p c :=
 (zbQ _ _ _ _ (fun e=>hne (by simpa using e))).trans h
def U9(s:ByteArray)(p:Nat)(x:List Int)(q:Nat)(c:Int):Prop:=(c=0/\q<=s.size/\iY (rd s) p=.ok x q)\/(c=20/\q<=s.size+1/\iY (rd s) p=.err 20)
theorem zyu{s:ByteArray}{p q:Nat}{x:List Int}(h:iY (rd s) p=.ok x q):q<=s.size:=by
 unfold iY at h;split at h
 ·split at h
  ·rename_i h1 h2;have:=fP (by omega) h2
   cases h
   omega
  ·cases h
 ·cases h
theorem zlt{R p:Nat}{s:ByteArray}{w:World}(h:bL w R s p 0)(hs:s.size<=50000)(fI:rd s p=34) :
  Calls Tryz.prog 143 #[.pointer (some ⟨R,0,none⟩)] w fun e w'=>∃ (x:List Int) (q:Nat) (c:Int),U9 s p x q c/\(∀ c∈x,0<=c/\c<128)/\x.length<=60000/\aW R s (.string (ak x)) q c w e w':=by
 refine(zrq h hs fI).mono ?_;rintro e w' (⟨x,q,hq,hx,hl,hg⟩|⟨hq,x,q,aR,hx,hl,hg⟩)
 ·exact⟨x,q,0,.inl ⟨rfl,zyu hq,hq⟩,hx,hl,hg⟩
 ·exact⟨x,q,20,.inr ⟨rfl,aR,hq⟩,hx,hl,hg⟩
def zyv(R:Nat)(s:ByteArray)(x:List Int)(q:Nat)(c:Int)(E:Nat)(w wr:World)(T:ByteArray)(i:Nat):Prop :=
 T=ak ((x.take i).map low)/\oh wr E 5 T (.slice none 0 0)/\bL wr R s q c/\w.grownBy wr (some R)/\bg wr w.heap.size
theorem qbv{x:List Int}{i:Nat}{Z:Int}(h:x[i]?=some Z):ak ((x.take i).map low)++ak [low Z]=ak ((x.take (i+1)).map low):=by
 rw[OX,List.take_add_one,h];simp
theorem zn8{R p:Nat}{s:ByteArray}{w:World}(h:bL w R s p 0)(hs:s.size<=50000)(fI:rd s p=34) :
  Calls Tryz.prog 118 #[.pointer (some ⟨R,0,none⟩),.bool true] w (ME true R s p w):=by
 have hR:=h.lt;have HR:=hh9 (fG w);have HA:=hh9 (h.alloc (.cells #[.int .i64 0,.string ⟨#[]⟩,.slice none 0 0,.int .i64 0,.int .i64 0,.slice none 0 0] 29));have HG:=hh9 (World.grownBy_alloc w (.cells #[.int .i64 0,.string ⟨#[]⟩,.slice none 0 0,.int .i64 0,.int .i64 0,.slice none 0 0] 29) (some R));have qj:=hh9 fI;clear h fI;go_enter Tryz.func118,Tryz.ntmps118;go_wp2_with fail
 refine(zlt HA.out hs qj.out).mono ?_;rintro e w2 ⟨x,q,c,hend,hx,hl,rfl,ha,hg⟩;have aU:=hh9 hend;have hz2:w.heap.size+1<=w2.heap.size:=by have:=hg.size;simp at this;omega
 have HA2:=hh9 ha;have HG2:=hh9 (HG.out.trans hg);have HR2:=hh9 (bG HR.out hg (by omega));have hsz:=eP x;have hget:=Sl hx;obtain⟨S,hS⟩:∃ S,S=ak x:=⟨_,rfl⟩
 rw[<- hS]at hsz hget ⊢;obtain⟨n,hn⟩:∃ n,n=x.length:=⟨_,rfl⟩
 rw[<- hn]at hsz hl;have HN:=hh9 hn;have kE:=hh9 hsz;have qU:=hh9 hget;have hsm:S.size<=60000:=by omega
 obtain⟨E,hE⟩:∃ E,E=w2.heap.size:=⟨_,rfl⟩
 rw[<- hE]at hz2;have HE:=hh9 hE;clear ha hg hend hx hS hn hget hE HA HG HR;go_wp2_with (refine bA rfl _ _ rfl w2.heap.size ⟨5,⟨#[]⟩,.slice none 0 0,0,0,.slice none 0 0⟩ rfl rfl (fG w2) rfl rfl ?_)
 rw[<- HE.out]
 have H0:Hid (zyv R s x q c E w ((w2.alloc (.cells #[.int .i64 0,.string ⟨#[]⟩,.slice none 0 0,.int .i64 0,.int .i64 0,.slice none 0 0] 29)).setRow E (XV.arr ⟨5,⟨#[]⟩,.slice none 0 0,0,0,.slice none 0 0⟩)) ⟨#[]⟩ 0):=by
  rw[HE.out];exact⟨rfl,wF (fG w2) _,(HA2.out.alloc _).aj (by have:=HE.out;omega) _,dY (dn HG2.out _) (by have:=HE.out;omega) _,Ai (lV HR2.out _) _ (by have:=HE.out;omega)⟩
 go_loopw [7] (fun v wr=>∃ (i:Nat) (T:ByteArray),v=.int .i64 i/\i<=n/\Hid (zyv R s x q c E w wr T i)) (fun v _=>n-(intOf v).toNat)
 case atStart=>exact⟨0,_,rfl,by omega,H0⟩
 case round =>
  clear H0;obtain⟨i,T,rfl,hi,HI⟩:=hrel;obtain⟨hT,he,ha,hg,hr⟩:=HI.out;have hTs:T.size<=60000:=by rw[hT,eP];simp;omega
  by_cases hlt:i<n
  ·have hss:i<S.size:=by omega
   have hxi:=qU.out i hss;obtain⟨Z,hZ⟩:∃ z,((S[i].toNat:Nat):Int)=z:=⟨_,rfl⟩
   have rV:0<=Z/\Z<=255:=by have:=S[i].toNat_lt;omega
   have HZ:=hh9 hZ;have mY:Hid (ak ((x.take i).map low)++ak [low Z]=ak ((x.take (i+1)).map low)):=qbv (by rw[<- hZ];exact hxi);have kc:=fun (W:World)=>Uf W (low Z) (OY rV.1 rV.2).1 (OY rV.1 rV.2).2
   have kd:∀ W:World,(convert 22 9 (.slice (some ⟨W.heap.size,0,none⟩) 1 1)).run Tryz.prog (W.alloc (.cells #[.int .u8 (low Z)] 5)).drew=.ok (.string (ak [low Z])) (W.alloc (.cells #[.int .u8 (low Z)] 5)).drew:=fun W=>kc W.drew
   have Qy:(ak [low Z]).size=1:=rfl;have hov:¬ 9223372036854775807<T.size+1:=by omega
   obtain⟨c0,c1,c2,z0,z1,z2⟩:=he.cells;obtain⟨f0,f1,f2,g0,g1,g2⟩:=(he.kept (World.grownBy_alloc wr (.cells #[.int .u8 (low Z)] 5) none) (by simp)).cells;have oD:=hh9 he;have Ep:=hh9 ha;have rM:=hh9 hg;have HRR:=hh9 hr;have HT:=hh9 hT;clear he ha hg hr hT hxi;go_wp2_with fail
   go_region_law (first|(go_simp;go_at_call 62;refine(OV Z rV.1 rV.2 _).mono ?_;rintro e w' ⟨rfl,rfl⟩))
   all_goals
   go_wp2_with fail
   go_roundw
   case rel=>exact⟨i+1,_,by go_num,by omega,by rw[HT.out,mY.out],(oD.out.kept (World.grownBy_alloc wr (.cells #[.int .u8 (low Z)] 5) none) (by simp)).text _,(Ep.out.alloc _).kI (by have:=Ep.out.lt;omega) _ _,bY (II (E:=E) (dn rM.out (.cells #[.int .u8 (low Z)] 5)) (by omega) 1 (.string (T++ak [low Z]))) 1,MF (E:=E) (lV HRR.out (.cells #[.int .u8 (low Z)] 5)) (by omega) 1 (.string (T++ak [low Z]))⟩
   case measure=>simp[intOf];omega
  ·have hin:i=n:=by omega
   have oD:=hh9 he;have Ep:=hh9 ha;have rM:=hh9 hg;have HRR:=hh9 hr
   have ay:Hid (ME true R s p w (.returned (XV.val ⟨5,T,.slice none 0 0,0,0,.slice none 0 0⟩)) (wr.setRow w.heap.size (XV.arr ⟨5,T,.slice none 0 0,0,0,.slice none 0 0⟩))):=by
    refine⟨⟨5,T,.slice none 0 0,0,0,.slice none 0 0⟩,Bh x,q,c,?_,⟨rfl,ha.aj (by omega) _,dY hg (zbA _) _⟩,?_⟩
    ·rw[hT,hin,HN.out,List.take_length];exact Ah _ _ _ _ _ _
    ·rcases aU.out with ⟨rfl,h1,h2⟩|⟨rfl,h1,h2⟩
     ·exact .inl ⟨rfl,h1,x,h2,by rw[if_pos rfl]⟩
     ·exact .inr ⟨rfl,h1,h2⟩
   clear he ha hg hr hT hlt;subst hin
   go_wp2_with (first
    |(refine mO rfl _ rfl E ⟨5,T,.slice none 0 0,0,0,.slice none 0 0⟩ rfl oD.out ?_)
    |(refine bA rfl _ _ rfl w.heap.size ⟨5,T,.slice none 0 0,0,0,.slice none 0 0⟩ rfl rfl HRR.out rfl rfl ?_))
   exact bodyPost_ret_by (zag rfl _ _ w.heap.size ⟨5,T,.slice none 0 0,0,0,.slice none 0 0⟩ rfl HRR.out) rfl ay.out
theorem Gh{W:World}{base size n:Nat}{e:TypeId}{v:Value}{xs:List Value}(h:W.ownsRow base e size v n xs){E:Nat}(hE:E<base):some E≠v.ownBlock:=by
 rcases fB h with ⟨rfl,_⟩|⟨g,cap,rfl⟩
 ·simp[Value.ownBlock]
 ·have:=(iX h).1;simp[Value.ownBlock];omega
theorem qdy(W:World)(base size:Nat)(e:TypeId):W.ownsRow base e size (.slice none 0 0) 0 []:=⟨by simp,.inl ⟨rfl,rfl⟩⟩
theorem qdz{W:World}{base size n:Nat}{e:TypeId}{v:Value}{xs:List Value}(h:W.ownsRow base e size v n xs){E:Nat}(hE:E<base)(k:Nat)(u:Value):(W.setCell ⟨E,k,none⟩ u).ownsRow base e size v n xs:=by
 refine⟨h.1,?_⟩;rcases h.2 with h0|⟨g,cap,cur,hv,hg,hh,r⟩
 ·exact .inl h0
 ·exact .inr ⟨g,cap,cur,hv,hg,(zbQ _ _ _ _ (show g≠E by omega)).trans hh,r⟩
theorem zrs{x:List Int}{i:Nat}{Z:Int}(h:x[i]?=some Z):dA (x.take i)++[.int .i64 Z]=dA (x.take (i+1)):=by
 unfold dA;rw[List.take_add_one,h];simp
theorem zif{w W W':World}{R base size n:Nat}{e:TypeId}{v:Value}{xs:List Value}(h:w.grownBy W (some R))(hr:W.ownsRow base e size v n xs)(hb:w.heap.size<=base)(hg:W.grownBy W' v.ownBlock):w.grownBy W' (some R):=by
 rcases fB hr with ⟨rfl,_⟩|⟨g,cap,rfl⟩
 ·exact⟨hg.os.trans h.os,hg.tape.trans h.tape,hg.output.trans h.output,zbH h.size hg.size,fun k hk hne=>(hg.block k (Nat.lt_of_lt_of_le hk h.size) (by simp[Value.ownBlock])).trans (h.block k hk hne)⟩
 ·have hbg:=(iX hr).1;exact⟨hg.os.trans h.os,hg.tape.trans h.tape,hg.output.trans h.output,zbH h.size hg.size,fun k hk hne=>(hg.block k (Nat.lt_of_lt_of_le hk h.size) (by simp[Value.ownBlock];omega)).trans (h.block k hk hne)⟩
def zyw(R:Nat)(s:ByteArray)(x:List Int)(q:Nat)(c:Int)(E:Nat)(w wr:World)(V:Value)(i:Nat):Prop :=
 oh wr E 6 ⟨#[]⟩ V/\wr.ownsRow (E+1) 3 1 V i (dA (x.take i))/\bL wr R s q c/\w.grownBy wr (some R)/\bg wr w.heap.size
theorem zvc{R p:Nat}{s:ByteArray}{w:World}(h:bL w R s p 0)(hs:s.size<=50000)(fI:rd s p=34) :
  Calls Tryz.prog 118 #[.pointer (some ⟨R,0,none⟩),.bool false] w (ME false R s p w):=by
 obtain⟨i0,hi0,hi1⟩:=Option.map_eq_some_iff.1 Om;obtain⟨hz0,hz1,hz2'⟩:i0.zero=some (.int .i64 0)/\i0.size=1/\i0.bytes=8:=by simpa using hi1
 clear hi1;have hR:=h.lt;have HR:=hh9 (fG w);have HA:=hh9 (h.alloc (.cells #[.int .i64 0,.string ⟨#[]⟩,.slice none 0 0,.int .i64 0,.int .i64 0,.slice none 0 0] 29));have HG:=hh9 (World.grownBy_alloc w (.cells #[.int .i64 0,.string ⟨#[]⟩,.slice none 0 0,.int .i64 0,.int .i64 0,.slice none 0 0] 29) (some R));have qj:=hh9 fI;clear h fI;go_enter Tryz.func118,Tryz.ntmps118;go_wp2_with fail
 refine(zlt HA.out hs qj.out).mono ?_;rintro e w2 ⟨x,q,c,hend,hx,hl,rfl,ha,hg⟩;have aU:=hh9 hend;have hz2:w.heap.size+1<=w2.heap.size:=by have:=hg.size;simp at this;omega
 have HA2:=hh9 ha;have HG2:=hh9 (HG.out.trans hg);have HR2:=hh9 (bG HR.out hg (by omega));have hsz:=eP x;have hget:=Sl hx;obtain⟨E,hE⟩:∃ E,E=w2.heap.size:=⟨_,rfl⟩
 rw[<- hE]at hz2;have HE:=hh9 hE;obtain⟨W,hW⟩:∃ W,W=(w2.alloc (.cells #[.int .i64 0,.string ⟨#[]⟩,.slice none 0 0,.int .i64 0,.int .i64 0,.slice none 0 0] 29)).setRow E (XV.arr ⟨5,⟨#[]⟩,.slice none 0 0,0,0,.slice none 0 0⟩):=⟨_,rfl⟩
 have PE:Hid (oh W E 5 ⟨#[]⟩ (.slice none 0 0)):=by rw[hW,hE];exact wF (fG w2) _
 have PG:Hid (bL W R s q c):=by rw[hW];exact(HA2.out.alloc _).aj (by omega) _
 have PI:Hid (w.grownBy W (some R)):=by rw[hW];exact dY (dn HG2.out _) (by omega) _
 have PK:Hid (bg W w.heap.size):=by rw[hW];exact Ai (lV HR2.out _) _ (by omega)
 have HW:=hh9 hW;by_cases hne:x=[]
 ·subst hne
  have ay:Hid (ME false R s p w (.returned (XV.val ⟨5,⟨#[]⟩,.slice none 0 0,0,0,.slice none 0 0⟩)) (W.setRow w.heap.size (XV.arr ⟨5,⟨#[]⟩,.slice none 0 0,0,0,.slice none 0 0⟩))):=by
   refine⟨⟨5,⟨#[]⟩,.slice none 0 0,0,0,.slice none 0 0⟩,Bh [],q,c,Ah _ _ _ _ _ [],⟨rfl,PG.out.aj (by omega) _,dY PI.out (zbA _) _⟩,?_⟩;rcases aU.out with ⟨rfl,h1,h2⟩|⟨rfl,h1,h2⟩
   ·exact .inl ⟨rfl,h1,[],h2,by rw[if_neg (by simp)];rfl⟩
   ·exact .inr ⟨rfl,h1,h2⟩
  rw[GQ];clear ha hg hend hx hget hsz hE hW HA HG HR PG PI;go_wp2_with (refine bA rfl _ _ rfl w2.heap.size ⟨5,⟨#[]⟩,.slice none 0 0,0,0,.slice none 0 0⟩ rfl rfl (fG w2) rfl rfl ?_)
  rw[<- HE.out,<- HW.out];go_loopw [7] (fun v wr=>v=.int .i64 0/\wr=W) (fun _ _=>0)
  case atStart=>exact⟨rfl,rfl⟩
  case round =>
   obtain⟨rfl,rfl⟩:=hrel
   go_wp2_with (first
    |(refine mO rfl _ rfl E ⟨5,⟨#[]⟩,.slice none 0 0,0,0,.slice none 0 0⟩ rfl PE.out ?_)
    |(refine bA rfl _ _ rfl w.heap.size ⟨5,⟨#[]⟩,.slice none 0 0,0,0,.slice none 0 0⟩ rfl rfl PK.out rfl rfl ?_))
   exact bodyPost_ret_by (zag rfl _ _ w.heap.size ⟨5,⟨#[]⟩,.slice none 0 0,0,0,.slice none 0 0⟩ rfl PK.out) rfl ay.out
 ·have hpos:0<x.length:=List.length_pos_iff.2 hne;have Ux:=hh9 hne;obtain⟨S,hS⟩:∃ S,S=ak x:=⟨_,rfl⟩
  rw[<- hS]at hsz hget ⊢;obtain⟨n,hn⟩:∃ n,n=x.length:=⟨_,rfl⟩
  rw[<- hn]at hsz hl hpos;have hlist:S.toList.isEmpty=false:=Ug (by omega);have HN:=hh9 hn;have kE:=hh9 hsz;have qU:=hh9 hget;have hsm:S.size<=60000:=by omega
  have H0:Hid (zyw R s x q c E w (W.setCell ⟨E,0,none⟩ (.int .i64 6)) (.slice none 0 0) 0) :=
   ⟨PE.out.kind 6,qdy _ _ _ _,PG.out.kI (by omega) _ _,II PI.out (by omega) _ _,MF PK.out (by omega) _ _⟩
  obtain⟨k0,k1,k2,l0,l1,l2⟩:=PE.out.cells;clear ha hg hend hx hS hn hget hne hE hW HA HG HR PG PI PK PE;go_wp2_with (refine bA rfl _ _ rfl w2.heap.size ⟨5,⟨#[]⟩,.slice none 0 0,0,0,.slice none 0 0⟩ rfl rfl (fG w2) rfl rfl ?_)
  rw[<- HE.out,<- HW.out];go_loopw [7] (fun v wr=>v=.int .i64 0/\wr=W) (fun _ _=>0)
  case atStart=>exact⟨rfl,rfl⟩
  case round =>
   obtain⟨rfl,rfl⟩:=hrel;go_wp2_with fail
   clear k0 k1 k2 l0 l1 l2;go_loopw [8] (fun v wr=>∃ (i:Nat) (V:Value),v=.int .i64 i/\i<=n/\Hid (zyw R s x q c E w wr V i)) (fun v _=>n-(intOf v).toNat)
   case atStart=>exact⟨0,_,rfl,by omega,H0⟩
   case round =>
    clear H0;obtain⟨i,V,rfl,hi,HI⟩:=hrel;obtain⟨he,hrow,ha,hg,hr⟩:=HI.out;by_cases hlt:i<n
    ·have hss:i<S.size:=by omega
     have hxi:=qU.out i hss;have hRE:w.heap.size<E:=by omega
     have hEl:=he.lt;obtain⟨Z,hZ⟩:∃ z,((S[i].toNat:Nat):Int)=z:=⟨_,rfl⟩
     have rV:0<=Z/\Z<=255:=by have:=S[i].toNat_lt;omega
     have hwb:IntKind.i64.wrap Z=Z:=IntWalk.i64_in _ ⟨by omega,by omega⟩;have mY:Hid (dA (x.take i)++[.int .i64 Z]=dA (x.take (i+1))):=zrs (by rw[<- hZ];exact hxi);obtain⟨c0,c1,c2,z0,z1,z2⟩:=he.cells;obtain⟨f0,f1,f2,g0,g1,g2⟩:=(he.kept (World.grownBy_alloc wr (.cells #[.int .i64 Z] 3) none) (by simp)).cells;have oD:Hid (oh (wr.alloc (.cells #[.int .i64 Z] 3)).drew E 6 ⟨#[]⟩ V):=he.kept (bY (World.grownBy_alloc wr (.cells #[.int .i64 Z] 3) none) 1) (by simp);have Ep:Hid (bL (wr.alloc (.cells #[.int .i64 Z] 3)).drew R s q c):=ha.alloc _;have rM:Hid (w.grownBy (wr.alloc (.cells #[.int .i64 Z] 3)).drew (some R)):=bY (dn hg _) 1;have HRR:Hid (bg (wr.alloc (.cells #[.int .i64 Z] 3)).drew w.heap.size):=lV hr _;have cO:=hh9 hrow;have jZ:Hid ((wr.alloc (.cells #[.int .i64 Z] 3)).drew.ownsRow (E+1) 3 1 V i (dA (x.take i))):=(hrow.alloc _).drew;have HVE:=hh9 (Gh hrow (E:=E) (by omega));have HVR:=hh9 (Gh hrow (E:=R) (by omega));have HVW:=hh9 (Gh hrow (E:=w.heap.size) (by omega));clear he ha hg hr hxi hrow HI;go_wp2_with fail
     go_region_law ((refine step_append_lies _ (by rfl) _ _ _ (by rfl) (E+1) 3 i0 _ 1 8 Tryz.underlying26 hi0 hz0 hz1 hz2' rfl (by omega) V i (dA (x.take i)) (by rfl) jZ.out ⟨wr.heap.size,0,none⟩ 1 1 [.int .i64 Z] (by rfl) (by rfl) (World.news_of_block (cs:=#[.int .i64 Z]) (t:=3) (fr:=(0,0)) (zbO wr _)) (by simp[Value.oneCell']) (by omega) (by unfold maxLen;omega) (by omega) (by simp;omega) (wr.heap.size+1) (by simp) ?_;intro gg cap w1 hown1 hgrow hat Ey;have he1:=oD.out.kept hgrow HVE.out;obtain⟨v0,v1,v2,r0,r1,r2⟩:=he1.cells;have Az:=hh9 he1;have HA1:=hh9 (Ep.out.kept hgrow HVR.out);have aT:=hh9 (zif rM.out jZ.out (by omega) hgrow);have HR1:=hh9 (HRR.out.kept (hgrow.block _ HRR.out.lt HVW.out));have jv:=hh9 hown1;clear he1 hown1 hgrow hat))
     all_goals
      go_wp2_with fail
      go_roundw
      case rel=>exact⟨i+1,_,by go_num,by omega,Az.out.nums _,by rw[<- mY.out];exact qdz jv.out (by omega) _ _,HA1.out.kI (by omega) _ _,II aT.out (by omega) _ _,MF HR1.out (by omega) _ _⟩
      case measure=>simp[intOf];omega
    ·have hin:i=n:=by omega
     have oD:=hh9 he;have HRR:=hh9 hr;have H2:Hid (V.oneCell'=true):=by rcases fB hrow with ⟨rfl,_⟩|⟨g,cap,rfl⟩<;>exact rfl
     have ay:Hid (ME false R s p w (.returned (XV.val ⟨6,⟨#[]⟩,V,0,0,.slice none 0 0⟩)) (wr.setRow w.heap.size (XV.arr ⟨6,⟨#[]⟩,V,0,0,.slice none 0 0⟩))):=by
      have hrow2:wr.ownsRow (E+1) 3 1 V x.length (dA x):=by
       have:=hrow;rw[hin,HN.out,List.take_length]at this;exact this
      refine⟨⟨6,⟨#[]⟩,V,0,0,.slice none 0 0⟩,.mk 6 [] x 0 0 [],q,c,?_,⟨rfl,ha.aj (by omega) _,dY hg (zbA _) _⟩,?_⟩
      ·exact((Jk (P:=fun b=>E+1<=b) 6 hrow2 (fun b hb=>hb)).aj (fun b hb=>by omega) _).weak (fun b hb _=>by omega)
      ·rcases aU.out with ⟨rfl,h1,h2⟩|⟨rfl,h1,h2⟩
       ·exact .inl ⟨rfl,h1,x,h2,by rw[if_neg (by simp),Yl Ux.out]⟩
       ·exact .inr ⟨rfl,h1,h2⟩
     clear he ha hg hr hrow HI hlt;subst hin
     go_wp2_with (first
      |(refine mO rfl _ rfl E ⟨6,⟨#[]⟩,V,0,0,.slice none 0 0⟩ rfl oD.out ?_)
      |(refine bA rfl _ _ rfl w.heap.size ⟨6,⟨#[]⟩,V,0,0,.slice none 0 0⟩ rfl rfl HRR.out H2.out rfl ?_))
     exact bodyPost_ret_by (zag rfl _ _ w.heap.size ⟨6,⟨#[]⟩,V,0,0,.slice none 0 0⟩ rfl HRR.out) rfl ay.out
end Go.Proofs.YtahibnnhjahmnaaGreatDoor
