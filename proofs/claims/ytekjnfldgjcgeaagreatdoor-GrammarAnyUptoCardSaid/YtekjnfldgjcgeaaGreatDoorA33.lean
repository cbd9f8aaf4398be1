/- Part 33 of what the laws of the grammar rest on. -/
import Derived.Test.YtekjnfldgjcgeaaGreatDoorA32
import Derived.Deep.AppendLies
set_option linter.all false
set_option maxRecDepth 100000
set_option maxHeartbeats 8000000
namespace Go.Proofs.YtekjnfldgjcgeaaGreatDoor
open Go.RowKit
def zx1 (fold:Bool) (R:Nat) (s:ByteArray) (p:Nat) (w:World) (e:Ending) (w':World):Prop :=
 ∃ (x:XV) (t:Tree) (q:Nat) (c:Int),TreeAt w' (fun b=>w.heap.size<=b) x t/\GivesY R s x.val q c w e w' /\
  ((c=0/\q<=s.size/\∃ xs,zb2 (rd s) p=.ok xs q/\t=(if fold=true then zmf xs else litT xs true))\/(c=20/\q<=s.size+1/\zb2 (rd s) p=.err 20))
def EAt (W:World) (E:Nat) (k:Int) (T:ByteArray) (v:Value):Prop:=W.heap[E]?=some (.cells #[.int .i64 k,.string T,v,.int .i64 0,.int .i64 0,.slice none 0 0] 35 (0,0))
theorem EAt.lt {W:World} {E:Nat} {k:Int} {T:ByteArray} {v:Value} (h:EAt W E k T v):E<W.heap.size:=(Array.getElem?_eq_some_iff.1 h).1
theorem EAt.text {W:World} {E:Nat} {k:Int} {T:ByteArray} {v:Value} (h:EAt W E k T v) (T':ByteArray):EAt (W.setCell ⟨E,1,none⟩ (.string T')) E k T' v:=by
 unfold EAt at h ⊢
 unfold World.setCell
 simp only [Array.getElem?_modify,h]
 simp
theorem EAt.kind {W:World} {E:Nat} {k:Int} {T:ByteArray} {v:Value} (h:EAt W E k T v) (k':Int):EAt (W.setCell ⟨E,0,none⟩ (.int .i64 k')) E k' T v:=by
 unfold EAt at h ⊢
 unfold World.setCell
 simp only [Array.getElem?_modify,h]
 simp
theorem EAt.nums {W:World} {E:Nat} {k:Int} {T:ByteArray} {v:Value} (h:EAt W E k T v) (v':Value):EAt (W.setCell ⟨E,2,none⟩ v') E k T v':=by
 unfold EAt at h ⊢
 unfold World.setCell
 simp only [Array.getElem?_modify,h]
 simp
theorem EAt.cells {W:World} {E:Nat} {k:Int} {T:ByteArray} {v:Value} (h:EAt W E k T v):W.cell? ⟨E,0,none⟩=some (.int .i64 k)/\W.cell? ⟨E,1,none⟩=some (.string T)/\W.cell? ⟨E,2,none⟩=some v /\
  W.frozen? ⟨E,0,none⟩=false/\W.frozen? ⟨E,1,none⟩=false/\W.frozen? ⟨E,2,none⟩=false:=by
 unfold EAt at h
 simp [World.cell?,World.frozen?,h]
theorem EAt.kept {W W':World} {E:Nat} {k:Int} {T:ByteArray} {v:Value} {row:Option Nat} (h:EAt W E k T v) (hg:W.grownBy W' row) (hne:some E≠row):EAt W' E k T v:=(hg.block E h.lt hne).trans h
theorem zcz {w w':World} {R:Nat} (h:w.grownBy w' (some R)) {E:Nat} (hE:w.heap.size<=E) (k:Nat) (v:Value):w.grownBy (w'.setCell ⟨E,k,none⟩ v) (some R) :=
 ⟨h.os,h.tape,h.output,by simpa [World.setCell] using h.size,fun i hi hr=>(Below.heap_setCell _ _ _ _ (fun e=>by simp at e;omega)).trans (h.block i hi hr)⟩
theorem zkr {W:World} {g:Nat} (hr:Res0 W g) {E:Nat} (hne:g≠E) (k:Nat) (v:Value):Res0 (W.setCell ⟨E,k,none⟩ v) g :=
 hr.kept (Below.heap_setCell _ _ _ _ (fun e=>hne (by simpa using e)))
theorem AtY.set_new {w:World} {R:Nat} {s:ByteArray} {p:Nat} {c:Int} (h:AtY w R s p c) {E:Nat} (hne:R≠E) (k:Nat) (v:Value):AtY (w.setCell ⟨E,k,none⟩ v) R s p c :=
 (Below.heap_setCell _ _ _ _ (fun e=>hne (by simpa using e))).trans h
def EndY (s:ByteArray) (p:Nat) (x:List Int) (q:Nat) (c:Int):Prop:=(c=0/\q<=s.size/\zb2 (rd s) p=.ok x q)\/(c=20/\q<=s.size+1/\zb2 (rd s) p=.err 20)
theorem zx2 {s:ByteArray} {p q:Nat} {x:List Int} (h:zb2 (rd s) p=.ok x q):q<=s.size:=by
 unfold zb2 at h
 split at h
 ·split at h
  ·rename_i h1 h2
   have:=zbu (by omega) h2
   cases h
   omega
  ·cases h
 ·cases h
theorem zks {R p:Nat} {s:ByteArray} {w:World} (h:AtY w R s p 0) (hs:s.size<=50000) (h34:rd s p=34) :
  Calls Tryz.prog 141 #[.pointer (some ⟨R,0,none⟩)] w fun e w'=>∃ (x:List Int) (q:Nat) (c:Int),EndY s p x q c/\(∀ c∈x,0<=c/\c<128)/\x.length<=60000/\GivesY R s (.string (za3 x)) q c w e w':=by
 refine (zqe h hs h34).mono ?_
 rintro e w' (⟨x,q,hq,hx,hl,hg⟩ | ⟨hq,x,q,hqs,hx,hl,hg⟩)
 ·exact ⟨x,q,0,.inl ⟨rfl,zx2 hq,hq⟩,hx,hl,hg⟩
 ·exact ⟨x,q,20,.inr ⟨rfl,hqs,hq⟩,hx,hl,hg⟩
def zx3 (R:Nat) (s:ByteArray) (x:List Int) (q:Nat) (c:Int) (E:Nat) (w wr:World) (T:ByteArray) (i:Nat):Prop :=
 T=za3 ((x.take i).map low)/\EAt wr E 5 T (.slice none 0 0)/\AtY wr R s q c/\w.grownBy wr (some R)/\Res0 wr w.heap.size
theorem qa7 {x:List Int} {i:Nat} {Z:Int} (h:x[i]?=some Z):za3 ((x.take i).map low)++za3 [low Z]=za3 ((x.take (i+1)).map low):=by
 rw [znb,List.take_add_one,h]
 simp
theorem zm7 {R p:Nat} {s:ByteArray} {w:World} (h:AtY w R s p 0) (hs:s.size<=50000) (h34:rd s p=34) :
  Calls Tryz.prog 116 #[.pointer (some ⟨R,0,none⟩),.bool true] w (zx1 true R s p w):=by
 have hR:=h.lt
 have HR:=hh9 (zav w)
 have HA:=hh9 (h.alloc (.cells #[.int .i64 0,.string ⟨#[]⟩,.slice none 0 0,.int .i64 0,.int .i64 0,.slice none 0 0] 35))
 have HG:=hh9 (World.grownBy_alloc w (.cells #[.int .i64 0,.string ⟨#[]⟩,.slice none 0 0,.int .i64 0,.int .i64 0,.slice none 0 0] 35) (some R))
 have H34:=hh9 h34
 clear h h34
 go_enter Tryz.func116,Tryz.ntmps116
 go_wp2_with fail
 refine (zks HA.out hs H34.out).mono ?_
 rintro e w2 ⟨x,q,c,hend,hx,hl,rfl,ha,hg⟩
 have HEND:=hh9 hend
 have hz2:w.heap.size+1<=w2.heap.size:=by have:=hg.size;simp at this;omega
 have HA2:=hh9 ha
 have HG2:=hh9 (HG.out.trans hg)
 have HR2:=hh9 (za8 HR.out hg (by omega))
 have hsz:=za9 x
 have hget:=zk3 hx
 obtain ⟨S,hS⟩:∃ S,S=za3 x:=⟨_,rfl⟩
 rw [<- hS] at hsz hget ⊢
 obtain ⟨n,hn⟩:∃ n,n=x.length:=⟨_,rfl⟩
 rw [<- hn] at hsz hl
 have HN:=hh9 hn
 have HSZ:=hh9 hsz
 have HGET:=hh9 hget
 have hsm:S.size<=60000:=by omega
 obtain ⟨E,hE⟩:∃ E,E=w2.heap.size:=⟨_,rfl⟩
 rw [<- hE] at hz2
 have HE:=hh9 hE
 clear ha hg hend hx hS hn hget hE HA HG HR
 go_wp2_with (refine za6 rfl _ _ rfl w2.heap.size ⟨5,⟨#[]⟩,.slice none 0 0,0,0,.slice none 0 0⟩ rfl rfl (zav w2) rfl rfl ?_)
 rw [<- HE.out]
 have H0:Hid (zx3 R s x q c E w ((w2.alloc (.cells #[.int .i64 0,.string ⟨#[]⟩,.slice none 0 0,.int .i64 0,.int .i64 0,.slice none 0 0] 35)).setRow E (XV.arr ⟨5,⟨#[]⟩,.slice none 0 0,0,0,.slice none 0 0⟩)) ⟨#[]⟩ 0):=by
  rw [HE.out]
  exact ⟨rfl,zdn (zav w2) _,(HA2.out.alloc _).set_row (by have:=HE.out;omega) _,zae (zao HG2.out _) (by have:=HE.out;omega) _,zew (zaz HR2.out _) _ (by have:=HE.out;omega)⟩
 go_loopw [7] (fun v wr=>∃ (i:Nat) (T:ByteArray),v=.int .i64 i/\i<=n/\Hid (zx3 R s x q c E w wr T i)) (fun v _=>n-(intOf v).toNat)
 case atStart=>exact ⟨0,_,rfl,by omega,H0⟩
 case round =>
  clear H0
  obtain ⟨i,T,rfl,hi,HI⟩:=hrel
  obtain ⟨hT,he,ha,hg,hr⟩:=HI.out
  have hTs:T.size<=60000:=by rw [hT,za9];simp;omega
  by_cases hlt:i<n
  ·have hss:i<S.size:=by omega
   have hxi:=HGET.out i hss
   obtain ⟨Z,hZ⟩:∃ z,((S[i].toNat:Nat):Int)=z:=⟨_,rfl⟩
   have hZr:0<=Z/\Z<=255:=by have:=S[i].toNat_lt;omega
   have HZ:=hh9 hZ
   have HXI:Hid (za3 ((x.take i).map low)++za3 [low Z]=za3 ((x.take (i+1)).map low)):=qa7 (by rw [<- hZ];exact hxi)
   have kc:=fun (W:World)=>zna W (low Z) (zhk hZr.1 hZr.2).1 (zhk hZr.1 hZr.2).2
   have kd:∀ W:World,(convert 100 9 (.slice (some ⟨W.heap.size,0,none⟩) 1 1)).run Tryz.prog (W.alloc (.cells #[.int .u8 (low Z)] 5)).drew=.ok (.string (za3 [low Z])) (W.alloc (.cells #[.int .u8 (low Z)] 5)).drew:=fun W=>kc W.drew
   have hT3:(za3 [low Z]).size=1:=rfl
   have hov:¬ 9223372036854775807<T.size+1:=by omega
   obtain ⟨c0,c1,c2,z0,z1,z2⟩:=he.cells
   obtain ⟨f0,f1,f2,g0,g1,g2⟩:=(he.kept (World.grownBy_alloc wr (.cells #[.int .u8 (low Z)] 5) none) (by simp)).cells
   have HEE:=hh9 he
   have HAA:=hh9 ha
   have HGG:=hh9 hg
   have HRR:=hh9 hr
   have HT:=hh9 hT
   clear he ha hg hr hT hxi
   go_wp2_with fail
   go_region_law (first | (go_simp;go_at_call 58;refine (zgi Z hZr.1 hZr.2 _).mono ?_;rintro e w' ⟨rfl,rfl⟩))
   all_goals
   go_wp2_with fail
   go_roundw
   case rel=>exact ⟨i+1,_,by go_num,by omega,by rw [HT.out,HXI.out],(HEE.out.kept (World.grownBy_alloc wr (.cells #[.int .u8 (low Z)] 5) none) (by simp)).text _,(HAA.out.alloc _).set_new (by have:=HAA.out.lt;omega) _ _,za5 (zcz (E:=E) (zao HGG.out (.cells #[.int .u8 (low Z)] 5)) (by omega) 1 (.string (T++za3 [low Z]))) 1,zkr (E:=E) (zaz HRR.out (.cells #[.int .u8 (low Z)] 5)) (by omega) 1 (.string (T++za3 [low Z]))⟩
   case measure=>simp [intOf];omega
  ·have hin:i=n:=by omega
   have HEE:=hh9 he
   have HAA:=hh9 ha
   have HGG:=hh9 hg
   have HRR:=hh9 hr
   have HFIN:Hid (zx1 true R s p w (.returned (XV.val ⟨5,T,.slice none 0 0,0,0,.slice none 0 0⟩)) (wr.setRow w.heap.size (XV.arr ⟨5,T,.slice none 0 0,0,0,.slice none 0 0⟩))):=by
    refine ⟨⟨5,T,.slice none 0 0,0,0,.slice none 0 0⟩,zmf x,q,c,?_,⟨rfl,ha.set_row (by omega) _,zae hg (Nat.le_refl _) _⟩,?_⟩
    ·rw [hT,hin,HN.out,List.take_length]
     exact zd4 _ _ _ _ _ _
    ·rcases HEND.out with ⟨rfl,h1,h2⟩ | ⟨rfl,h1,h2⟩
     ·exact .inl ⟨rfl,h1,x,h2,by rw [if_pos rfl]⟩
     ·exact .inr ⟨rfl,h1,h2⟩
   clear he ha hg hr hT hlt
   subst hin
   go_wp2_with (first
    | (refine zb8 rfl _ rfl E ⟨5,T,.slice none 0 0,0,0,.slice none 0 0⟩ rfl HEE.out ?_)
    | (refine za6 rfl _ _ rfl w.heap.size ⟨5,T,.slice none 0 0,0,0,.slice none 0 0⟩ rfl rfl HRR.out rfl rfl ?_))
   exact bodyPost_ret_by (zaj rfl _ _ w.heap.size ⟨5,T,.slice none 0 0,0,0,.slice none 0 0⟩ rfl HRR.out) rfl HFIN.out
theorem zer {W:World} {base size n:Nat} {e:TypeId} {v:Value} {xs:List Value} (h:W.ownsRow base e size v n xs) {E:Nat} (hE:E<base):some E≠v.ownBlock:=by
 rcases zan h with ⟨rfl,_⟩ | ⟨g,cap,rfl⟩
 ·simp [Value.ownBlock]
 ·have:=(zb0 h).1
  simp [Value.ownBlock]
  omega
theorem qcf (W:World) (base size:Nat) (e:TypeId):W.ownsRow base e size (.slice none 0 0) 0 []:=⟨by simp,.inl ⟨rfl,rfl⟩⟩
theorem qcg {W:World} {base size n:Nat} {e:TypeId} {v:Value} {xs:List Value} (h:W.ownsRow base e size v n xs) {E:Nat} (hE:E<base) (k:Nat) (u:Value):(W.setCell ⟨E,k,none⟩ u).ownsRow base e size v n xs:=by
 refine ⟨h.1,?_⟩
 rcases h.2 with h0 | ⟨g,cap,cur,hv,hg,hh,r⟩
 ·exact .inl h0
 ·exact .inr ⟨g,cap,cur,hv,hg,(Below.heap_setCell _ _ _ _ (show g≠E by omega)).trans hh,r⟩
theorem zqg {x:List Int} {i:Nat} {Z:Int} (h:x[i]?=some Z):zat (x.take i)++[.int .i64 Z]=zat (x.take (i+1)):=by
 unfold zat
 rw [List.take_add_one,h]
 simp
theorem zhl {w W W':World} {R base size n:Nat} {e:TypeId} {v:Value} {xs:List Value} (h:w.grownBy W (some R)) (hr:W.ownsRow base e size v n xs) (hb:w.heap.size<=base) (hg:W.grownBy W' v.ownBlock):w.grownBy W' (some R):=by
 rcases zan hr with ⟨rfl,_⟩ | ⟨g,cap,rfl⟩
 ·exact ⟨hg.os.trans h.os,hg.tape.trans h.tape,hg.output.trans h.output,Nat.le_trans h.size hg.size,fun k hk hne=>(hg.block k (Nat.lt_of_lt_of_le hk h.size) (by simp [Value.ownBlock])).trans (h.block k hk hne)⟩
 ·have hbg:=(zb0 hr).1
  exact ⟨hg.os.trans h.os,hg.tape.trans h.tape,hg.output.trans h.output,Nat.le_trans h.size hg.size,fun k hk hne=>(hg.block k (Nat.lt_of_lt_of_le hk h.size) (by simp [Value.ownBlock];omega)).trans (h.block k hk hne)⟩
def zx4 (R:Nat) (s:ByteArray) (x:List Int) (q:Nat) (c:Int) (E:Nat) (w wr:World) (V:Value) (i:Nat):Prop :=
 EAt wr E 6 ⟨#[]⟩ V/\wr.ownsRow (E+1) 3 1 V i (zat (x.take i))/\AtY wr R s q c/\w.grownBy wr (some R)/\Res0 wr w.heap.size
theorem ztt {R p:Nat} {s:ByteArray} {w:World} (h:AtY w R s p 0) (hs:s.size<=50000) (h34:rd s p=34) :
  Calls Tryz.prog 116 #[.pointer (some ⟨R,0,none⟩),.bool false] w (zx1 false R s p w):=by
 obtain ⟨i0,hi0,hi1⟩:=Option.map_eq_some_iff.1 zmy
 obtain ⟨hz0,hz1,hz2'⟩:i0.zero=some (.int .i64 0)/\i0.size=1/\i0.bytes=8:=by simpa using hi1
 clear hi1
 have hR:=h.lt
 have HR:=hh9 (zav w)
 have HA:=hh9 (h.alloc (.cells #[.int .i64 0,.string ⟨#[]⟩,.slice none 0 0,.int .i64 0,.int .i64 0,.slice none 0 0] 35))
 have HG:=hh9 (World.grownBy_alloc w (.cells #[.int .i64 0,.string ⟨#[]⟩,.slice none 0 0,.int .i64 0,.int .i64 0,.slice none 0 0] 35) (some R))
 have H34:=hh9 h34
 clear h h34
 go_enter Tryz.func116,Tryz.ntmps116
 go_wp2_with fail
 refine (zks HA.out hs H34.out).mono ?_
 rintro e w2 ⟨x,q,c,hend,hx,hl,rfl,ha,hg⟩
 have HEND:=hh9 hend
 have hz2:w.heap.size+1<=w2.heap.size:=by have:=hg.size;simp at this;omega
 have HA2:=hh9 ha
 have HG2:=hh9 (HG.out.trans hg)
 have HR2:=hh9 (za8 HR.out hg (by omega))
 have hsz:=za9 x
 have hget:=zk3 hx
 obtain ⟨E,hE⟩:∃ E,E=w2.heap.size:=⟨_,rfl⟩
 rw [<- hE] at hz2
 have HE:=hh9 hE
 obtain ⟨W,hW⟩:∃ W,W=(w2.alloc (.cells #[.int .i64 0,.string ⟨#[]⟩,.slice none 0 0,.int .i64 0,.int .i64 0,.slice none 0 0] 35)).setRow E (XV.arr ⟨5,⟨#[]⟩,.slice none 0 0,0,0,.slice none 0 0⟩):=⟨_,rfl⟩
 have HWE:Hid (EAt W E 5 ⟨#[]⟩ (.slice none 0 0)):=by rw [hW,hE];exact zdn (zav w2) _
 have HWA:Hid (AtY W R s q c):=by rw [hW];exact (HA2.out.alloc _).set_row (by omega) _
 have HWG:Hid (w.grownBy W (some R)):=by rw [hW];exact zae (zao HG2.out _) (by omega) _
 have HWR:Hid (Res0 W w.heap.size):=by rw [hW];exact zew (zaz HR2.out _) _ (by omega)
 have HW:=hh9 hW
 by_cases hne:x=[]
 ·subst hne
  have HFIN:Hid (zx1 false R s p w (.returned (XV.val ⟨5,⟨#[]⟩,.slice none 0 0,0,0,.slice none 0 0⟩)) (W.setRow w.heap.size (XV.arr ⟨5,⟨#[]⟩,.slice none 0 0,0,0,.slice none 0 0⟩))):=by
   refine ⟨⟨5,⟨#[]⟩,.slice none 0 0,0,0,.slice none 0 0⟩,zmf [],q,c,zd4 _ _ _ _ _ [],⟨rfl,HWA.out.set_row (by omega) _,zae HWG.out (Nat.le_refl _) _⟩,?_⟩
   rcases HEND.out with ⟨rfl,h1,h2⟩ | ⟨rfl,h1,h2⟩
   ·exact .inl ⟨rfl,h1,[],h2,by rw [if_neg (by simp)];rfl⟩
   ·exact .inr ⟨rfl,h1,h2⟩
  rw [zez]
  clear ha hg hend hx hget hsz hE hW HA HG HR HWA HWG
  go_wp2_with (refine za6 rfl _ _ rfl w2.heap.size ⟨5,⟨#[]⟩,.slice none 0 0,0,0,.slice none 0 0⟩ rfl rfl (zav w2) rfl rfl ?_)
  rw [<- HE.out,<- HW.out]
  go_loopw [7] (fun v wr=>v=.int .i64 0/\wr=W) (fun _ _=>0)
  case atStart=>exact ⟨rfl,rfl⟩
  case round =>
   obtain ⟨rfl,rfl⟩:=hrel
   go_wp2_with (first
    | (refine zb8 rfl _ rfl E ⟨5,⟨#[]⟩,.slice none 0 0,0,0,.slice none 0 0⟩ rfl HWE.out ?_)
    | (refine za6 rfl _ _ rfl w.heap.size ⟨5,⟨#[]⟩,.slice none 0 0,0,0,.slice none 0 0⟩ rfl rfl HWR.out rfl rfl ?_))
   exact bodyPost_ret_by (zaj rfl _ _ w.heap.size ⟨5,⟨#[]⟩,.slice none 0 0,0,0,.slice none 0 0⟩ rfl HWR.out) rfl HFIN.out
 ·have hpos:0<x.length:=List.length_pos_iff.2 hne
  have HNE:=hh9 hne
  obtain ⟨S,hS⟩:∃ S,S=za3 x:=⟨_,rfl⟩
  rw [<- hS] at hsz hget ⊢
  obtain ⟨n,hn⟩:∃ n,n=x.length:=⟨_,rfl⟩
  rw [<- hn] at hsz hl hpos
  have hlist:S.toList.isEmpty=false:=znc (by omega)
  have HN:=hh9 hn
  have HSZ:=hh9 hsz
  have HGET:=hh9 hget
  have hsm:S.size<=60000:=by omega
  have H0:Hid (zx4 R s x q c E w (W.setCell ⟨E,0,none⟩ (.int .i64 6)) (.slice none 0 0) 0) :=
   ⟨HWE.out.kind 6,qcf _ _ _ _,HWA.out.set_new (by omega) _ _,zcz HWG.out (by omega) _ _,zkr HWR.out (by omega) _ _⟩
  obtain ⟨k0,k1,k2,l0,l1,l2⟩:=HWE.out.cells
  clear ha hg hend hx hS hn hget hne hE hW HA HG HR HWA HWG HWR HWE
  go_wp2_with (refine za6 rfl _ _ rfl w2.heap.size ⟨5,⟨#[]⟩,.slice none 0 0,0,0,.slice none 0 0⟩ rfl rfl (zav w2) rfl rfl ?_)
  rw [<- HE.out,<- HW.out]
  go_loopw [7] (fun v wr=>v=.int .i64 0/\wr=W) (fun _ _=>0)
  case atStart=>exact ⟨rfl,rfl⟩
  case round =>
   obtain ⟨rfl,rfl⟩:=hrel
   go_wp2_with fail
   clear k0 k1 k2 l0 l1 l2
   go_loopw [8] (fun v wr=>∃ (i:Nat) (V:Value),v=.int .i64 i/\i<=n/\Hid (zx4 R s x q c E w wr V i)) (fun v _=>n-(intOf v).toNat)
   case atStart=>exact ⟨0,_,rfl,by omega,H0⟩
   case round =>
    clear H0
    obtain ⟨i,V,rfl,hi,HI⟩:=hrel
    obtain ⟨he,hrow,ha,hg,hr⟩:=HI.out
    by_cases hlt:i<n
    ·have hss:i<S.size:=by omega
     have hxi:=HGET.out i hss
     have hRE:w.heap.size<E:=by omega
     have hEl:=he.lt
     obtain ⟨Z,hZ⟩:∃ z,((S[i].toNat:Nat):Int)=z:=⟨_,rfl⟩
     have hZr:0<=Z/\Z<=255:=by have:=S[i].toNat_lt;omega
     have hwb:IntKind.i64.wrap Z=Z:=IntWalk.i64_in _ ⟨by omega,by omega⟩
     have HXI:Hid (zat (x.take i)++[.int .i64 Z]=zat (x.take (i+1))):=zqg (by rw [<- hZ];exact hxi)
     obtain ⟨c0,c1,c2,z0,z1,z2⟩:=he.cells
     obtain ⟨f0,f1,f2,g0,g1,g2⟩:=(he.kept (World.grownBy_alloc wr (.cells #[.int .i64 Z] 3) none) (by simp)).cells
     have HEE:Hid (EAt (wr.alloc (.cells #[.int .i64 Z] 3)).drew E 6 ⟨#[]⟩ V):=he.kept (za5 (World.grownBy_alloc wr (.cells #[.int .i64 Z] 3) none) 1) (by simp)
     have HAA:Hid (AtY (wr.alloc (.cells #[.int .i64 Z] 3)).drew R s q c):=ha.alloc _
     have HGG:Hid (w.grownBy (wr.alloc (.cells #[.int .i64 Z] 3)).drew (some R)):=za5 (zao hg _) 1
     have HRR:Hid (Res0 (wr.alloc (.cells #[.int .i64 Z] 3)).drew w.heap.size):=zaz hr _
     have HROW:=hh9 hrow
     have HROW2:Hid ((wr.alloc (.cells #[.int .i64 Z] 3)).drew.ownsRow (E+1) 3 1 V i (zat (x.take i))):=(hrow.alloc _).drew
     have HVE:=hh9 (zer hrow (E:=E) (by omega))
     have HVR:=hh9 (zer hrow (E:=R) (by omega))
     have HVW:=hh9 (zer hrow (E:=w.heap.size) (by omega))
     clear he ha hg hr hxi hrow HI
     go_wp2_with fail
     go_region_law ((refine step_append_lies _ (by rfl) _ _ _ (by rfl) (E+1) 3 i0 _ 1 8 Tryz.underlying32 hi0 hz0 hz1 hz2' rfl (by omega) V i (zat (x.take i)) (by rfl) HROW2.out ⟨wr.heap.size,0,none⟩ 1 1 [.int .i64 Z] (by rfl) (by rfl) (World.news_of_block (cs:=#[.int .i64 Z]) (t:=3) (fr:=(0,0)) (heap_alloc_new wr _)) (by simp [Value.oneCell']) (by omega) (by unfold maxLen;omega) (by omega) (by simp;omega) (wr.heap.size+1) (by simp) ?_;intro gg cap w1 hown1 hgrow hat hltg;have he1:=HEE.out.kept hgrow HVE.out;obtain ⟨v0,v1,v2,r0,r1,r2⟩:=he1.cells;have HE1:=hh9 he1;have HA1:=hh9 (HAA.out.kept hgrow HVR.out);have HG1:=hh9 (zhl HGG.out HROW2.out (by omega) hgrow);have HR1:=hh9 (HRR.out.kept (hgrow.block _ HRR.out.lt HVW.out));have HO1:=hh9 hown1;clear he1 hown1 hgrow hat))
     all_goals
      go_wp2_with fail
      go_roundw
      case rel=>exact ⟨i+1,_,by go_num,by omega,HE1.out.nums _,by rw [<- HXI.out];exact qcg HO1.out (by omega) _ _,HA1.out.set_new (by omega) _ _,zcz HG1.out (by omega) _ _,zkr HR1.out (by omega) _ _⟩
      case measure=>simp [intOf];omega
    ·have hin:i=n:=by omega
     have HEE:=hh9 he
     have HRR:=hh9 hr
     have H2:Hid (V.oneCell'=true):=by rcases zan hrow with ⟨rfl,_⟩ | ⟨g,cap,rfl⟩<;>exact rfl
     have HFIN:Hid (zx1 false R s p w (.returned (XV.val ⟨6,⟨#[]⟩,V,0,0,.slice none 0 0⟩)) (wr.setRow w.heap.size (XV.arr ⟨6,⟨#[]⟩,V,0,0,.slice none 0 0⟩))):=by
      have hrow2:wr.ownsRow (E+1) 3 1 V x.length (zat x):=by
       have:=hrow
       rw [hin,HN.out,List.take_length] at this
       exact this
      refine ⟨⟨6,⟨#[]⟩,V,0,0,.slice none 0 0⟩,.mk 6 [] x 0 0 [],q,c,?_,⟨rfl,ha.set_row (by omega) _,zae hg (Nat.le_refl _) _⟩,?_⟩
      ·exact ((zfr (P:=fun b=>E+1<=b) 6 hrow2 (fun b hb=>hb)).set_row (fun b hb=>by omega) _).weak (fun b hb _=>by omega)
      ·rcases HEND.out with ⟨rfl,h1,h2⟩ | ⟨rfl,h1,h2⟩
       ·exact .inl ⟨rfl,h1,x,h2,by rw [if_neg (by simp),zo7 HNE.out]⟩
       ·exact .inr ⟨rfl,h1,h2⟩
     clear he ha hg hr hrow HI hlt
     subst hin
     go_wp2_with (first
      | (refine zb8 rfl _ rfl E ⟨6,⟨#[]⟩,V,0,0,.slice none 0 0⟩ rfl HEE.out ?_)
      | (refine za6 rfl _ _ rfl w.heap.size ⟨6,⟨#[]⟩,V,0,0,.slice none 0 0⟩ rfl rfl HRR.out H2.out rfl ?_))
     exact bodyPost_ret_by (zaj rfl _ _ w.heap.size ⟨6,⟨#[]⟩,V,0,0,.slice none 0 0⟩ rfl HRR.out) rfl HFIN.out
end Go.Proofs.YtekjnfldgjcgeaaGreatDoor
