/- Part 20 of what the laws of the grammar rest on. -/
import Derived.Test.YtekjnfldgjcgeaaGreatDoorA11
import Derived.Test.YtekjnfldgjcgeaaGreatDoorA19
import Derived.Maps.OwnIn
import Derived.Shelf.RegionOpen
set_option linter.all false
set_option maxRecDepth 100000
set_option maxHeartbeats 8000000
namespace Go.Proofs.YtekjnfldgjcgeaaGreatDoor
open Go.RowKit Go.Shelf
attribute [local go_sem] Oper.semAt_some
def zbd (B0:Nat) (Ds:List Nat) (W:World):Prop:=Ds.Nodup/\∀ D∈Ds,B0<=D/\W.heap[D]?=some (.deferred (some []))
theorem zbd.nil (B0:Nat) (W:World):zbd B0 [] W:=⟨.nil,fun D h=>by cases h⟩
theorem zbd.lt {B0:Nat} {Ds:List Nat} {W:World} (h:zbd B0 Ds W) {D:Nat} (hD:D∈Ds):D<W.heap.size:=(Array.getElem?_eq_some_iff.1 (h.2 D hD).2).1
theorem zbd.kept {B0:Nat} {Ds:List Nat} {W W':World} (h:zbd B0 Ds W) (hk:∀ D,D<W.heap.size->B0<=D->W.heap[D]?=some (.deferred (some []))->W'.heap[D]?=W.heap[D]?):zbd B0 Ds W' :=
 ⟨h.1,fun D hD=>⟨(h.2 D hD).1,(hk D (h.lt hD) (h.2 D hD).1 (h.2 D hD).2).trans (h.2 D hD).2⟩⟩
theorem zbd.below {B0:Nat} {Ds:List Nat} {W W':World} (h:zbd B0 Ds W) (hb:Below W.heap.size W W'):zbd B0 Ds W':=h.kept fun D hl _ _=>hb.block D hl
theorem zbd.own {α:Type} {B0 B:Nat} {Ds:List Nat} (hB:∀ D∈Ds,D<B):OwnFrom B (fun (_:α) W=>zbd B0 Ds W):=by
 intro s W W' row h hg hr
 exact ⟨h.1,fun D hD=>⟨(h.2 D hD).1,(hg.block D (h.lt hD) (fun e=>by have:=hB D hD;have:=(hr D e.symm).1;omega)).trans (h.2 D hD).2⟩⟩
theorem zbd.push {B0:Nat} {Ds:List Nat} {W:World} {D:Nat} (h:zbd B0 Ds W) (hn:∀ E∈Ds,E<D) (h0:B0<=D) (hD:W.heap[D]?=some (.deferred (some []))):zbd B0 (D::Ds) W :=
 ⟨List.nodup_cons.2 ⟨fun hm=>by have:=hn D hm;omega,h.1⟩,fun E hE=>by
  rcases List.mem_cons.1 hE with rfl | hE
  ·exact ⟨h0,hD⟩
  ·exact h.2 E hE⟩
theorem zlx {F:Fence} {n:Nat} {fn:Func} {tmps:Array Value} {p b B0:Nat} {ty:TypeId} {q:Int} {R:Ending->World->Prop} {Ds:List Nat} {W:World}
  (hr:fn.results=#[.cell p ty]) (hty:∀ U:World,(isAgg ty).run Tryz.prog U=.ok false U) (hp:tmps.getD p undef=.pointer (some ⟨b,0,none⟩)) (hb:Go.Boxed W b ty (.int .i64 q)) (hM:zbd B0 Ds W)
  (hR:∀ W':World,W'.os=W.os->W'.tape=W.tape->W'.output=W.output->W'.heap.size=W.heap.size->(∀ k,k ∉ Ds->W'.heap[k]?=W.heap[k]?)->R (.returned (.int .i64 q)) W') :
  LeavesInM F n Tryz.prog fn tmps R (zn4 Ds) .returning W:=by
 refine zio Ds W hM.1 (fun D hD=>(hM.2 D hD).2) (fun W' h1 h2 h3 h4 h5=>⟨_,?_,hR W' h1 h2 h3 h4 h5⟩)
 have hbn:b ∉ Ds:=fun hb'=>by
  have h:=(hM.2 b hb').2
  rw [show W.heap[b]?=_ from hb] at h
  cases h
 have hb2:Go.Boxed W' b ty (.int .i64 q):=(h5 b hbn).trans hb
 have hc:=hb2.cell
 have hp':tmps[p]?.getD undef=.pointer (some ⟨b,0,none⟩):=by simpa using hp
 simp [results,hr,go_sem,hp',hc,hty,Result.andThen]
theorem zi5 {B0:Nat} {Ds:List Nat} {W W':World} (hM:zbd B0 Ds W) (h5:∀ k,k ∉ Ds->W'.heap[k]?=W.heap[k]?) {b:Nat} {c:Array Value} {t:TypeId} {z:Nat × Nat} (h:W.heap[b]?=some (.cells c t z)):W'.heap[b]?=W.heap[b]? :=
 h5 b fun hb=>by
  have h':=(hM.2 b hb).2
  rw [h] at h'
  cases h'
theorem zn5 {B0:Nat} {Ds:List Nat} {W W':World} (hM:zbd B0 Ds W) (h5:∀ k,k ∉ Ds->W'.heap[k]?=W.heap[k]?) {b:Nat} (h:b<B0):W'.heap[b]?=W.heap[b]? :=
 h5 b fun hb=>by
  have:=(hM.2 b hb).1
  omega
theorem zi6 {B0 n0:Nat} {Ds:List Nat} {W W':World} (hM:zbd B0 Ds W) (h1:W'.os=W.os) (h2:W'.tape=W.tape) (h3:W'.output=W.output) (h4:W'.heap.size=W.heap.size) (h5:∀ k,k ∉ Ds->W'.heap[k]?=W.heap[k]?) (hn:n0<=B0):Below n0 W W' :=
 ⟨h1,h2,h3,by omega,fun k hk=>zn5 hM h5 (by omega)⟩
theorem GAt.kept {W W':World} {base R m:Nat} {v:Value} {ys:List RV} {g:List GR} (h:GAt W base R m v ys g) (h1:W'.heap[R]?=W.heap[R]?) (h2:W'.heap[m]?=W.heap[m]?) (h3:∀ b,v.ownBlock=some b->W'.heap[b]?=W.heap[b]?):GAt W' base R m v ys g:=by
 obtain ⟨D,hD,hMG⟩:=h.map
 exact ⟨h1.trans h.blk,zd6 h.row h3,h.len,⟨D,zch hD h2,hMG⟩,h.name⟩
theorem zoi {w wr W':World} {base R m b3 bc:Nat} {vc:Value} {ysc:List RV} {v:Value} {ys:List RV} {g:List GR} {Ds:List Nat} (hR:R<w.heap.size) (hm:m<w.heap.size) (h:CS w wr base R m b3 bc vc ysc v ys g)
  (hM:zbd w.heap.size Ds (wr.setCell ⟨w.heap.size+1,0,none⟩ (.int .i64 0))) (h1:W'.os=wr.os) (h2:W'.tape=wr.tape) (h3:W'.output=wr.output) (h4:W'.heap.size=wr.heap.size)
  (h5:∀ k,k ∉ Ds->W'.heap[k]?=(wr.setCell ⟨w.heap.size+1,0,none⟩ (.int .i64 0)).heap[k]?) :
  (∃ v' ys',GAt W' base R m v' ys' g/\zfa W' ys' g)/\∀ n0,n0<=R->n0<=m->n0<=base->n0<=w.heap.size->Below n0 w W':=by
 have other:∀ b,b≠w.heap.size+1->(wr.setCell ⟨w.heap.size+1,0,none⟩ (.int .i64 0)).heap[b]?=wr.heap[b]?:=fun b hb=>heap_setCell_other _ _ _ _ hb
 have hkc:zap (fun _=>False) wr W':=⟨by omega,fun b c t z _ ht hb=>by
  have hne:b≠w.heap.size+1:=fun e=>by
   subst e
   have e:=Option.some.inj (hb.symm.trans h.res)
   simp at e
   rw [e.2.1] at ht
   exact absurd ht (by unfold KT;decide)
  exact ((zi5 hM h5 ((other b hne).trans hb)).trans (other b hne)).trans hb⟩
 refine ⟨⟨v,ys,h.gat.kept ((zn5 hM h5 hR).trans (other R (by omega))) ((zn5 hM h5 hm).trans (other m (by omega))) (fun b hb=>?_),h.ex.kept hkc⟩,fun n0 a1 a2 a3 a4=>?_⟩
 ·obtain ⟨cur,hcur⟩:=zbk h.gat.row hb
  have hne:=(h.old b hb).2.1
  exact (zi5 hM h5 ((other b hne).trans hcur)).trans (other b hne)
 ·exact ((h.bel n0 a1 a2 a3 a4).setCell (p:=⟨w.heap.size+1,0,none⟩) (by show n0<=w.heap.size+1;omega) _).trans (zi6 hM h1 h2 h3 (by simpa using h4) h5 a4)
theorem Compl.at {n i:Nat} {g:List GR} {r:GR} {Rr:Option (List GR)} (h:Compl n i g Rr) (hr:g[i]?=some r):(zbn g (zai r.expr)=none/\Rr=none)\/∃ n' g',n=n'+1/\zbn g (zai r.expr)=some g'/\Compl n' (i+1) g' Rr:=by
 cases h with
 | done h=>have:=(List.getElem?_eq_some_iff.1 hr).1;omega
 | fail h1 h2 =>
  rw [hr] at h1
  have e:=Option.some.inj h1
  subst e
  exact .inl ⟨h2,rfl⟩
 | step h1 h2 h3 =>
  rw [hr] at h1
  have e:=Option.some.inj h1
  subst e
  exact .inr ⟨_,_,rfl,h2,h3⟩
theorem zhb {g:List GR} {xs ys:List (List Int)} (h:xs <+: ys) (hn:zbn g xs=none):zbn g ys=none:=by
 obtain ⟨t,rfl⟩:=h
 rw [ze5,hn]
 rfl
theorem ETP.slices {W:World} {P:Nat->Prop} {X:XV} {t:Tree} (hE:ETP W P X t):(∃ a n c,X.ns=.slice a n c)/\∃ a n c,X.ks=.slice a n c:=by
 cases hE with
 | mk vs h0 hl h1 h2 h3 h4 =>
  constructor
  ·rcases h1 with ⟨_,a,cap,h⟩ | ⟨g',o',cap',h,_⟩
   ·exact ⟨_,_,_,h⟩
   ·exact ⟨_,_,_,h⟩
  ·rcases h2 with ⟨_,a,cap,h⟩ | ⟨g',o',cap',h,_⟩
   ·exact ⟨_,_,_,h⟩
   ·exact ⟨_,_,_,h⟩
theorem zep {B:Nat} {W W':World} (h:Below W.heap.size W W'):KeepsFrom B W W':=⟨h.size,fun k o _ hk _=>(h.block k (Array.getElem?_eq_some_iff.1 hk).1).trans hk⟩
theorem zi7:∀ (i:Nat) (r:GR),zbs[i]?=some r->dep r.expr<=9000/\(zai r.expr).length<=1000000:=fun i r h=>by
 have h:=List.mem_of_getElem? h
 unfold zbs at h
 simp only [List.mem_cons,List.not_mem_nil,or_false] at h
 rcases h with rfl | rfl | rfl | rfl | rfl | rfl | rfl | rfl | rfl | rfl | rfl | rfl | rfl | rfl | rfl | rfl<;>simp [alT,seT,spT,foT,nuT,rfT,dep,zai]
theorem zoj (pre:List NX) (x:NX):NX.vals (pre++[x])=NX.vals pre++[x.1]:=by unfold NX.vals;simp
theorem zgv {g0 g:List GR} {pre:List NX} {x:NX} (h:zbn g0 (NX.vals pre)=some g):zbn g0 (NX.vals (pre++[x]))=addM g x.1:=by
 rw [zoj,ze5,h]
 show (addM g x.1).bind _=_
 cases addM g x.1<;>rfl
theorem zq9 {w:World} {base R m n:Nat} {v:Value} {ys:List RV} {g:List GR} {Rr:Option (List GR)} (hG:GAt w base R m v ys g) (hex:zfa w ys g) (hR:R<base) (hm:m<base) (hne:R≠m) (hbase:base<=w.heap.size) (hC:Compl n 0 g Rr) (hlen:g.length+zce g<=1000000) :
  CallsIn Fence.wide 6 Tryz.prog 23 #[.pointer (some ⟨R,0,none⟩)] w (zoh base R m Rr w):=by
 have HG:=hh9 hG
 have HEX:=hh9 hex
 have HC:=hh9 hC
 have hvl:∀ b,v.ownBlock=some b->b<w.heap.size:=fun b hb=>by
  obtain ⟨cur,hcur⟩:=zbk hG.row hb
  exact (Array.getElem?_eq_some_iff.1 hcur).1
 have HVL:=hh9 hvl
 have HB0:Hid (Below w.heap.size w ((w.alloc (.cells #[.pointer (some ⟨R,0,none⟩)] 81)).alloc (.cells #[.int .i64 0] 26))):=((Below.refl _ _).alloc (Nat.le_refl _) _).alloc (by simp) _
 have bP:=(Boxed.new w 81 (.pointer (some ⟨R,0,none⟩))).alloc (.cells #[.int .i64 0] 26)
 have bE:=Boxed.new (w.alloc (.cells #[.pointer (some ⟨R,0,none⟩)] 81)) 26 (.int .i64 0)
 rw [World.size_alloc] at bE
 have HBP:=hh9 bP
 have HBE:=hh9 bE
 clear hG hex hC hvl bP bE
 refine callsIn_of_wp_marks Tryz.func23 rfl trivial ?_ rfl
 simp only [Tryz.ntmps23,List.size_toArray,List.length_cons,List.length_nil,Nat.reduceAdd,Nat.reduceSub,Array.replicate_succ,Array.replicate_zero,List.push_toArray,List.append_toArray,List.nil_append,List.cons_append]
 gi_wp2_with (refine ⟨trivial,?_⟩;gi_at_call 44;refine (callsIn_wide.2 (zzi _)).mono ?_;rintro e w1 ⟨vc,ysc,rfl,hcr,hb1⟩;obtain ⟨gc,capc,rfl⟩:=zq8 hcr;have HCR:=hh9 hcr;have HB1:=hh9 hb1;clear hcr hb1)
 have hz:((w.alloc (.cells #[.pointer (some ⟨R,0,none⟩)] 81)).alloc (.cells #[.int .i64 0] 26)).heap.size=w.heap.size+2:=by simp
 have hz1:w.heap.size+2<=w1.heap.size:=by
  have:=HB1.out.size
  rwa [hz] at this
 have hbA:Below w1.heap.size w1 (w1.alloc (.cells #[.slice (some ⟨gc,0,none⟩) 16 capc] 29)):=(Below.refl _ _).alloc (Nat.le_refl _) _
 have hB1:=za0 HB0.out HB1.out
 have hstart:CS w (w1.alloc (.cells #[.slice (some ⟨gc,0,none⟩) 16 capc] 29)) base R m w1.heap.size (w.heap.size+2) (.slice (some ⟨gc,0,none⟩) 16 capc) ysc v ys g:=by
  have hcr:=HCR.out
  rw [hz] at hcr
  have hgc:=zcd hcr.1 gc rfl
  have hb01:=HB1.out
  refine ⟨(hbA.block _ (by omega)).trans ((hb01.block _ (by rw [hz];omega)).trans HBP.out),(hbA.block _ (by omega)).trans ((hb01.block _ (by rw [hz];omega)).trans HBE.out),Boxed.new w1 _ _,hcr.below hbA,(HG.out.below hB1).below hbA,(HEX.out.kept (zap.below hB1)).kept (zap.below hbA),fun b hb hb'=>?_,fun b hb=>?_,fun n0 _ _ _ h4=>(za0 hB1 hbA).mono h4⟩
  ·have:=HVL.out b hb
   have:gc=b:=Option.some.inj hb'
   omega
  ·have:=HVL.out b hb
   omega
 have HSTART:=hh9 hstart
 clear hbA hB1 hstart hz
 refine wpIn_loop (fun a' wr=>∃ (u4 u10 u11 u12 u13 u14 u15 u16 u17 u18 u19 u20 u21 u22 u23 u24 u25 u26 u27:Value) (Ds:List Nat) (i:Nat) (v:Value) (ys:List RV) (g':List GR) (nl:Nat),(u4=.int .i64 i/\nl+i=n/\i<=1000000/\Hid (Compl nl i g' Rr)/\g'.length+zce g'<=1000000/\Hid (CS w wr base R m w1.heap.size (w.heap.size+2) (.slice (some ⟨gc,0,none⟩) 16 capc) ysc v ys g')/\Hid (zbd w.heap.size Ds wr))/\a'={ tmps:=#[.pointer (some ⟨R,0,none⟩),.pointer (some ⟨w.heap.size,0,none⟩),.pointer (some ⟨w.heap.size+1,0,none⟩),.pointer (some ⟨w1.heap.size,0,none⟩),u4,undef,undef,undef,undef,.slice (some ⟨gc,0,none⟩) 16 capc,u10,u11,u12,u13,u14,u15,u16,u17,u18,u19,u20,u21,u22,u23,u24,u25,u26,u27,undef,undef,undef,undef,undef,undef,undef,undef,undef,undef,undef,undef,undef,undef,undef,undef,undef,undef,undef,undef,undef,undef],defers:=zn4 Ds }) (fun a' _=>n-(intOf (a'.tmps.getD 4 undef)).toNat) ?_ ?_
 ·exact ⟨.int .i64 0,undef,undef,undef,undef,undef,undef,undef,undef,undef,undef,undef,undef,undef,undef,undef,undef,undef,undef,[],0,v,ys,g,n,⟨rfl,by omega,by omega,HC,hlen,HSTART,zbd.nil _ _⟩,rfl⟩
 ·rintro a' wr ⟨u4,u10,u11,u12,u13,u14,u15,u16,u17,u18,u19,u20,u21,u22,u23,u24,u25,u26,u27,Ds,i,v,ys,g',nl,⟨rfl,hnl,hi6,HCM,hlen',HCS,HM⟩,rfl⟩
  obtain ⟨va,vcap,rfl⟩:∃ a c,v=.slice a g'.length c:=zbj HCS.out.gat.row
  have p1:=HCS.out.box.cell
  obtain ⟨c0,c1,hRl⟩:=HCS.out.gat.cells
  by_cases hlt:i<g'.length
  ·have q1:decide ((i:Int)<(g'.length:Int))=true:=decide_eq_true (by omega)
   obtain ⟨Y,hY⟩:∃ y,ys[i]?=some y:=⟨_,List.getElem?_eq_getElem (by rw [HCS.out.gat.len];exact hlt)⟩
   obtain ⟨r,hr⟩:∃ y,g'[i]?=some y:=⟨_,List.getElem?_eq_getElem hlt⟩
   obtain ⟨hE,hdep,hnl6⟩:=HCS.out.ex i Y r hY hr
   obtain ⟨gb,hgb⟩:∃ gb,va=some ⟨gb,0,none⟩:=by
    rcases zan HCS.out.gat.row with ⟨_,h0⟩ | ⟨g1,cap1,h1⟩
    ·omega
    ·injection h1 with h1
     exact ⟨_,h1⟩
   subst hgb
   have CX:∀ (j:Nat) (u:Value),j<7->Y.cells[j]?=some u->wr.cell? ⟨gb,i*7+j,none⟩=some u:=fun j u hj hu=>zaq HCS.out.gat.row ((zct ys i j Y hY hj).trans hu)
   obtain ⟨nm,⟨k,tx,nv,lo,hi,kv⟩⟩:=Y
   obtain ⟨⟨na,nn,nc,hns⟩,ka,kn,kc,hks⟩:=hE.slices
   simp only [] at hns hks
   have hw3:w.heap.size+2<=wr.heap.size:=by have:=HCS.out.res.lt;omega
   subst hns hks
   have e1:=CX 1 _ (by omega) rfl
   have e2:=CX 2 _ (by omega) rfl
   have e3:=CX 3 _ (by omega) rfl
   have e4:=CX 4 _ (by omega) rfl
   have e5:=CX 5 _ (by omega) rfl
   have e6:=CX 6 _ (by omega) rfl
   simp only [] at e1 e2 e3 e4 e5 e6
   have HX:=hh9 (fun W=>zjr (w:=W) ⟨k,tx,.slice na nn nc,lo,hi,.slice ka kn kc⟩ rfl rfl)
   have hba:Below wr.heap.size wr (wr.alloc (xobj k lo hi tx (.slice na nn nc) (.slice ka kn kc))):=(Below.refl _ _).alloc (Nat.le_refl _) _
   have bX:BoxX (wr.alloc (xobj k lo hi tx (.slice na nn nc) (.slice ka kn kc))) wr.heap.size ⟨k,tx,.slice na nn nc,lo,hi,.slice ka kn kc⟩:=heap_alloc_new wr (xobj k lo hi tx (.slice na nn nc) (.slice ka kn kc))
   have hstop:=zfw (Bs:=wr.heap.size) (M:=fun _=>False) (P:=fun _=>True) (fun _ h=>h.elim) (fun _ _ h=>h) (fun h=>h) (hE.kept (P':=fun _=>True) (zap.below (M:=fun _=>False) hba) (fun b hb _=>⟨fun h=>h,trivial⟩)) bX (by omega)
   have hm3:m<wr.heap.size:=by obtain ⟨D,hD,_⟩:=HCS.out.gat.map;exact hD.lt
   have HNM:Hid (zai r.expr=zai r.expr):=rfl
   obtain ⟨NM,hNM⟩:∃ NM,NM=zai r.expr:=⟨_,rfl⟩
   rw [<- hNM] at hstop hnl6
   have HST:=hh9 hstop
   have HNM2:=hh9 hNM
   have HR:=hh9 hr
   have HBA:=hh9 hba
   unfold xobj at HX HST HBA
   clear CX bX hE hba hY hr hstop hNM HNM
   gi_wp2_with (refine ⟨trivial,?_⟩;gi_at_call 27;refine (callsIn_wide.2 (HX.out _)).mono ?_;rintro e w' ⟨rfl,rfl⟩)
   refine wpIn_rangeFunc_ownG rfl (by omega) (gf:=46) (lb:=#[.pointer (some ⟨wr.heap.size,0,none⟩)]) rfl trivial (enters_of Tryz.func46 (by kernel_rfl) rfl)
    HST.out zmq (fun W l o o' _ h ho _=>zap.put W l o o' h ho) (Below.refl _ _) (fun _=>rfl)
    (fun pre W=>AddI w base R m w1.heap.size (w.heap.size+2) (.slice (some ⟨gc,0,none⟩) 16 capc) ysc g' pre W/\zbd w.heap.size Ds W)
    (fun c pre W=>AddX w R m base g' c pre W/\zbd w.heap.size Ds W)
    (OwnFrom.and (qdi (by simp;omega) (by have:=HBA.out.size;omega)) (zbd.own (fun D hD=>by have:=HM.out.lt hD;simp;omega)))
    (fun c=>OwnFrom.and (qdj (by have:=HBA.out.size;omega) c) (zbd.own (fun D hD=>by have:=HM.out.lt hD;simp;omega)))
    ⟨⟨_,_,_,rfl,HCS.out.below HBA.out⟩,HM.out.below HBA.out⟩
    ?a1 ?assign ?body ?done ?stop
   case assign =>
    intro l x W K hK
    gi_wp2
    exact hK
   case body =>
    rintro l pre ⟨x,hx⟩ W ⟨⟨v2,ys2,g2,ha,hCS2⟩,hM2⟩ hlt2
    have HCS2:=hh9 hCS2
    have HM2:=hh9 hM2
    have HA:=hh9 ha
    have b1:=hCS2.box.cell
    have b3:=hCS2.core.cell
    have b4:=hCS2.gat.cells.2.1
    obtain ⟨D,hD,hMG⟩:=hCS2.gat.map
    have hkey:=zgd hx
    have hhas:=(hMG x hx).1
    have HX2:=hh9 hx
    clear hCS2 hM2 ha hMG
    cases hf:zay g2 x with
    | some j =>
     rw [hf] at hhas
     change Maps.has D (keyT x)=true at hhas
     gi_wp2_with (gi_at_lookup;refine wpListIn_lookup_own_ok_int _ rfl _ _ 57 rfl 9 3 .i64 zfx Tryz.underlying57 Tryz.underlying3 (zmr _) m g2.length D rfl hD _ _ rfl hkey ?_;intro c hcat hcw;rw [hhas])
     refine ⟨KeepsFrom.refl _ _,zap.refl _ _,⟨_,ys2,g2,?_,HCS2.out⟩,HM2.out⟩
     rw [zgv HA.out]
     unfold addM
     rw [show zay g2 x=some j from hf]
    | none =>
     rw [hf] at hhas
     change Maps.has D (keyT x)=false at hhas
     have HFI:=hh9 (fun U (h:zdg U (.slice (some ⟨gc,0,none⟩) 16 capc) ysc zbs)=>zrl (w:=U) h hx)
     obtain ⟨S,hS⟩:∃ S,S=za3 x:=⟨_,rfl⟩
     cases hcf:zay zbs x with
     | none =>
      rw [zey hcf] at HFI
      gi_wp2_with (first
       | (gi_at_lookup;refine wpListIn_lookup_own_ok_int _ rfl _ _ 57 rfl 9 3 .i64 zfx Tryz.underlying57 Tryz.underlying3 (zmr _) m g2.length D rfl hD _ _ rfl hkey ?_;intro c hcat hcw;rw [hhas])
       | (refine ⟨trivial,?_⟩;gi_at_call 9;refine (CallsIn.inRound l (callsIn_wide.2 (HFI.out _ HCS2.out.cr.rules))).mono ?_;rintro e W1 ⟨rfl,hb⟩;have HCS3:=hh9 (HCS2.out.below hb);have HB1:=hh9 hb;have b5:=HCS3.out.res.frozen;have b6:=HCS3.out.res.cell;clear hb))
      have hB3:w.heap.size+1<(wr.alloc (.cells #[.int .i64 k,.string tx,.slice na nn nc,.int .i64 lo,.int .i64 hi,.slice ka kn kc] 35)).heap.size:=by simp;omega
      have hM4:zbd w.heap.size Ds (W1.setCell ⟨w.heap.size+1,0,none⟩ (.int .i64 40)):=(HM2.out.below HB1.out).kept fun D hl h0 hD=>heap_setCell_other _ _ _ _ (fun e=>by
       subst e
       rw [show W1.heap[w.heap.size+1]?=_ from HCS3.out.res] at hD
       cases hD)
      refine ⟨(zep HB1.out).trans (KeepsFrom.of_grownBy (grownBy_setCell' W1 (w.heap.size+1) _) (fun b e=>by have:=Option.some.inj e;omega)),⟨rfl,?_,HCS3.out.res.set _,fun n0 a1 a2 a3 a4=>(HCS3.out.bel n0 a1 a2 a3 a4).setCell (p:=⟨w.heap.size+1,0,none⟩) (by show n0<=w.heap.size+1;omega) _⟩,hM4⟩
      rw [zgv HA.out]
      unfold addM
      rw [show zay g2 x=none from hf]
      show (match zay zbs x with | none=>none | some c=>(zbs[c]?).map fun r=>g2++[r])=none
      rw [hcf]
     | some j =>
      obtain ⟨⟨rc,hrc,hrn⟩,_⟩:=zbv.1 hcf
      rw [zeb hcf] at HFI
      have hj:j<16:=zmg hcf
      have q2:decide ((j:Int)<0)=false:=decide_eq_false (by omega)
      obtain ⟨Yc,hYc⟩:∃ y,ysc[j]?=some y:=⟨_,List.getElem?_eq_getElem (by rw [HCS2.out.cr.2.1];exact hj)⟩
      have hmix:Tryz.prog.follows .mixedOrders=true:=by kernel_rfl
      gi_wp2_with (first
       | (gi_at_lookup;refine wpListIn_lookup_own_ok_int _ rfl _ _ 57 rfl 9 3 .i64 zfx Tryz.underlying57 Tryz.underlying3 (zmr _) m g2.length D rfl hD _ _ rfl hkey ?_;intro c hcat hcw;rw [hhas])
       | (refine ⟨trivial,?_⟩;gi_at_call 9;refine (CallsIn.inRound l (callsIn_wide.2 (HFI.out _ HCS2.out.cr.rules))).mono ?_;rintro e W1 ⟨rfl,hb⟩;have HCS3:=hh9 (HCS2.out.below hb);have HB1:=hh9 hb;clear hb))
      have hbd1:Below W1.heap.size W1 W1.drew:=za7 (Below.refl _ _) 1
      have HCS4:=hh9 (HCS3.out.below hbd1)
      have hbW:Below W.heap.size W W1.drew:=za0 HB1.out hbd1
      have hsz1:=HB1.out.size
      have hwW:=HCS2.out.res.lt
      have hm4:m<W1.heap.size:=by obtain ⟨D,hD,_⟩:=HCS3.out.gat.map;exact hD.lt
      obtain ⟨hyn,hyo,hyE⟩:=HCS4.out.cr.2.2 j Yc rc hYc hrc
      have hok:=zog j rc hrc
      have hEc:ETP W1.drew (fun _=>True) Yc.expr rc.expr/\dep rc.expr<=9000/\(zai rc.expr).length<=1000000:=⟨hyE.kept (M:=fun _=>False) (zap.refl _ _) (fun b hb _=>⟨id,trivial⟩),zi7 j rc hrc⟩
      have h16:zbs.length=16:=by decide +kernel
      have hrow:=HCS3.out.cr.1
      rw [h16] at hrow
      have CX:∀ (q:Nat) (u:Value),q<7->Yc.cells[q]?=some u->W1.cell? ⟨gc,j*7+q,none⟩=some u:=fun q u hq hu=>zaq hrow ((zct ysc j q Yc hYc hq).trans hu)
      have hs1:=hyE.slices
      obtain ⟨nmc,⟨kk,txc,nvc,loc,hic,kvc⟩⟩:=Yc
      obtain ⟨⟨na',nn',nc',hns⟩,ka',kn',kc',hks⟩:=hs1
      simp only [] at hns hks
      subst hns hks
      have f0:=CX 0 _ (by omega) rfl
      have f1:=CX 1 _ (by omega) rfl
      have f2:=CX 2 _ (by omega) rfl
      have f3:=CX 3 _ (by omega) rfl
      have f4:=CX 4 _ (by omega) rfl
      have f5:=CX 5 _ (by omega) rfl
      have f6:=CX 6 _ (by omega) rfl
      rw [Nat.add_zero] at f0
      simp only [] at f0 f1 f2 f3 f4 f5 f6
      have d1:=HCS3.out.box.cell
      have d3:=HCS3.out.core.cell
      have hg2l:g2.length<=1000000:=by have:=zdv HA.out;omega
      have HADD:=hh9 (zvg (w:=W1.drew) HCS4.out.gat hR hm hne (by show base<=W1.heap.size;omega) ⟨nmc,⟨kk,txc,.slice na' nn' nc',loc,hic,.slice ka' kn' kc'⟩⟩ rc ⟨hyn,hyo⟩ (by rw [hrn];exact hf) hg2l rfl rfl)
      unfold RV.val RV.arr at HADD
      simp only [] at HADD
      have HEC:=hh9 hEc
      have HBW:=hh9 hbW
      clear CX hrow hyE hEc hbd1 hbW hyn hyo hok
      gi_region_with_o (first | (refine ⟨trivial,?_⟩;gi_at_call 42;refine (CallsIn.inRound l (callsIn_wide.2 HADD.out)).mono ?_;rintro e W2 ⟨rfl,v3,hG3,hK3,ho3,hat3,hb3⟩) | (gi_at_call 42;refine (CallsIn.inRound l (callsIn_wide.2 HADD.out)).mono ?_;rintro e W2 ⟨rfl,v3,hG3,hK3,ho3,hat3,hb3⟩))
      all_goals
       gi_wp2
       refine ⟨⟨?_,?_⟩,(zap.below HBW.out).trans hK3,⟨_,_,_,?_,HCS4.out.added (by omega) (by omega) (by omega) (by omega) HEC.out hG3 hK3 ho3 hat3 hb3⟩,?_⟩
       ·have:=hK3.1
        have:=HBW.out.size
        omega
       ·intro q o hq ho hoc
        have hql:=(Array.getElem?_eq_some_iff.1 ho).1
        have h1:=(HBW.out.block q hql).trans ho
        refine (ho3 q (by show q<W1.heap.size;omega) (by simp at hq;omega) (by simp at hq;omega) (fun e=>?_)).trans h1
        obtain ⟨cur,hcur⟩:=zbk HCS4.out.gat.row e
        rw [hcur] at h1
        have e:=Option.some.inj h1
        subst e
        cases hoc
       ·rw [zgv HA.out]
        unfold addM
        rw [show zay g2 x=none from hf]
        show (match zay zbs x with | none=>none | some c=>(zbs[c]?).map fun r=>g2++[r])=_
        rw [hcf]
        show (zbs[j]?).map _=_
        rw [hrc]
        rfl
       ·refine (HM2.out.below HBW.out).kept (fun D hl h0 hD=>ho3 D hl (by omega) (by omega) (fun e=>?_))
        obtain ⟨cur,hcur⟩:=zbk HCS4.out.gat.row e
        rw [hcur] at hD
        cases hD
   case done =>
    rintro D xs W hD hxs ⟨⟨v2,ys2,g2,ha,hCS2⟩,hM2⟩ hK
    rw [hxs,HNM2.out] at ha
    obtain ⟨n',g3,rfl,ha3,hC3⟩:=(HCM.out.at HR.out).resolve_left (fun h=>by rw [ha] at h;cases h.1)
    have e:=Option.some.inj (ha3.symm.trans ha)
    subst e
    have hbd:=zdv ha
    have hM3:=hM2.push (D:=D) (fun E hE=>by have:=HM.out.lt hE;simp at hD;omega) (by have:=HBA.out.size;simp at hD;omega) hK
    gi_wp2
    refine ⟨⟨_,_,_,_,_,_,_,_,_,_,_,_,_,_,_,_,_,_,_,D::Ds,i+1,v2,ys2,_,n',⟨by go_num,by omega,by omega,hh9 hC3,by omega,hh9 hCS2,hh9 hM3⟩,rfl⟩,?_⟩
    simp [intOf]
    omega
   case stop =>
    rintro D c pre W hD hpre ⟨⟨rfl,hnone,hbox,hbel⟩,hM2⟩ hK
    have hM3:=hM2.push (D:=D) (fun E hE=>by have:=HM.out.lt hE;simp at hD;omega) (by have:=HBA.out.size;simp at hD;omega) hK
    have hRn:Rr=none:=by
     rw [HNM2.out] at hpre
     rcases HCM.out.at HR.out with h | ⟨n',g3,_,ha3,_⟩
     ·exact h.2
     ·rw [zhb hpre hnone] at ha3
      cases ha3
    gi_wp2
    refine zlx (Ds:=D::Ds) rfl (fun U=>by kernel_rfl) rfl hbox hM3 (fun W' h1 h2 h3 h4 h5=>⟨fun _=>rfl,fun g1 hg1=>by (rw [hRn] at hg1;cases hg1),fun n0 a1 a2 a3 a4=>(hbel n0 a1 a2 a3 a4).trans (zi6 hM3 h1 h2 h3 h4 h5 a4)⟩)
  ·have hfin:nl=0/\Rr=some g':=by
    cases HCM.out with
    | done h=>exact ⟨rfl,rfl⟩
    | fail h1=>have:=(List.getElem?_eq_some_iff.1 h1).1;omega
    | step h1=>have:=(List.getElem?_eq_some_iff.1 h1).1;omega
   have p2:=HCS.out.res.cell
   have f2:=HCS.out.res.frozen
   have q1:decide ((i:Int)<(g'.length:Int))=false:=decide_eq_false (by omega)
   gi_wp2
   have hM3:zbd w.heap.size Ds (wr.setCell ⟨w.heap.size+1,0,none⟩ (.int .i64 0)):=HM.out.kept fun D hl h0 hD=>heap_setCell_other _ _ _ _ (fun e=>by
    subst e
    rw [show wr.heap[w.heap.size+1]?=_ from HCS.out.res] at hD
    cases hD)
   refine zlx rfl (fun U=>by kernel_rfl) rfl (HCS.out.res.set _) hM3 (fun W' h1 h2 h3 h4 h5=>?_)
   obtain ⟨z1,z2⟩:=zoi (by omega) (by omega) HCS.out hM3 h1 h2 h3 (by simpa using h4) h5
   exact ⟨fun h=>by (rw [hfin.2] at h;cases h),fun g1 hg1=>by (rw [hfin.2] at hg1;have e:=Option.some.inj hg1;subst e;exact ⟨rfl,z1⟩),z2⟩
theorem zok {w:World} {base R m n:Nat} {v:Value} {ys:List RV} {g:List GR} {Rr:Option (List GR)} (hG:GAt w base R m v ys g) (hex:zfa w ys g) (hR:R<base) (hm:m<base) (hne:R≠m) (hbase:base<=w.heap.size) (hC:Compl n 0 g Rr) (hlen:g.length+zce g<=1000000) :
  Calls Tryz.prog 23 #[.pointer (some ⟨R,0,none⟩)] w (zoh base R m Rr w):=(callsIn_wide (n:=6)).1 (zq9 hG hex hR hm hne hbase hC hlen)
end Go.Proofs.YtekjnfldgjcgeaaGreatDoor
