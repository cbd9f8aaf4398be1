/- Part 25 of what the laws of the grammar rest on. -/
import Derived.Test.YtekjnfldgjcgeaaGreatDoorA23
import Derived.Test.YtekjnfldgjcgeaaGreatDoorA24
set_option linter.all false
set_option maxRecDepth 100000
set_option maxHeartbeats 8000000
namespace Go.Proofs.YtekjnfldgjcgeaaGreatDoor
open Go.RowKit Go.Shelf
theorem zwj {w:World} {base:Nat} {S:Nat->Prop} {X:XV} {t:Tree} (h:TopA w base S X t) (hbw:base<=w.heap.size):∃ vsP:List XV,vsP.length=(zbt t).length /\
  ∀ W,Below w.heap.size w W->Calls Tryz.prog 43 #[X.val] W (fun e W'=>∃ a c,e=.returned (.slice a vsP.length c)/\Below W.heap.size W W'/\W'.ownsRow base 35 6 (.slice a vsP.length c) vsP.length (vsP.flatMap XV.cells) /\
   ((Value.slice a vsP.length c).ownBlock=X.ks.ownBlock\/∃ k,(Value.slice a vsP.length c).ownBlock=some k/\W.heap.size<=k)/\∀ (j:Nat) (Z:XV) (u:Tree),vsP[j]?=some Z->(zbt t)[j]?=some u->ETP w (fun b=>base<=b/\some b≠(Value.slice a vsP.length c).ownBlock/\¬ S b) Z u):=by
 have htree:=h.tree
 obtain ⟨x,ns,kids,vs,rfl,htx,hto,h1,h2,h3,h4,h5,h6⟩:=h
 obtain ⟨k,tx,nv,lo,hi,kv⟩:=X
 simp only [] at *
 obtain ⟨a1,c1,rfl⟩:=zbj h1
 obtain ⟨a2,c2,rfl⟩:=zbj h2
 by_cases hk:k=1
 ·have e:zbt (.mk k x ns lo hi kids)=kids:=by show (if k=1 then _ else _)=_;rw [if_pos hk]
  refine ⟨vs,by rw [e,h3],fun W hb=>(zj6 (w:=W)).mono ?_⟩
  rintro e' W' ⟨v,rfl,hb',⟨_,rfl⟩ | ⟨hne,_⟩⟩
  ·rw [h3]
   exact ⟨a2,c2,rfl,hb',zb3 (zb3 h2 hb) hb',.inl rfl,fun j Z u hZ hu=>h6 j Z u hZ (by rwa [e] at hu)⟩
  ·exact absurd hk hne
 ·have e:zbt (.mk k x ns lo hi kids)=[.mk k x ns lo hi kids]:=by show (if k=1 then _ else _)=_;rw [if_neg hk]
  refine ⟨[⟨k,tx,.slice a1 ns.length c1,lo,hi,.slice a2 kids.length c2⟩],by rw [e];rfl,fun W hb=>(zj6 (w:=W)).mono ?_⟩
  rintro e' W' ⟨v,rfl,hb',⟨h1',_⟩ | ⟨hne,g,rfl,hg,hbox⟩⟩
  ·exact absurd h1' hk
  ·have hs:=hb.size
   refine ⟨some ⟨g,0,none⟩,1,rfl,hb',?_,.inr ⟨g,rfl,hg⟩,fun j Z u hZ hu=>?_⟩
   ·exact row_of_block (cs:=XV.arr ⟨k,tx,.slice a1 ns.length c1,lo,hi,.slice a2 kids.length c2⟩) (by omega) hbox (by unfold maxLen;simp) (by simp [XV.arr])
   ·rw [e] at hu
    cases j with
    | zero =>
     simp at hZ hu
     subst hZ hu
     refine htree.weak (fun b hb2 hbl=>⟨hb2.1,fun e=>?_,hb2.2⟩)
     have:b=g:=Option.some.inj e
     omega
    | succ j=>simp at hZ
theorem zwk {w:World} {P:Nat->Prop} {X:XV} {t:Tree} (h:ETP w P X t) (h0:0<(zbt t).length):∃ vsE:List XV,vsE.length=(zbt t).length/\(∀ u∈vsE.flatMap XV.cells,u.oneCell'=true)/\(∀ (j:Nat) (Z:XV) (u:Tree),vsE[j]?=some Z->(zbt t)[j]?=some u->ETP w P Z u) /\
  ∀ W,Below w.heap.size w W->Calls Tryz.prog 43 #[X.val] W (fun e W'=>∃ g off c,e=.returned (.slice (some ⟨g,off,none⟩) vsE.length c)/\Below W.heap.size W W'/\(∀ (j:Nat) (u:Value),(vsE.flatMap XV.cells)[j]?=some u->W'.cell? ⟨g,off+j,none⟩=some u)/\g<W'.heap.size):=by
 have hE:=h
 cases h with
 | @mk k lo hi nv kv x ns kids vs ha hl h1 h2 h3 h4 =>
 obtain ⟨⟨a1,n1,c1,e1⟩,a2,n2,c2,e2⟩:=hE.slices
 simp only [] at e1 e2
 subst e1 e2
 by_cases hk:k=1
 ·have e:zbt (.mk k x ns lo hi kids)=kids:=by show (if k=1 then _ else _)=_;rw [if_pos hk]
  rw [e] at h0 ⊢
  refine ⟨vs,h3,zo5 h3 (fun i y u hy hu=>(h4 i y u hy hu).any),h4,fun W hb=>(zj6 (w:=W)).mono ?_⟩
  rintro e' W' ⟨v,rfl,hb',⟨_,rfl⟩ | ⟨hne,_⟩⟩
  ·rcases h2 with ⟨hn,_⟩ | ⟨g,off,cap,hv,_,_,hc0,_,hc⟩
   ·omega
   ·simp only [] at hv ⊢
    rw [hv,<- h3]
    have hgl:=hc0.lt
    have hs1:=hb.size
    have hs2:=hb'.size
    exact ⟨g,off,cap,rfl,hb',fun j u hj=>(hb'.cell (p:=⟨g,off+j,none⟩) (by show g<_;omega)).trans ((hb.cell (p:=⟨g,off+j,none⟩) hgl).trans (hc j u hj)),by omega⟩
  ·exact absurd hk hne
 ·have e:zbt (.mk k x ns lo hi kids)=[.mk k x ns lo hi kids]:=by show (if k=1 then _ else _)=_;rw [if_neg hk]
  rw [e]
  refine ⟨[⟨k,za3 x,.slice a1 n1 c1,lo,hi,.slice a2 n2 c2⟩],rfl,fun u hu=>?_,fun j Z u hZ hu=>?_,fun W hb=>(zj6 (w:=W)).mono ?_⟩
  ·simp [XV.cells] at hu
   rcases hu with rfl | rfl | rfl | rfl | rfl | rfl<;>rfl
  ·cases j with
   | zero =>
    simp at hZ hu
    subst hZ hu
    exact hE
   | succ j=>simp at hZ
  ·rintro e' W' ⟨v,rfl,hb',⟨h1',_⟩ | ⟨hne,g,rfl,hg,hbox⟩⟩
   ·exact absurd h1' hk
   ·refine ⟨g,0,1,rfl,hb',fun j u hj=>?_,(Array.getElem?_eq_some_iff.1 hbox).1⟩
    rcases zhf hbox with ⟨hn,_⟩ | ⟨g',off',cap',hv,_,_,_,hc⟩
    ·cases hn
    ·simp at hv
     obtain ⟨⟨rfl,rfl⟩,_⟩:=hv
     exact hc j u hj
def zrt (base R m:Nat) (g:List GR) (l:Rule) (w:World) (e:Ending) (w':World):Prop :=
 (zcv g l=none->e=.returned (.int .i64 41))/\(∀ g',zcv g l=some g'->e=.returned (.int .i64 0)/\∃ v' ys',TS w' base R m v' ys' g')/\∀ n0,n0<=R->n0<=m->n0<=base->Below n0 w w'
theorem zwl {g:List GR} {l:Rule} (hf:zay g l.name=none) (hm:l.more=false):zcv g l=some (g++[⟨l.name,l.expr⟩]):=by
 unfold zcv
 rw [hf]
 show (if l.more=true then _ else _)=_
 rw [if_neg (by rw [hm];decide)]
theorem ztk {g:List GR} {l:Rule} {i:Nat} {r:GR} (hf:zay g l.name=some i) (hm:l.more=true) (hr:g[i]?=some r):zcv g l=some (g.set i ⟨r.name,zeh r.expr l.expr⟩):=by
 unfold zcv
 rw [hf]
 show (if l.more=true then _ else _)=_
 rw [if_pos hm,hr]
 rfl
theorem zwm {g:List GR} {l:Rule} (h:(zay g l.name).isSome≠l.more):zcv g l=none:=by
 unfold zcv
 cases hf:zay g l.name with
 | none =>
  rw [hf] at h
  show (if l.more=true then _ else _)=_
  rw [if_pos (by cases hm:l.more;exact absurd hm.symm h;rfl)]
 | some i =>
  rw [hf] at h
  show (if l.more=true then _ else _)=_
  rw [if_neg (fun e=>h (by rw [e];rfl))]
theorem zhg {W:World} {m n:Nat} {D:DataW Unit} {g:List GR} {x:List Int} {S:ByteArray} (hD:W.ownsMap Tryz.prog 9 (plainElem Tryz.prog 3) m n D) (hMG:MapG D g) (hto:zar x) (hS:S=za3 x) :
  ∃ c:Int,(Instr.lookup 57 (.map (some m)) (.string S) true).run Tryz.prog W=.ok (.tuple #[.int .i64 c,.bool (zay g x).isSome]) W/\∀ i,zay g x=some i->c=i:=by
 subst hS
 obtain ⟨cv,ps,hrun,hcv⟩:=hD.look_ok zfx Tryz.underlying57 (zmr _) (plainElem_int Tryz.underlying3 (by decide)) (zgd hto)
 obtain ⟨c,rfl,hc,hcw⟩:=plainElem_int_inv Tryz.underlying3 hcv
 rw [(hMG x hto).1] at hrun
 refine ⟨c,hrun,fun i hi=>?_⟩
 have h:=(hMG x hto).2 i hi
 simp only [Prod.mk.injEq] at hc
 rw [h] at hc
 have h2:=hc.1
 simp at h2
 exact h2.symm
theorem TopC.under {W W':World} {base:Nat} {X:XV} {t:Tree} (h:TopC W base X t) (hb:Below W.heap.size W W'):TopC W' base X t:=by
 obtain ⟨x,ns,kids,vs,ht,htx,hto,h1,h2,h3,h4⟩:=h
 exact ⟨x,ns,kids,vs,ht,htx,hto,zb3 h1 hb,zb3 h2 hb,h3,fun i y u hy hu=>(h4 i y u hy hu).kept (M:=fun _=>False) (zap.below hb) (fun b hb _=>⟨id,hb⟩)⟩
def zeq (S:ByteArray) (mo:Bool) (k lo hi:Int) (tx:ByteArray) (nv kv:Value):Obj:=.cells #[.string S,.bool mo,.int .i64 k,.string tx,nv,.int .i64 lo,.int .i64 hi,kv] 37
theorem zru {w:World} {base R m:Nat} {v:Value} {ys:List RV} {g:List GR} {l:Rule} {S tx:ByteArray} {mo:Bool} {k lo hi:Int} {a1 a2:Option Addr} {n1 c1 n2 c2:Nat} (h:TS w base R m v ys g) (hR:R<base) (hm:m<base) (hne:R≠m) (hbase:base<=w.heap.size)
  (hS:S=za3 l.name) (hto:zar l.name) (hmo:mo=l.more) (hodd:(zay g l.name).isSome≠mo) :
  Calls Tryz.prog 22 #[.pointer (some ⟨R,0,none⟩),.agg #[.string S,.bool mo,.int .i64 k,.string tx,.slice a1 n1 c1,.int .i64 lo,.int .i64 hi,.slice a2 n2 c2]] w (zrt base R m g l w):=by
 obtain ⟨D,hD,hMG⟩:=h.gat.map
 obtain ⟨c0,c1',hRl⟩:=h.gat.cells
 have hD1:=(hD.alloc (zeq S mo k lo hi tx (.slice a1 n1 c1) (.slice a2 n2 c2))).drew
 obtain ⟨c,hrun,_⟩:=zhg hD1 hMG hto hS
 have hnone:zcv g l=none:=zwm (by rw [<- hmo];exact hodd)
 have HN:=hh9 hnone
 have hb:Below w.heap.size w ((w.alloc (zeq S mo k lo hi tx (.slice a1 n1 c1) (.slice a2 n2 c2))).drew):=za7 ((Below.refl _ _).alloc (Nat.le_refl _) _) 1
 have HB:=hh9 hb
 obtain ⟨q,hq⟩:∃ q,q=(zay g l.name).isSome:=⟨_,rfl⟩
 rw [<- hq] at hrun hodd
 have a0:=zbi c0 (zeq S mo k lo hi tx (.slice a1 n1 c1) (.slice a2 n2 c2))
 have a1':=zbi c1' (zeq S mo k lo hi tx (.slice a1 n1 c1) (.slice a2 n2 c2))
 unfold zeq at hrun a0 a1' HB
 clear h hD hMG hto hD1 hnone hb hS hmo hq
 have hxor:(q=true/\mo=false)\/(q=false/\mo=true):=by
  cases q<;>cases mo<;>simp at hodd ⊢
 clear hodd
 rcases hxor with ⟨rfl,rfl⟩ | ⟨rfl,rfl⟩
 all_goals
  go_enter Tryz.func22,Tryz.ntmps22
  go_wp2_with fail
  go_region
  go_wp2_with fail
  go_ret
  exact ⟨fun _=>rfl,fun g' hg'=>by (rw [HN.out] at hg';cases hg'),fun n0 _ _ h0=>HB.out.mono (by omega)⟩
theorem zzq {w:World} {base R m:Nat} {v:Value} {ys:List RV} {g:List GR} {l:Rule} {S tx:ByteArray} {k lo hi:Int} {a1 a2:Option Addr} {n1 c1 n2 c2:Nat} (h:TS w base R m v ys g) (hR:R<base) (hm:m<base) (hne:R≠m) (hbase:base<=w.heap.size)
  (hS:S=za3 l.name) (hto:zar l.name) (hmo:l.more=false) (hf:zay g l.name=none) (hE:ETree w ⟨k,tx,.slice a1 n1 c1,lo,hi,.slice a2 n2 c2⟩ l.expr) (htw:l.expr.tw<=40000000) (hlen:g.length<=1000000) :
  Calls Tryz.prog 22 #[.pointer (some ⟨R,0,none⟩),.agg #[.string S,.bool false,.int .i64 k,.string tx,.slice a1 n1 c1,.int .i64 lo,.int .i64 hi,.slice a2 n2 c2]] w (zrt base R m g l w):=by
 obtain ⟨D,hD,hMG⟩:=h.gat.map
 obtain ⟨c0,c1',hRl⟩:=h.gat.cells
 have hD1:=(hD.alloc (zeq S false k lo hi tx (.slice a1 n1 c1) (.slice a2 n2 c2))).drew
 obtain ⟨c,hrun,_⟩:=zhg hD1 hMG hto hS
 rw [hf] at hrun
 change _=Result.ok (Value.tuple #[.int .i64 c,.bool false]) _ at hrun
 have hb:Below w.heap.size w ((w.alloc (zeq S false k lo hi tx (.slice a1 n1 c1) (.slice a2 n2 c2))).drew):=za7 ((Below.refl _ _).alloc (Nat.le_refl _) _) 1
 have HB:=hh9 hb
 have HC:=hh9 (zlj l.expr.tw _ _ _ (hE.under hb) (Nat.le_refl _) (by omega))
 have HN:=hh9 (zwl hf hmo)
 have HH:=hh9 h
 have HF:=hh9 hf
 have HS:=hh9 hS
 have HTO:=hh9 hto
 have a0:=zbi c0 (zeq S false k lo hi tx (.slice a1 n1 c1) (.slice a2 n2 c2))
 have a1':=zbi c1' (zeq S false k lo hi tx (.slice a1 n1 c1) (.slice a2 n2 c2))
 have hX:((w.alloc (zeq S false k lo hi tx (.slice a1 n1 c1) (.slice a2 n2 c2))).drew).heap[w.heap.size]?=some (zeq S false k lo hi tx (.slice a1 n1 c1) (.slice a2 n2 c2)):=heap_alloc_new w _
 unfold zeq at hrun a0 a1' HB HC hX
 unfold XV.val at HC
 simp only [] at HC
 have HX:=hh9 hX
 clear h hD hMG hto hD1 hb hS hmo hE hf hX
 go_enter Tryz.func22,Tryz.ntmps22
 go_wp2_with fail
 go_region
 go_wp2_with fail
 refine HC.out.mono ?_
 rintro e w2 ⟨X',rfl,hT,hb2⟩
 obtain ⟨k',tx',nv',lo',hi',kv',p1,p2,p3,p5,p6,p7,rfl,rfl,rfl⟩:=zju hT
 have hs1:((w.alloc (zeq S false k lo hi tx (.slice a1 n1 c1) (.slice a2 n2 c2))).drew).heap.size=w.heap.size+1:=by simp
 unfold zeq at hs1
 have hs2:=hb2.size
 rw [hs1] at hT hs2
 have hb02:=za0 HB.out hb2
 have hX2:=(hb2.block w.heap.size (by rw [hs1];omega)).trans HX.out
 have l0:w2.cell? ⟨w.heap.size,0,none⟩=some (.string S):=by unfold World.cell?;simp only [hX2];rfl
 have l0':=zbi l0 (.cells #[.int .i64 k',.string tx',.slice p1 p2 p3,.int .i64 lo',.int .i64 hi',.slice p5 p6 p7] 35)
 have hb3:Below w2.heap.size w2 (w2.alloc (.cells #[.int .i64 k',.string tx',.slice p1 p2 p3,.int .i64 lo',.int .i64 hi',.slice p5 p6 p7] 35)):=(Below.refl _ _).alloc (Nat.le_refl _) _
 have HB3:=hh9 (za0 hb02 hb3)
 have HT3:=hh9 (hT.under hb3)
 have HG3:=hh9 (HH.out.gat.below HB3.out)
 have hs3:w.heap.size<=(w2.alloc (.cells #[.int .i64 k',.string tx',.slice p1 p2 p3,.int .i64 lo',.int .i64 hi',.slice p5 p6 p7] 35)).heap.size:=HB3.out.size
 have HADD:=hh9 (zvg HG3.out hR hm hne (by omega) ⟨S,⟨k',tx',.slice p1 p2 p3,lo',hi',.slice p5 p6 p7⟩⟩ ⟨l.name,l.expr⟩ ⟨HS.out,HTO.out⟩ HF.out hlen rfl rfl)
 unfold RV.val RV.arr at HADD
 simp only [] at HADD
 clear hX2 hb02 hb3 hT hb2 a0 a1' hrun
 unfold XV.val
 go_wp2_with fail
 refine HADD.out.mono ?_
 rintro e w4 ⟨rfl,v',hg4,hk4,ho4,hat4,hb4⟩
 go_wp2_with fail
 go_ret
 refine ⟨fun hn=>by (rw [HN.out] at hn;cases hn),fun g' hg'=>?_,fun n0 h1 h2 h3=>(HB3.out.mono (by omega)).trans (hb4 n0 h1 h2 h3)⟩
 rw [HN.out] at hg'
 have e:=Option.some.inj hg'
 subst e
 exact ⟨rfl,_,_,HH.out.pushed HB3.out (by omega) (by omega) HT3.out hR hm hg4 hk4 ho4⟩
theorem ztl {W:World} {base:Nat} {S:Nat->Prop} {X:XV} {t:Tree} (h:TopA W base S X t):∃ k tx lo hi a1 n1 c1 a2 n2 c2,X=⟨k,tx,.slice a1 n1 c1,lo,hi,.slice a2 n2 c2⟩:=by
 obtain ⟨x,ns,kids,vs,rfl,htx,hto,h1,h2,_⟩:=h
 obtain ⟨k,tx,nv,lo,hi,kv⟩:=X
 obtain ⟨a1,c1,e1⟩:=zbj h1
 obtain ⟨a2,c2,e2⟩:=zbj h2
 simp only [] at e1 e2
 subst e1 e2
 exact ⟨_,_,_,_,_,_,_,_,_,_,rfl⟩
theorem zj7 (t:Tree):(zbt t).length<=t.tw:=Nat.le_trans (zpx _) (zqc t)
theorem ztm {W:World} {g off:Nat} {xs:List Value} (h:∀ (j:Nat) (u:Value),xs[j]?=some u->W.cell? ⟨g,off+j,none⟩=some u):∀ (j:Nat) (u:Value),xs[j]?=some u->W.cell? ((⟨g,off,none⟩:Addr).add j)=some u:=fun j u hj=>by
 have e:(⟨g,off,none⟩:Addr).add j=⟨g,off+j,none⟩:=by cases j<;>simp [Addr.add]
 rw [e]
 exact h j u hj
theorem zwn {w:World} {base R m i:Nat} {v:Value} {ys:List RV} {g:List GR} {l:Rule} {S tx:ByteArray} {k lo hi:Int} {a1 a2:Option Addr} {n1 c1 n2 c2:Nat} (h:TS w base R m v ys g) (hR:R<base) (hm:m<base) (hne:R≠m) (hbase:base<=w.heap.size)
  (hS:S=za3 l.name) (hto:zar l.name) (hmo:l.more=true) (hf:zay g l.name=some i) (hE:ETree w ⟨k,tx,.slice a1 n1 c1,lo,hi,.slice a2 n2 c2⟩ l.expr) (hpos:0<(zbt l.expr).length) (htw:l.expr.tw<=40000000) (hgw:∀ r∈g,r.expr.tw<=40000000) (hlen:g.length<=1000000) :
  Calls Tryz.prog 22 #[.pointer (some ⟨R,0,none⟩),.agg #[.string S,.bool true,.int .i64 k,.string tx,.slice a1 n1 c1,.int .i64 lo,.int .i64 hi,.slice a2 n2 c2]] w (zrt base R m g l w):=by
 obtain ⟨D,hD,hMG⟩:=h.gat.map
 obtain ⟨c0,c1',hRl⟩:=h.gat.cells
 have hD1:=(hD.alloc (zeq S true k lo hi tx (.slice a1 n1 c1) (.slice a2 n2 c2))).drew
 obtain ⟨c,hrun,hci⟩:=zhg hD1 hMG hto hS
 obtain rfl:=hci i hf
 rw [hf] at hrun
 change _=Result.ok (Value.tuple #[.int .i64 (i:Int),.bool true]) _ at hrun
 obtain ⟨⟨r,hr,hrn⟩,_⟩:=zbv.1 hf
 have hil:=zmg hf
 obtain ⟨y,hy⟩:∃ y,ys[i]?=some y:=⟨_,List.getElem?_eq_getElem (by rw [h.gat.len];exact hil)⟩
 have htop:=h.top i y r hy hr
 obtain ⟨nmY,XY⟩:=y
 obtain ⟨kY,txY,loY,hiY,b1,m1,d1,b2,m2,d2,rfl⟩:=ztl htop
 obtain ⟨vsP,hlP,hP⟩:=zwj htop hbase
 obtain ⟨gr,vcap,hv⟩:∃ gr cap,v=.slice (some ⟨gr,0,none⟩) g.length cap:=by
  rcases zan h.gat.row with ⟨_,h0⟩ | ⟨g1,cap1,h1⟩
  ·omega
  ·exact ⟨_,_,h1⟩
 subst hv
 have hgrb:=zb0 h.gat.row
 have CX:∀ (j:Nat) (u:Value),j<7->(RV.cells ⟨nmY,⟨kY,txY,.slice b1 m1 d1,loY,hiY,.slice b2 m2 d2⟩⟩)[j]?=some u->w.cell? ⟨gr,i*7+j,none⟩=some u:=fun j u hj hu=>zaq h.gat.row ((zct ys i j _ hy hj).trans hu)
 have HCX:=hh9 CX
 have hb:Below w.heap.size w ((w.alloc (zeq S true k lo hi tx (.slice a1 n1 c1) (.slice a2 n2 c2))).drew):=za7 ((Below.refl _ _).alloc (Nat.le_refl _) _) 1
 have HB:=hh9 hb
 have HC:=hh9 (zlj l.expr.tw _ _ _ (hE.under hb) (Nat.le_refl _) (by omega))
 have HN:=hh9 (ztk hf hmo hr)
 have HH:=hh9 h
 have HHY:=hh9 hy
 have HHR:=hh9 hr
 have hlr:=Nat.le_trans (zj7 r.expr) (hgw r (List.mem_of_getElem? hr))
 have hle:=Nat.le_trans (zj7 l.expr) htw
 have HP:=hh9 hP
 have HLP:=hh9 hlP
 have a0:=zbi c0 (zeq S true k lo hi tx (.slice a1 n1 c1) (.slice a2 n2 c2))
 have a1':=zbi c1' (zeq S true k lo hi tx (.slice a1 n1 c1) (.slice a2 n2 c2))
 have hX:((w.alloc (zeq S true k lo hi tx (.slice a1 n1 c1) (.slice a2 n2 c2))).drew).heap[w.heap.size]?=some (zeq S true k lo hi tx (.slice a1 n1 c1) (.slice a2 n2 c2)):=heap_alloc_new w _
 unfold zeq at hrun a0 a1' HB HC hX
 unfold XV.val at HC HP
 simp only [] at HC HP
 have HX:=hh9 hX
 have HCR:=hh9 c0
 clear h hD hMG hto hD1 hb hS hmo hE hf hX CX htop hP hlP hgw hci hy hr c0 c1'
 go_enter Tryz.func22,Tryz.ntmps22
 go_wp2_with fail
 go_region
 go_wp2_with fail
 refine HC.out.mono ?_
 rintro e w2 ⟨X',rfl,hT,hb2⟩
 obtain ⟨k',tx',nv',lo',hi',kv',p1,p2,p3,p5,p6,p7,rfl,rfl,rfl⟩:=zju hT
 have hs1:((w.alloc (zeq S true k lo hi tx (.slice a1 n1 c1) (.slice a2 n2 c2))).drew).heap.size=w.heap.size+1:=by simp
 unfold zeq at hs1
 have hs2:=hb2.size
 rw [hs1] at hT hs2
 have hb02:=za0 HB.out hb2
 have hb3:Below w2.heap.size w2 (w2.alloc (.cells #[.int .i64 k',.string tx',.slice p1 p2 p3,.int .i64 lo',.int .i64 hi',.slice p5 p6 p7] 35)):=(Below.refl _ _).alloc (Nat.le_refl _) _
 have hb3d:Below w2.heap.size w2 ((w2.alloc (.cells #[.int .i64 k',.string tx',.slice p1 p2 p3,.int .i64 lo',.int .i64 hi',.slice p5 p6 p7] 35)).drew):=za7 hb3 1
 have HB3:=hh9 (za0 hb02 hb3)
 have HB3d:=hh9 (za0 hb02 hb3d)
 have HT3:=hh9 (hT.under hb3)
 obtain ⟨vsE,hlE,hoE,hEe,hEc⟩:=zwk HT3.out.tree hpos
 have HLE:=hh9 hlE
 have HOE:=hh9 hoE
 have HEE:=hh9 hEe
 have HEC:=hh9 hEc
 unfold XV.val at HEC
 simp only [] at HEC
 have HPW:=hh9 (HP.out _ HB3d.out)
 have hT7:(w2.alloc (.cells #[.int .i64 k',.string tx',.slice p1 p2 p3,.int .i64 lo',.int .i64 hi',.slice p5 p6 p7] 35)).heap[w2.heap.size]?=some (.cells #[.int .i64 k',.string tx',.slice p1 p2 p3,.int .i64 lo',.int .i64 hi',.slice p5 p6 p7] 35 (0,0)):=heap_alloc_new w2 _
 have HT7:=hh9 hT7
 have HFW:=hh9 (fun (W:World) (hW:Below w.heap.size w W)=>(show W.cell? ⟨R,0,none⟩=_ from (hW.cell (p:=⟨R,0,none⟩) hRl).trans HCR.out))
 have HGW:=hh9 (fun (W:World) (hW:Below w.heap.size w W) (j:Nat) (u:Value) (hj:j<7) (hu:(RV.cells ⟨nmY,⟨kY,txY,.slice b1 m1 d1,loY,hiY,.slice b2 m2 d2⟩⟩)[j]?=some u)=>(show W.cell? ⟨gr,i*7+j,none⟩=some u from (hW.cell (p:=⟨gr,i*7+j,none⟩) hgrb.2.2.2).trans (HCX.out j u hj hu)))
 have r0:=HFW.out _ HB3.out
 have g1:=HGW.out _ HB3.out 1 _ (by omega) rfl
 have g2:=HGW.out _ HB3.out 2 _ (by omega) rfl
 have g3:=HGW.out _ HB3.out 3 _ (by omega) rfl
 have g4:=HGW.out _ HB3.out 4 _ (by omega) rfl
 have g5:=HGW.out _ HB3.out 5 _ (by omega) rfl
 have g6:=HGW.out _ HB3.out 6 _ (by omega) rfl
 have q1:decide ((i:Int)<(g.length:Int))=true:=decide_eq_true (by omega)
 clear hb02 hb3 hb3d hT hb2 a0 a1' hrun hT7 hEe hEc hoE hlE
 unfold XV.val
 go_wp2_with fail
 obtain ⟨i0,hi0,hz0,hz1,hz2⟩:=info_parts zjt
 have t7:∀ (W:World),W.heap[w2.heap.size]?=some (.cells #[.int .i64 k',.string tx',.slice p1 p2 p3,.int .i64 lo',.int .i64 hi',.slice p5 p6 p7] 35 (0,0))->W.cell? ⟨w2.heap.size,0,none⟩=some (.int .i64 k')/\W.cell? ⟨w2.heap.size,1,none⟩=some (.string tx')/\W.cell? ⟨w2.heap.size,2,none⟩=some (.slice p1 p2 p3)/\W.cell? ⟨w2.heap.size,3,none⟩=some (.int .i64 lo')/\W.cell? ⟨w2.heap.size,4,none⟩=some (.int .i64 hi')/\W.cell? ⟨w2.heap.size,5,none⟩=some (.slice p5 p6 p7):=fun W hW=>by
  refine ⟨?_,?_,?_,?_,?_,?_⟩<;>(unfold World.cell?;simp only [hW];rfl)
 obtain ⟨y0,y1,y2,y3,y4,y5⟩:=t7 _ HT7.out
 have HT7W:=hh9 t7
 have hszT:w2.heap.size<(w2.alloc (.cells #[.int .i64 k',.string tx',.slice p1 p2 p3,.int .i64 lo',.int .i64 hi',.slice p5 p6 p7] 35)).heap.size:=by simp
 clear t7
 go_region_law (first
  | ((try go_simp);go_at_call 43;(with_reducible (refine HPW.out.mono ?_));rintro e w4 ⟨va,vcp,rfl,hb4,hown4,hat4,hP4⟩;have HB4:=hh9 hb4;have HOWN4:=hh9 hown4;have HAT4:=hh9 hat4;have HP4:=hh9 hP4;have HB34:=hh9 (show Below (w2.alloc (.cells #[.int .i64 k',.string tx',.slice p1 p2 p3,.int .i64 lo',.int .i64 hi',.slice p5 p6 p7] 35)).heap.size (w2.alloc (.cells #[.int .i64 k',.string tx',.slice p1 p2 p3,.int .i64 lo',.int .i64 hi',.slice p5 p6 p7] 35)) w4 from (show Below _ _ ((w2.alloc (.cells #[.int .i64 k',.string tx',.slice p1 p2 p3,.int .i64 lo',.int .i64 hi',.slice p5 p6 p7] 35)).drew) from za7 (Below.refl _ _) 1).trans hb4);have HEW:=hh9 (HEC.out _ HB34.out);have hT74:=(HB34.out.block _ hszT).trans HT7.out;obtain ⟨z0,z1,z2,z3,z4,z5⟩:=HT7W.out _ hT74;clear hb4 hown4 hat4 hP4 hT74)
  | ((try go_simp);go_at_call 43;(with_reducible (refine HEW.out.mono ?_));rintro e w5 ⟨gE,offE,cE,rfl,hb5,hcE,hgE⟩;have HB5:=hh9 hb5;have HCE:=hh9 (ztm hcE);have HOWN5:=hh9 (zb3 HOWN4.out hb5);have hbs5:base<=w5.heap.size:=(by have h1:=HB34.out.size;have h2:=hb5.size;have h3:=HB3.out.size;omega);clear hb5 hcE)
  | (refine step_append_lies _ (by rfl) _ _ _ (by rfl) base 35 i0 _ 6 88 Tryz.underlying33 hi0 hz0 hz1 hz2 rfl (by decide) (.slice va vsP.length vcp) vsP.length (vsP.flatMap XV.cells) (by rfl) HOWN5.out ⟨gE,offE,none⟩ vsE.length cE (vsE.flatMap XV.cells) (by rfl) (ziu vsE) HCE.out HOE.out (by have:=HLE.out;omega) (by have h1:=HLE.out;have h2:=HLP.out;unfold maxLen;omega) (by have h1:=HLE.out;have h2:=HLP.out;omega) hbs5 w5.heap.size rfl ?_;intro gb cap9 w9 hown9 hgrow9 hat9 hlt9;have HOWN9:=hh9 hown9;have HGROW9:=hh9 hgrow9;have HAT9:=hh9 hat9;clear hown9 hgrow9 hat9)
  | fail)
 all_goals
  have hB5w:=za0 (za0 HB3.out HB34.out) HB5.out
  have hs5:=hB5w.size
  have hob:=zcd HOWN5.out
  obtain ⟨curG,hcurG⟩:=zbk HH.out.gat.row (b:=gr) rfl
  have hgr5:=hB5w.block gr hgrb.2.2.2
  have hgrP:(Value.slice va vsP.length vcp).ownBlock≠some gr:=fun e=>by
   have:=zdr HOWN5.out e (hgr5.trans hcurG)
   revert this
   decide
  have hgr9:=(HGROW9.out.block gr (by omega) (fun e=>hgrP e.symm)).trans hgr5
  have hR9:=(HGROW9.out.block R (by omega) (fun e=>by have:=hob R e.symm;omega)).trans (hB5w.block R hRl)
  have r9:w9.cell? ⟨R,0,none⟩=some (.slice (some ⟨gr,0,none⟩) g.length vcap):=(World.cell?_of_block hR9).trans HCR.out
  have x1:w9.cell? ⟨gr,i*7+1,none⟩=_:=(World.cell?_of_block hgr9).trans (HCX.out 1 _ (by omega) rfl)
  have x2:w9.cell? ⟨gr,i*7+2,none⟩=_:=(World.cell?_of_block hgr9).trans (HCX.out 2 _ (by omega) rfl)
  have x3:w9.cell? ⟨gr,i*7+3,none⟩=_:=(World.cell?_of_block hgr9).trans (HCX.out 3 _ (by omega) rfl)
  have x4:w9.cell? ⟨gr,i*7+4,none⟩=_:=(World.cell?_of_block hgr9).trans (HCX.out 4 _ (by omega) rfl)
  have x5:w9.cell? ⟨gr,i*7+5,none⟩=_:=(World.cell?_of_block hgr9).trans (HCX.out 5 _ (by omega) rfl)
  have x6:w9.cell? ⟨gr,i*7+6,none⟩=_:=(World.cell?_of_block hgr9).trans (HCX.out 6 _ (by omega) rfl)
  have f1:w9.frozen? ⟨gr,i*7+1,none⟩=false:=(World.frozen?_of_block hgr9).trans (zcy HH.out.gat.row _)
  have f2:w9.frozen? ⟨gr,i*7+2,none⟩=false:=(World.frozen?_of_block hgr9).trans (zcy HH.out.gat.row _)
  have f3:w9.frozen? ⟨gr,i*7+3,none⟩=false:=(World.frozen?_of_block hgr9).trans (zcy HH.out.gat.row _)
  have f4:w9.frozen? ⟨gr,i*7+4,none⟩=false:=(World.frozen?_of_block hgr9).trans (zcy HH.out.gat.row _)
  have f5:w9.frozen? ⟨gr,i*7+5,none⟩=false:=(World.frozen?_of_block hgr9).trans (zcy HH.out.gat.row _)
  have f6:w9.frozen? ⟨gr,i*7+6,none⟩=false:=(World.frozen?_of_block hgr9).trans (zcy HH.out.gat.row _)
  have hown9:w9.ownsRow base 35 6 (.slice (some ⟨gb,0,none⟩) (vsP.length+vsE.length) cap9) (vsP++vsE).length ((vsP++vsE).flatMap XV.cells):=by
   rw [List.length_append,List.flatMap_append]
   exact HOWN9.out
  have HM:=hh9 (HH.out.merged (wB:=w2.alloc (.cells #[.int .i64 k',.string tx',.slice p1 p2 p3,.int .i64 lo',.int .i64 hi',.slice p5 p6 p7] 35)) (wX:=w5) (w9:=w9) (n:=w.heap.size+1) (v':=.slice (some ⟨gb,0,none⟩) (vsP.length+vsE.length) cap9)
   HB3.out (by omega) (by simp;omega) (by omega) hR hm HHY.out HHR.out (za0 HB34.out HB5.out) HAT4.out HLP.out HP4.out HLE.out HEE.out hown9 HGROW9.out (HAT9.out.elim (fun e=>.inl e.symm) (fun e=>.inr (by rw [e];rfl))) (fun b hb=>by obtain ⟨cur,hcur⟩:=zbk HOWN5.out hb;exact ⟨_,_,hcur⟩))
  have hbel:∀ n0,n0<=R->n0<=m->n0<=base->Below n0 w (set6 w9 gr (i*7+1) ⟨1,⟨#[]⟩,.slice none 0 0,0,0,.slice (some ⟨gb,0,none⟩) (vsP.length+vsE.length) cap9⟩):=fun n0 h1 h2 h3 =>
   (((hB5w.mono (show n0<=w.heap.size by omega)).grown HGROW9.out (by omega) (fun b e=>by have:=hob b e;omega))).grown (zed _ _ _ _) (by have:=HGROW9.out.size;omega) (fun b e=>by have:=Option.some.inj e;omega)
  have HBEL:=hh9 hbel
  unfold set6 at HM HBEL
  simp only [] at HM HBEL
  clear hB5w hob hgr5 hgrP hgr9 hR9 hown9 hbel hcurG r0 g1 g2 g3 g4 g5 g6 y0 y1 y2 y3 y4 y5 z0 z1 z2 z3 z4 z5
  go_wp2_with fail
  go_ret
  refine ⟨fun hn=>by (rw [HN.out] at hn;cases hn),fun g' hg'=>?_,HBEL.out⟩
  rw [HN.out] at hg'
  have e:=Option.some.inj hg'
  subst e
  exact ⟨rfl,_,_,HM.out⟩
theorem zzr {w:World} {base R m:Nat} {v:Value} {ys:List RV} {g:List GR} {Y:LV} {l:Rule} (h:TS w base R m v ys g) (hR:R<base) (hm:m<base) (hne:R≠m) (hbase:base<=w.heap.size) (hl:zl0 w Y l) (hpos:0<(zbt l.expr).length) (htw:l.expr.tw<=40000000)
  (hgw:∀ r∈g,r.expr.tw<=40000000) (hlen:g.length<=1000000):Calls Tryz.prog 22 #[.pointer (some ⟨R,0,none⟩),Y.val] w (zrt base R m g l w):=by
 obtain ⟨hyn,hyc,hyl,hym,hyE⟩:=hl
 obtain ⟨nm,mo,⟨k,tx,nv,lo,hi,kv⟩⟩:=Y
 simp only [] at hyn hym hyE
 obtain ⟨x,ns,kids,vs,_,_,_,hr1,hr2,_⟩:=hyE.forms
 obtain ⟨na,nc,hnv,_⟩:=hr1.slice
 obtain ⟨ka,kc,hkv,_⟩:=hr2.slice
 simp only [] at hnv hkv
 subst hnv hkv
 cases hf:zay g l.name with
 | none =>
  cases hmo:l.more with
  | false =>
   have e:mo=false:=hym.trans hmo
   subst e
   exact zzq h hR hm hne hbase hyn ⟨hyc,hyl⟩ hmo hf hyE htw hlen
  | true=>exact zru h hR hm hne hbase hyn ⟨hyc,hyl⟩ hym (by rw [hf];show _≠mo;rw [show mo=true from hym.trans hmo];simp)
 | some i =>
  cases hmo:l.more with
  | false=>exact zru h hR hm hne hbase hyn ⟨hyc,hyl⟩ hym (by rw [hf];show _≠mo;rw [show mo=false from hym.trans hmo];simp)
  | true =>
   have e:mo=true:=hym.trans hmo
   subst e
   exact zwn h hR hm hne hbase hyn ⟨hyc,hyl⟩ hmo hf hyE hpos htw hgw hlen
end Go.Proofs.YtekjnfldgjcgeaaGreatDoor
