/- Part 12 of what the laws of the grammar rest on. -/
import Derived.Test.YtekjnfldgjcgeaaGreatDoorA10
import Derived.Test.YtekjnfldgjcgeaaGreatDoorA11
import Derived.Deep.RegionLaw
set_option linter.all false
set_option maxRecDepth 100000
set_option maxHeartbeats 8000000
namespace Go.Proofs.YtekjnfldgjcgeaaGreatDoor
open Go.RowKit
theorem zms {W:World} {base size n g cap:Nat} {e:TypeId} {xs:List Value} (h:W.ownsRow base e size (.slice (some ⟨g,0,none⟩) n cap) n xs) {j:Nat} {u:Value} (hj:xs[j]?=some u):W.cell? ⟨g,j,none⟩=some u:=zaq h hj
theorem zcy {W:World} {base size n g cap:Nat} {e:TypeId} {xs:List Value} (h:W.ownsRow base e size (.slice (some ⟨g,0,none⟩) n cap) n xs) (j:Nat):W.frozen? ⟨g,j,none⟩=false:=by
 obtain ⟨hl,h2⟩:=h
 rcases h2 with ⟨h2,_⟩ | ⟨g',cap',cur,hv,_,hh,_,_,hsz,ht⟩
 ·cases h2
 ·obtain rfl:g=g':=by simp at hv;omega
  simp [World.frozen?,hh]
theorem zbe {W:World} {base size n g cap:Nat} {e:TypeId} {xs:List Value} (h:W.ownsRow base e size (.slice (some ⟨g,0,none⟩) n cap) n xs) (j:Nat) (u:Value) :
  (W.setCell ⟨g,j,none⟩ u).ownsRow base e size (.slice (some ⟨g,0,none⟩) n cap) n (xs.set j u):=by
 obtain ⟨hl,h2⟩:=h
 refine ⟨by simpa using hl,?_⟩
 rcases h2 with ⟨h2,_⟩ | ⟨g',cap',cur,hv,hb,hh,hc,hm,hsz,ht⟩
 ·cases h2
 ·obtain ⟨rfl,rfl⟩:g=g'/\cap=cap':=by simp at hv;omega
  refine .inr ⟨g,cap,cur.setIfInBounds j u,rfl,hb,?_,hc,hm,by simpa using hsz,?_⟩
  ·obtain ⟨hlt,hk⟩:=Array.getElem?_eq_some_iff.1 hh
   show (W.heap.modify g _)[g]?=_
   rw [Array.getElem?_eq_getElem (by rw [Array.size_modify];exact hlt),Array.getElem_modify_self,hk]
   rfl
  ·rw [Array.toList_setIfInBounds,List.take_set,ht]
theorem zz3 (vs:List XV) (i:Nat) (x:XV) (h:i<vs.length) :
  ((((((vs.flatMap XV.cells).set (i*6) (.int .i64 x.kind)).set (i*6+1) (.string x.text)).set (i*6+2) x.ns).set (i*6+3) (.int .i64 x.lo)).set (i*6+4) (.int .i64 x.hi)).set (i*6+5) x.ks=(vs.set i x).flatMap XV.cells:=by
 induction vs generalizing i with
 | nil=>simp at h
 | cons y vs ih =>
  cases i with
  | zero=>simp [XV.cells]
  | succ i =>
   have ih:=ih i (by simpa using h)
   have e:∀ (j:Nat) (l:List Value) (u:Value),(y.cells++l).set ((i+1)*6+j) u=y.cells++l.set (i*6+j) u:=fun j l u=>by
    rw [List.set_append,if_neg (by simp [XV.cells];omega),show (i+1)*6+j-y.cells.length=i*6+j by simp [XV.cells];omega]
   have e0:=e 0
   simp only [Nat.add_zero] at e0
   simp only [List.flatMap_cons,List.set_cons_succ,e0,e]
   rw [ih]
def qav (t:TypeId) (size n:Nat) (xs:List Value) (w:World) (e:Ending) (w':World):Prop:=∃ v,e=.returned v/\w'.ownsRow w.heap.size t size v n xs/\Below w.heap.size w w'
theorem zz4:(Tryz.prog.info? 3).map (fun i=>(i.zero,i.size,i.bytes))=some (some (.int .i64 0),1,8):=by kernel_rfl
theorem zjt:(Tryz.prog.info? 35).map (fun i=>(i.zero,i.size,i.bytes))=some (some (.agg #[.int .i64 0,.string ⟨#[]⟩,.slice none 0 0,.int .i64 0,.int .i64 0,.slice none 0 0]),6,88):=by kernel_rfl
theorem zvh {P:Program} (w:World) (d:Nat) (t e:TypeId) (a:Option Addr) (n c n' c':Nat) (h:P.underlying t=some (.slice e)) :
  (Op.equalIn (d+1) t (.slice a n c) (.slice none n' c')).run P w=.ok a.isNone w:=by
 cases a<;>simp [Op.equalIn,run_underlying h]
theorem zvi {P:Program} (w:World) (t e:TypeId) (a:Option Addr) (n c n' c':Nat) (h:P.underlying t=some (.slice e)) :
  (binOp .eql t (.slice a n c) (.slice none n' c')).run P w=.ok (.bool a.isNone) w:=by
 simp only [binOp]
 simp [Op.equal,Op.maxDepth,zvh w 9999 t e a n c n' c' h]
theorem zh4 (w:World) (t:TypeId) (size:Nat):(w.alloc (.cells #[] t)).ownsRow w.heap.size t size (.slice (some ⟨w.heap.size,0,none⟩) 0 0) 0 [] :=
 row_of_block (cs:=#[]) (Nat.le_refl _) (heap_alloc_new w _) (by unfold maxLen;omega) (by simp)
theorem zt4 {w:World} {v:Value} {n:Nat} {xs:List Value} (h:RowAny w v n xs) (hl:xs.length=n*6) (h1:∀ u∈xs,u.oneCell'=true) (hn:n<=100000000):Calls Tryz.prog 67 #[v] w (qav 35 6 n xs w):=by
 obtain ⟨i0,hi0,hz0,hz1,hz2⟩:=info_parts zjt
 have hq:=fun W a n c=>zvi (P:=Tryz.prog) W 33 35 a n c 0 0 Tryz.underlying33
 rcases h with ⟨h0,a,cap,rfl⟩ | ⟨g,off,cap,rfl,g1,g2,g3,g4⟩
 ·subst h0
  obtain rfl:xs=[]:=List.length_eq_zero_iff.1 (by omega)
  cases a with
  | none =>
   go_enter Tryz.func67,Tryz.ntmps67
   go_wp2_with fail
   go_ret
   exact ⟨_,rfl,World.ownsRow_nil _ _ _ _,Below.refl _ _⟩
  | some a =>
   have HC:∀ (j:Nat) (u:Value),([]:List Value)[j]?=some u->(w.alloc (.cells #[] 35)).cell? (a.add j)=some u:=fun j u hj=>by simp at hj
   go_enter Tryz.func67,Tryz.ntmps67
   go_wp2_with (at_builtin;go_loud (refine wpList_append_own_at _ rfl _ _ 33 rfl w.heap.size 35 i0 (.agg #[.int .i64 0,.string ⟨#[]⟩,.slice none 0 0,.int .i64 0,.int .i64 0,.slice none 0 0]) 6 88 Tryz.underlying33 hi0 hz0 hz1 hz2 rfl (by decide) _ 0 [] rfl (zh4 w _ _) a 0 cap [] rfl hl HC h1 (by unfold maxLen;omega) (by omega) (by simp) ?_);intro v' w' hown hgrow _ _;have HOWN:=hh9 hown;have HG:Hid (World.grownBy _ w' (some w.heap.size)):=hgrow;clear hown hgrow)
   go_ret
   have hb:Below w.heap.size w w':=((Below.refl _ _).alloc (Nat.le_refl _) _).grown HG.out (by simp) (fun b e=>by have:=Option.some.inj e;omega)
   have ho:=HOWN.out
   rw [Nat.zero_add,List.nil_append] at ho
   exact ⟨_,rfl,ho,hb⟩
 ·have HC:∀ (j:Nat) (u:Value),xs[j]?=some u->(w.alloc (.cells #[] 35)).cell? ((⟨g,off,none⟩:Addr).add j)=some u:=fun j u hj=>by
   have e:(⟨g,off,none⟩:Addr).add j=⟨g,off+j,none⟩:=by cases j<;>simp [Addr.add]
   rw [e]
   exact zbi (g4 j u hj) _
  go_enter Tryz.func67,Tryz.ntmps67
  go_wp2_with (at_builtin;go_loud (refine wpList_append_own_at _ rfl _ _ 33 rfl w.heap.size 35 i0 (.agg #[.int .i64 0,.string ⟨#[]⟩,.slice none 0 0,.int .i64 0,.int .i64 0,.slice none 0 0]) 6 88 Tryz.underlying33 hi0 hz0 hz1 hz2 rfl (by decide) _ 0 [] rfl (zh4 w _ _) ⟨g,off,none⟩ n cap xs rfl hl HC h1 (by unfold maxLen;omega) (by omega) (by simp) ?_);intro v' w' hown hgrow _ _;have HOWN:=hh9 hown;have HG:Hid (World.grownBy _ w' (some w.heap.size)):=hgrow;clear hown hgrow)
  go_ret
  have hb:Below w.heap.size w w':=((Below.refl _ _).alloc (Nat.le_refl _) _).grown HG.out (by simp) (fun b e=>by have:=Option.some.inj e;omega)
  have ho:=HOWN.out
  rw [Nat.zero_add,List.nil_append] at ho
  exact ⟨_,rfl,ho,hb⟩
theorem zvj {w:World} {v:Value} {n:Nat} {xs:List Value} (h:RowAny w v n xs) (hl:xs.length=n*1) (h1:∀ u∈xs,u.oneCell'=true) (hn:n<=100000000):Calls Tryz.prog 66 #[v] w (qav 3 1 n xs w):=by
 obtain ⟨i0,hi0,hz0,hz1,hz2⟩:=info_parts zz4
 have hq:=fun W a n c=>zvi (P:=Tryz.prog) W 32 3 a n c 0 0 Tryz.underlying32
 rcases h with ⟨h0,a,cap,rfl⟩ | ⟨g,off,cap,rfl,g1,g2,g3,g4⟩
 ·subst h0
  obtain rfl:xs=[]:=List.length_eq_zero_iff.1 (by omega)
  cases a with
  | none =>
   go_enter Tryz.func66,Tryz.ntmps66
   go_wp2_with fail
   go_ret
   exact ⟨_,rfl,World.ownsRow_nil _ _ _ _,Below.refl _ _⟩
  | some a =>
   have HC:∀ (j:Nat) (u:Value),([]:List Value)[j]?=some u->(w.alloc (.cells #[] 3)).cell? (a.add j)=some u:=fun j u hj=>by simp at hj
   go_enter Tryz.func66,Tryz.ntmps66
   go_wp2_with (at_builtin;go_loud (refine wpList_append_own_at _ rfl _ _ 32 rfl w.heap.size 3 i0 (.int .i64 0) 1 8 Tryz.underlying32 hi0 hz0 hz1 hz2 rfl (by decide) _ 0 [] rfl (zh4 w _ _) a 0 cap [] rfl hl HC h1 (by unfold maxLen;omega) (by omega) (by simp) ?_);intro v' w' hown hgrow _ _;have HOWN:=hh9 hown;have HG:Hid (World.grownBy _ w' (some w.heap.size)):=hgrow;clear hown hgrow)
   go_ret
   have hb:Below w.heap.size w w':=((Below.refl _ _).alloc (Nat.le_refl _) _).grown HG.out (by simp) (fun b e=>by have:=Option.some.inj e;omega)
   have ho:=HOWN.out
   rw [Nat.zero_add,List.nil_append] at ho
   exact ⟨_,rfl,ho,hb⟩
 ·have HC:∀ (j:Nat) (u:Value),xs[j]?=some u->(w.alloc (.cells #[] 3)).cell? ((⟨g,off,none⟩:Addr).add j)=some u:=fun j u hj=>by
   have e:(⟨g,off,none⟩:Addr).add j=⟨g,off+j,none⟩:=by cases j<;>simp [Addr.add]
   rw [e]
   exact zbi (g4 j u hj) _
  go_enter Tryz.func66,Tryz.ntmps66
  go_wp2_with (at_builtin;go_loud (refine wpList_append_own_at _ rfl _ _ 32 rfl w.heap.size 3 i0 (.int .i64 0) 1 8 Tryz.underlying32 hi0 hz0 hz1 hz2 rfl (by decide) _ 0 [] rfl (zh4 w _ _) ⟨g,off,none⟩ n cap xs rfl hl HC h1 (by unfold maxLen;omega) (by omega) (by simp) ?_);intro v' w' hown hgrow _ _;have HOWN:=hh9 hown;have HG:Hid (World.grownBy _ w' (some w.heap.size)):=hgrow;clear hown hgrow)
  go_ret
  have hb:Below w.heap.size w w':=((Below.refl _ _).alloc (Nat.le_refl _) _).grown HG.out (by simp) (fun b e=>by have:=Option.some.inj e;omega)
  have ho:=HOWN.out
  rw [Nat.zero_add,List.nil_append] at ho
  exact ⟨_,rfl,ho,hb⟩
theorem zdz {W W':World} {base size n m:Nat} {e:TypeId} {v:Value} {xs:List Value} (h:W.ownsRow base e size v n xs) (hg:W.grownBy W' (some m)) (hm:v.ownBlock≠some m):W'.ownsRow base e size v n xs:=by
 refine ⟨h.1,?_⟩
 rcases h.2 with hn | ⟨g,cap,cur,hv,hb,hg',rest⟩
 ·exact .inl hn
 ·exact .inr ⟨g,cap,cur,hv,hb,(hg.block g (Array.getElem?_eq_some_iff.1 hg').1 (fun e=>hm (by rw [hv];exact e))).trans hg',rest⟩
def TopC (W:World) (base:Nat) (X:XV) (t:Tree):Prop :=
 ∃ (x ns:List Int) (kids:List Tree) (vs:List XV),t=.mk X.kind x ns X.lo X.hi kids/\X.text=za3 x/\zar x/\W.ownsRow base 3 1 X.ns ns.length (zat ns)/\W.ownsRow base 35 6 X.ks kids.length (vs.flatMap XV.cells)/\vs.length=kids.length /\
  ∀ (i:Nat) (y:XV) (u:Tree),vs[i]?=some y->kids[i]?=some u->ETP W (fun b=>base<=b/\some b≠X.ks.ownBlock) y u
theorem ETP.weak {W:World} {P P':Nat->Prop} {X:XV} {t:Tree} (h:ETP W P X t) (hp:∀ b,P b->b<W.heap.size->P' b):ETP W P' X t:=h.kept (M:=fun _=>False) (zap.refl _ _) (fun b hb hl=>⟨id,hp b hb hl⟩)
theorem TopC.tree {W:World} {base:Nat} {X:XV} {t:Tree} (h:TopC W base X t):ETP W (fun b=>base<=b) X t:=by
 obtain ⟨x,ns,kids,vs,rfl,htx,hto,h1,h2,h3,h4⟩:=h
 obtain ⟨k,tx,nv,lo,hi,kv⟩:=X
 simp only [] at htx
 subst htx
 exact .mk vs hto.1 hto.2 (RowP.of_own (.inr (.inl rfl)) h1 (zcd h1)) (RowP.of_own (.inl rfl) h2 (zcd h2)) h3 (fun i y u hy hu=>(h4 i y u hy hu).weak (fun b hb _=>hb.1))
structure CopyAt (w wr:World) (X:XV) (ns:List Int) (kids:List Tree) (vs vsi:List XV) (i:Nat):Prop where
 box:wr.heap[w.heap.size]?=some (.cells X.arr 35 (0,0))
 res:wr.heap[w.heap.size+1]?=some (.cells zmp 35 (0,0))
 nums:wr.ownsRow (w.heap.size+2) 3 1 X.ns ns.length (zat ns)
 row:wr.ownsRow (w.heap.size+2) 35 6 X.ks kids.length (vsi.flatMap XV.cells)
 len:vsi.length=kids.length
 old:∀ (j:Nat) (y:XV) (u:Tree),j<i->vsi[j]?=some y->kids[j]?=some u->ETP wr (fun b=>w.heap.size+2<=b/\some b≠X.ks.ownBlock) y u
 new:∀ j,i<=j->vsi[j]?=vs[j]?
 below:Below w.heap.size w wr
theorem CopyAt.under {w wr W:World} {X:XV} {ns:List Int} {kids:List Tree} {vs vsi:List XV} {i:Nat} (h:CopyAt w wr X ns kids vs vsi i) (hb:Below wr.heap.size wr W):CopyAt w W X ns kids vs vsi i :=
 ⟨(hb.block _ (Array.getElem?_eq_some_iff.1 h.box).1).trans h.box,(hb.block _ (Array.getElem?_eq_some_iff.1 h.res).1).trans h.res,zb3 h.nums hb,zb3 h.row hb,h.len,
  fun j y u hj hy hu=>(h.old j y u hj hy hu).kept (M:=fun _=>False) (zap.below hb) (fun b hb _=>⟨id,hb⟩),h.new,za0 h.below hb⟩
theorem CopyAt.cells {w wr:World} {X:XV} {ns:List Int} {kids:List Tree} {vs vsi:List XV} {i:Nat} (h:CopyAt w wr X ns kids vs vsi i):wr.cell? ⟨w.heap.size,5,none⟩=some X.ks/\w.heap.size<wr.heap.size/\w.heap.size+1<wr.heap.size:=by
 have hb:=h.box
 refine ⟨?_,(Array.getElem?_eq_some_iff.1 hb).1,(Array.getElem?_eq_some_iff.1 h.res).1⟩
 unfold World.cell?
 simp only [hb]
 rfl
theorem zb6 (W:World) (g o:Nat) (v:Value):W.grownBy (W.setCell ⟨g,o,none⟩ v) (some g):=⟨rfl,rfl,rfl,by simp [World.setCell],fun i _ hi=>Below.heap_setCell _ _ _ _ (fun e=>hi (by rw [e]))⟩
def set6 (W:World) (g o:Nat) (x:XV):World :=
 (((((W.setCell ⟨g,o,none⟩ (.int .i64 x.kind)).setCell ⟨g,o+1,none⟩ (.string x.text)).setCell ⟨g,o+2,none⟩ x.ns).setCell ⟨g,o+3,none⟩ (.int .i64 x.lo)).setCell ⟨g,o+4,none⟩ (.int .i64 x.hi)).setCell ⟨g,o+5,none⟩ x.ks
theorem zed (W:World) (g o:Nat) (x:XV):W.grownBy (set6 W g o x) (some g) :=
 ((((((zb6 W g o _).trans (zb6 _ g _ _)).trans (zb6 _ g _ _)).trans (zb6 _ g _ _)).trans (zb6 _ g _ _)).trans (zb6 _ g _ _))
theorem CopyAt.step {w W6:World} {X X':XV} {ns:List Int} {kids:List Tree} {vs vsi:List XV} {i g cap B:Nat} {u:Tree} (h:CopyAt w W6 X ns kids vs vsi i) (hv:X.ks=.slice (some ⟨g,0,none⟩) kids.length cap) (hi:i<kids.length) (hu:kids[i]?=some u) (hX:ETP W6 (fun b=>B<=b) X' u) (hg:g<B) (hB:w.heap.size+2<=B) :
  CopyAt w (set6 W6 g (i*6) X') X ns kids vs (vsi.set i X') (i+1):=by
 have hgr:=zed W6 g (i*6) X'
 have hrow:=h.row
 rw [hv] at hrow
 have hgb:=(zb0 hrow).1
 have hob:X.ks.ownBlock=some g:=by rw [hv];rfl
 have hK:zap (fun b=>b=g) W6 (set6 W6 g (i*6) X'):=⟨hgr.size,fun b c t z hm _ hb=>(hgr.block b (Array.getElem?_eq_some_iff.1 hb).1 (fun e=>hm (Option.some.inj e))).trans hb⟩
 refine ⟨(hgr.block _ h.cells.2.1 (fun e=>by have:=Option.some.inj e;omega)).trans h.box,(hgr.block _ h.cells.2.2 (fun e=>by have:=Option.some.inj e;omega)).trans h.res,zdz h.nums hgr (fun e=>?_),?_,by rw [List.length_set];exact h.len,fun j y t hj hy ht=>?_,fun j hj=>?_,h.below.grown hgr (by have:=h.cells.2.1;omega) (fun b e=>by have:=Option.some.inj e;omega)⟩
 ·obtain ⟨c,t,z,hc⟩:∃ c t z,W6.heap[g]?=some (.cells c t z):=by
   rcases hrow.2 with ⟨hn,_⟩ | ⟨g',cap',cur,hv',_,hblk,_⟩
   ·cases hn
   ·simp at hv'
    obtain ⟨rfl,_⟩:=hv'
    exact ⟨_,_,_,hblk⟩
  have e1:=zdr h.nums e hc
  have e2:=zdr hrow (b:=g) rfl hc
  rw [e1] at e2
  revert e2
  decide
 ·have h6:=zbe (zbe (zbe (zbe (zbe (zbe hrow (i*6) (.int .i64 X'.kind)) (i*6+1) (.string X'.text)) (i*6+2) X'.ns) (i*6+3) (.int .i64 X'.lo)) (i*6+4) (.int .i64 X'.hi)) (i*6+5) X'.ks
  rw [zz3 vsi i X' (by rw [h.len];exact hi)] at h6
  rw [hv]
  exact h6
 ·by_cases hji:j=i
  ·subst hji
   rw [List.getElem?_set_self (by rw [h.len];exact hi)] at hy
   rw [hu] at ht
   have e1:=Option.some.inj hy
   have e2:=Option.some.inj ht
   subst e1 e2
   exact hX.kept hK (fun b hb _=>⟨by omega,by omega,fun e=>by rw [hob] at e;have:=Option.some.inj e;omega⟩)
  ·rw [List.getElem?_set_ne (by omega)] at hy
   exact (h.old j y t (by omega) hy ht).kept hK (fun b hb _=>⟨fun e=>hb.2 (by rw [hob,e]),hb⟩)
 ·rw [List.getElem?_set_ne (by omega)]
  exact h.new j (by omega)
theorem zpx:∀ l:List Tree,l.length<=(l.map Tree.tw).sum
 | []=>by simp
 | t::l=>by
  have:=zpx l
  have h:1<=t.tw:=by
   obtain ⟨k,x,ns,lo,hi,kids⟩:=t
   rw [Tree.tw]
   omega
  simp only [List.map_cons,List.sum_cons,List.length_cons] at *
  omega
def qd8 (X:XV) (t:Tree) (w:World) (e:Ending) (w':World):Prop:=∃ X':XV,e=.returned X'.val/\TopC w' w.heap.size X' t/\Below w.heap.size w w'
theorem zbj {W:World} {base size n:Nat} {e:TypeId} {v:Value} {xs:List Value} (h:W.ownsRow base e size v n xs):∃ a c,v=.slice a n c:=by
 rcases zan h with ⟨rfl,h0⟩ | ⟨g,cap,rfl⟩
 ·exact ⟨none,0,by rw [h0]⟩
 ·exact ⟨_,_,rfl⟩
theorem ETree.forms {W:World} {X:XV} {t:Tree} (h:ETree W X t):∃ (x ns:List Int) (kids:List Tree) (vs:List XV),t=.mk X.kind x ns X.lo X.hi kids/\X.text=za3 x/\zar x/\RowAny W X.ns ns.length (zat ns)/\RowAny W X.ks kids.length (vs.flatMap XV.cells)/\vs.length=kids.length/\(∀ (i:Nat) (y:XV) (u:Tree),vs[i]?=some y->kids[i]?=some u->ETree W y u):=by
 cases h with
 | mk vs h0 hl h1 h2 h3 h4=>exact ⟨_,_,_,vs,rfl,rfl,⟨h0,hl⟩,h1,h2,h3,h4⟩
theorem ETree.one5 {W:World} {X:XV} {t:Tree} (h:ETree W X t):∀ u∈X.cells,u.oneCell'=true:=by
 obtain ⟨h1,h2⟩:=h.ones
 intro u hu
 simp [XV.cells] at hu
 rcases hu with rfl | rfl | rfl | rfl | rfl | rfl
 all_goals first | rfl | assumption
theorem zo5 {W:World} {kids:List Tree} {vs:List XV} (hl:vs.length=kids.length) (h:∀ (i:Nat) (y:XV) (u:Tree),vs[i]?=some y->kids[i]?=some u->ETree W y u):∀ u∈vs.flatMap XV.cells,u.oneCell'=true:=by
 intro u hu
 obtain ⟨y,hy,huy⟩:=List.mem_flatMap.1 hu
 obtain ⟨i,hi⟩:=List.getElem?_of_mem hy
 have hlt:=(List.getElem?_eq_some_iff.1 hi).1
 exact (h i y _ hi (List.getElem?_eq_getElem (by omega))).one5 u huy
theorem zju {W:World} {base:Nat} {X:XV} {t:Tree} (h:TopC W base X t):∃ k tx nv lo hi kv a1 n1 c1 a2 n2 c2,nv=Value.slice a1 n1 c1/\kv=Value.slice a2 n2 c2/\X=⟨k,tx,nv,lo,hi,kv⟩:=by
 obtain ⟨x,ns,kids,vs,rfl,htx,hto,h1,h2,h3,h4⟩:=h
 obtain ⟨k,tx,nv,lo,hi,kv⟩:=X
 obtain ⟨a1,c1,e1⟩:=zbj h1
 obtain ⟨a2,c2,e2⟩:=zbj h2
 exact ⟨k,tx,nv,lo,hi,kv,_,_,_,_,_,_,e1,e2,rfl⟩
theorem zlj:∀ (k:Nat) (w:World) (X:XV) (t:Tree),ETree w X t->t.tw<=k->k<=100000000->Calls Tryz.prog 41 #[X.val] w (qd8 X t w):=by
 intro k
 induction k using Nat.strongRecOn with
 | _ k ih =>
 intro w X t hE hk hk2
 obtain ⟨x,ns,kids,vs,rfl,htx,hto,hr1,hr2,hvl,hks⟩:=hE.forms
 have htw:(Tree.mk X.kind x ns X.lo X.hi kids).tw=1+x.length+ns.length+(kids.map Tree.tw).sum:=by rw [Tree.tw]
 have hkl:kids.length<=(kids.map Tree.tw).sum:=zpx kids
 obtain ⟨kk,tx,nv,lo,hi,kv⟩:=X
 simp only [] at htx hr1 hr2 htw hk
 have HKS:=hh9 hks
 have HVL:=hh9 hvl
 have HTO:=hh9 hto
 have HTX:=hh9 htx
 have IH:=hh9 ih
 have HTW:=hh9 htw
 have HKK:=hh9 hk
 obtain ⟨na,nc,hnv⟩:∃ na nc,nv=.slice na ns.length nc:=by
  obtain ⟨a,c,h,_⟩:=hr1.slice
  exact ⟨a,c,h⟩
 obtain ⟨ka,kc,hkv⟩:∃ ka kc,kv=.slice ka kids.length kc:=by
  obtain ⟨a,c,h,_⟩:=hr2.slice
  exact ⟨a,c,h⟩
 subst hnv hkv
 have HC1:=hh9 (fun (W:World) (hb:Below w.heap.size w W)=>zvj (hr1.below hb) (by simp [zat]) (by intro u hu;unfold zat at hu;obtain ⟨z,_,rfl⟩:=List.mem_map.1 hu;rfl) (by omega))
 have HC2:=hh9 (fun (W:World) (hb:Below w.heap.size w W)=>zt4 (hr2.below hb) (by rw [ziu,hvl]) (zo5 hvl hks) (by omega))
 have HB0:Hid (Below w.heap.size w ((w.alloc (xobj kk lo hi tx (.slice na ns.length nc) (.slice ka kids.length kc))).alloc (.cells zmp 35))):=((Below.refl _ _).alloc (Nat.le_refl _) _).alloc (by simp) _
 have hE1:=heap_alloc_new w (xobj kk lo hi tx (.slice na ns.length nc) (.slice ka kids.length kc))
 have HE1:Hid (((w.alloc (xobj kk lo hi tx (.slice na ns.length nc) (.slice ka kids.length kc))).alloc (.cells zmp 35)).heap[w.heap.size]?=some (xobj kk lo hi tx (.slice na ns.length nc) (.slice ka kids.length kc))):=zfv _ _ hE1
 have HE2:Hid (((w.alloc (xobj kk lo hi tx (.slice na ns.length nc) (.slice ka kids.length kc))).alloc (.cells zmp 35)).heap[w.heap.size+1]?=some (.cells zmp 35 (0,0))):=by
  have h:=heap_alloc_new (w.alloc (xobj kk lo hi tx (.slice na ns.length nc) (.slice ka kids.length kc))) (.cells zmp 35)
  rw [World.size_alloc] at h
  exact h
 show Calls Tryz.prog 41 #[.agg #[.int .i64 kk,.string tx,.slice na ns.length nc,.int .i64 lo,.int .i64 hi,.slice ka kids.length kc]] w _
 clear hE hks hvl hto htx ih htw hk hr1 hr2 hE1
 unfold xobj zmp at HB0 HE1 HE2
 go_enter Tryz.func41,Tryz.ntmps41
 go_wp2_with (first
  | (go_at_call 66;refine (HC1.out _ HB0.out).mono ?_;rintro e w1 ⟨v1,rfl,hown1,hb1⟩;obtain ⟨a1,c1,rfl⟩:=zbj hown1;have hX1:w1.heap[w.heap.size]?=some (.cells #[.int .i64 kk,.string tx,.slice na ns.length nc,.int .i64 lo,.int .i64 hi,.slice ka kids.length kc] 35 (0,0)):=(hb1.block _ (by simp;omega)).trans HE1.out;have hX1l:=(Array.getElem?_eq_some_iff.1 hX1).1;have q2:w1.cell? ⟨w.heap.size,2,none⟩=some (.slice na ns.length nc):=(by unfold World.cell?;simp only [hX1];rfl);have q5:w1.cell? ⟨w.heap.size,5,none⟩=some (.slice ka kids.length kc):=(by unfold World.cell?;simp only [hX1];rfl);have qf:w1.frozen? ⟨w.heap.size,2,none⟩=false:=(by simp [World.frozen?,hX1]);have HX1:=hh9 hX1;have HO1:=hh9 hown1;have HB1:=hh9 (za0 HB0.out hb1);have HBB1:=hh9 hb1;clear hown1 hb1 hX1)
  | (go_at_call 67;refine (HC2.out _ (HB1.out.setCell (p:=⟨w.heap.size,2,none⟩) (Nat.le_refl _) (.slice a1 ns.length c1))).mono ?_;rintro e w2 ⟨v2,rfl,hown2,hb2⟩;obtain ⟨a2,c2,rfl⟩:=zbj hown2;have hX2:w2.heap[w.heap.size]?=some (.cells #[.int .i64 kk,.string tx,.slice a1 ns.length c1,.int .i64 lo,.int .i64 hi,.slice ka kids.length kc] 35 (0,0)):=(hb2.block _ (by simpa using hX1l)).trans (heap_setCell_same w1 w.heap.size 2 _ _ _ HX1.out);have p5:w2.cell? ⟨w.heap.size,5,none⟩=some (.slice ka kids.length kc):=(by unfold World.cell?;simp only [hX2];rfl);have pf:w2.frozen? ⟨w.heap.size,5,none⟩=false:=(by simp [World.frozen?,hX2]);have HX2:=hh9 hX2;have HO2:=hh9 hown2;have HB2:=hh9 hb2;clear hown2 hb2 hX2))
 have hs2:w1.heap.size<=w2.heap.size:=by
  have:=HB2.out.size
  simpa using this
 have hs1:=HBB1.out.size
 have hs0:((w.alloc (.cells #[.int .i64 kk,.string tx,.slice na ns.length nc,.int .i64 lo,.int .i64 hi,.slice ka kids.length kc] 35)).alloc (.cells #[.int .i64 0,.string ⟨#[]⟩,.slice none 0 0,.int .i64 0,.int .i64 0,.slice none 0 0] 35)).heap.size=w.heap.size+2:=by simp
 rw [hs0] at hs1
 have hE2b:w2.heap[w.heap.size+1]?=some (.cells zmp 35 (0,0)) :=
  (HB2.out.block _ (by simp;omega)).trans ((heap_setCell_other _ _ _ _ (by show w.heap.size+1≠w.heap.size;omega)).trans ((HBB1.out.block _ (by rw [hs0];omega)).trans HE2.out))
 have hstart:CopyAt w (w2.setCell ⟨w.heap.size,5,none⟩ (.slice a2 kids.length c2)) ⟨kk,tx,.slice a1 ns.length c1,lo,hi,.slice a2 kids.length c2⟩ ns kids vs vs 0:=by
  have hg:=zb6 w2 w.heap.size 5 (.slice a2 kids.length c2)
  have ho1:=HO1.out
  rw [hs0] at ho1
  have ho2:=zcx HO2.out (base':=w.heap.size+2) (by simp;omega)
  refine ⟨heap_setCell_same w2 w.heap.size 5 _ _ _ HX2.out,(hg.block _ (Array.getElem?_eq_some_iff.1 hE2b).1 (fun e=>by have:=Option.some.inj e;omega)).trans hE2b,?_,zdz ho2 hg (fun e=>by have:=zcd ho2 _ e;omega),HVL.out,fun j y u hj=>by omega,fun j _=>rfl,?_⟩
  ·refine zdz (zb3 (zdz ho1 (zb6 w1 w.heap.size 2 _) (fun e=>by have:=zcd ho1 _ e;omega)) HB2.out) hg (fun e=>by have:=zcd ho1 _ e;omega)
  ·exact (za0 (HB1.out.setCell (p:=⟨w.heap.size,2,none⟩) (Nat.le_refl _) (.slice a1 ns.length c1)) HB2.out).setCell (p:=⟨w.heap.size,5,none⟩) (Nat.le_refl _) _
 have HSTART:=hh9 hstart
 have hnmax:kids.length<=100000000:=by have:=HTW.out;have:=HKK.out;omega
 clear hstart hE2b hX1l q2 q5 qf p5 pf hs1 hs2 hs0
 go_loopw [16] (fun v wr=>∃ (i:Nat) (vsi:List XV),v=.int .i64 i/\i<=kids.length/\Hid (CopyAt w wr ⟨kk,tx,.slice a1 ns.length c1,lo,hi,.slice a2 kids.length c2⟩ ns kids vs vsi i)) (fun v _=>kids.length-(intOf v).toNat)
 case atStart=>exact ⟨0,vs,rfl,Nat.zero_le _,HSTART⟩
 case round =>
  obtain ⟨i,vsi,rfl,hi',HC⟩:=hrel
  by_cases hlt:i<kids.length
  ·have hrow:=HC.out.row
   simp only [] at hrow
   obtain ⟨gb,rfl⟩:∃ gb,a2=some ⟨gb,0,none⟩:=by
    rcases zan hrow with ⟨hn,h0⟩ | ⟨g,cap,h⟩
    ·omega
    ·simp at h
     exact ⟨g,h.1⟩
   obtain ⟨Y,hY⟩:∃ y,vs[i]?=some y:=⟨_,List.getElem?_eq_getElem (by rw [HVL.out];exact hlt)⟩
   obtain ⟨u,hu⟩:∃ y,kids[i]?=some y:=⟨_,List.getElem?_eq_getElem hlt⟩
   have hYi:=(HC.out.new i (Nat.le_refl _)).trans hY
   have hEY:=(HKS.out i Y u hY hu).under HC.out.below
   have hmem:u∈kids:=List.mem_of_getElem? hu
   have htm:=zlh hmem
   have CX:∀ (j:Nat) (z:Value),j<6->Y.cells[j]?=some z->wr.cell? ⟨gb,i*6+j,none⟩=some z:=fun j z hj hz=>zms hrow ((zc9 vsi i j Y hYi hj).trans hz)
   obtain ⟨hbx,hwl,hwl2⟩:=HC.out.cells
   have hgl:=zb0 hrow
   obtain ⟨b1,m1,d1,b5,m5,d5,hb1,hb5⟩:∃ b1 m1 d1 b5 m5 d5,Y.ns=.slice b1 m1 d1/\Y.ks=.slice b5 m5 d5:=by
    obtain ⟨_,_,_,_,_,_,_,h1,h2,_⟩:=hEY.forms
    obtain ⟨_,_,h1,_⟩:=h1.slice
    obtain ⟨_,_,h2,_⟩:=h2.slice
    exact ⟨_,_,_,_,_,_,h1,h2⟩
   obtain ⟨k2,s2,nv2,lo2,hi2,kv2⟩:=Y
   simp only [] at hb1 hb5
   subst hb1 hb5
   have hW5:Below wr.heap.size wr ((wr.alloc (.cells #[.int .i64 k2,.string s2,.slice b1 m1 d1,.int .i64 lo2,.int .i64 hi2,.slice b5 m5 d5] 35)).drew):=za7 ((Below.refl _ _).alloc (Nat.le_refl _) _) 1
   have HI:=hh9 (IH.out u.tw (by have:=HTW.out;have:=HKK.out;omega) _ _ u (hEY.under hW5) (Nat.le_refl _) (by have:=HTW.out;have:=HKK.out;omega))
   have HC5:=hh9 (HC.out.under hW5)
   have e0:=CX 0 _ (by omega) rfl
   have e1:=CX 1 _ (by omega) rfl
   have e2:=CX 2 _ (by omega) rfl
   have e3:=CX 3 _ (by omega) rfl
   have e4:=CX 4 _ (by omega) rfl
   have e5:=CX 5 _ (by omega) rfl
   rw [Nat.add_zero] at e0
   simp only [] at e0 e1 e2 e3 e4 e5
   have hbx5:=HC5.out.cells.1
   simp only [] at hbx5
   unfold XV.val at HI
   simp only [] at HI
   have HU:=hh9 hu
   have HGL:=hh9 hgl
   have HYI:=hh9 hYi
   clear CX hY hYi hEY hmem htm hrow hW5 hu hgl
   have hbx5':(wr.alloc (.cells #[.int .i64 k2,.string s2,.slice b1 m1 d1,.int .i64 lo2,.int .i64 hi2,.slice b5 m5 d5] 35)).cell? ⟨w.heap.size,5,none⟩=some (.slice (some ⟨gb,0,none⟩) kids.length c2):=hbx5
   have HYC:Hid (∀ (W:World),CopyAt w W ⟨kk,tx,.slice a1 ns.length c1,lo,hi,.slice (some ⟨gb,0,none⟩) kids.length c2⟩ ns kids vs vsi i->∀ (j:Nat) (z:Value),([.int .i64 k2,.string s2,.slice b1 m1 d1,.int .i64 lo2,.int .i64 hi2,.slice b5 m5 d5]:List Value)[j]?=some z->W.cell? ⟨gb,i*6+j,none⟩=some z/\W.frozen? ⟨gb,i*6+j,none⟩=false):=fun W hCW j z hj=>by
    have hr:=hCW.row
    simp only [] at hr
    have hjl:j<6:=(List.getElem?_eq_some_iff.1 hj).1
    exact ⟨zms hr ((zc9 vsi i j _ HYI.out hjl).trans hj),zcy hr _⟩
   clear hbx5
   go_wp2_with fail
   go_region_law (first
    | ((try go_simp);go_at_call 41;(with_reducible (refine HI.out.mono ?_));rintro e w6 ⟨X',rfl,hT,hb6⟩;have HC6:=hh9 (HC5.out.under hb6);obtain ⟨k',tx',nv',lo',hi2',kv',p1,p2,p3,p5,p6,p7,rfl,rfl,hX'⟩:=zju hT;have HT:=hh9 hT;have HB6:=hh9 hb6;have z5:=HC6.out.cells.1;(simp only [] at z5);have y0:=(HYC.out w6 HC6.out 0 _ rfl);have y1:=(HYC.out w6 HC6.out 1 _ rfl);have y2:=(HYC.out w6 HC6.out 2 _ rfl);have y3:=(HYC.out w6 HC6.out 3 _ rfl);have y4:=(HYC.out w6 HC6.out 4 _ rfl);have y5:=(HYC.out w6 HC6.out 5 _ rfl);rw [Nat.add_zero] at y0;obtain ⟨y0,x0⟩:=y0;obtain ⟨y1,x1⟩:=y1;obtain ⟨y2,x2⟩:=y2;obtain ⟨y3,x3⟩:=y3;obtain ⟨y4,x4⟩:=y4;obtain ⟨y5,x5⟩:=y5;subst hX';(try unfold XV.val);(try simp only []);clear hT hb6)
    | fail)
   all_goals
    have hS:=HC6.out.step (X':=⟨k',tx',.slice p1 p2 p3,lo',hi2',.slice p5 p6 p7⟩) (cap:=c2) rfl hlt HU.out HT.out.tree (by have:=HGL.out.2.2.2;simp;omega) (by simp;omega)
    unfold set6 at hS
    have HS:=hh9 hS
    clear hS
    go_wp2_with fail
    go_roundw
    case rel=>exact ⟨i+1,vsi.set i ⟨k',tx',.slice p1 p2 p3,lo',hi2',.slice p5 p6 p7⟩,by go_num,by omega,HS⟩
    case measure=>simp [intOf];omega
  ·obtain rfl:i=kids.length:=by omega
   have hbx:=HC.out.box
   unfold XV.arr at hbx
   have f0:wr.cell? ⟨w.heap.size,0,none⟩=some (.int .i64 kk):=by unfold World.cell?;simp only [hbx];rfl
   have f1:wr.cell? ⟨w.heap.size,1,none⟩=some (.string tx):=by unfold World.cell?;simp only [hbx];rfl
   have f2:wr.cell? ⟨w.heap.size,2,none⟩=some (.slice a1 ns.length c1):=by unfold World.cell?;simp only [hbx];rfl
   have f3:wr.cell? ⟨w.heap.size,3,none⟩=some (.int .i64 lo):=by unfold World.cell?;simp only [hbx];rfl
   have f4:wr.cell? ⟨w.heap.size,4,none⟩=some (.int .i64 hi):=by unfold World.cell?;simp only [hbx];rfl
   have f5:wr.cell? ⟨w.heap.size,5,none⟩=some (.slice a2 kids.length c2):=by unfold World.cell?;simp only [hbx];rfl
   have HRES:Hid (Res0 wr (w.heap.size+1)):=⟨zmp,rfl,HC.out.res⟩
   have hgr:wr.grownBy (wr.setRow (w.heap.size+1) (XV.arr ⟨kk,tx,.slice a1 ns.length c1,lo,hi,.slice a2 kids.length c2⟩)) (some (w.heap.size+1)):=⟨rfl,rfl,rfl,by simp [World.setRow],fun k hk hne=>setRow_other _ _ _ _ (fun e=>hne (by rw [e]))⟩
   have hk1:zap (fun b=>b=w.heap.size+1) wr (wr.setRow (w.heap.size+1) (XV.arr ⟨kk,tx,.slice a1 ns.length c1,lo,hi,.slice a2 kids.length c2⟩)):=⟨hgr.size,fun b c t z hm _ hb=>(hgr.block b (Array.getElem?_eq_some_iff.1 hb).1 (fun e=>hm (Option.some.inj e))).trans hb⟩
   have hn1:=HC.out.nums
   have hr1:=HC.out.row
   simp only [] at hn1 hr1
   have HT0:Hid (TopC (wr.setRow (w.heap.size+1) (XV.arr ⟨kk,tx,.slice a1 ns.length c1,lo,hi,.slice a2 kids.length c2⟩)) w.heap.size ⟨kk,tx,.slice a1 ns.length c1,lo,hi,.slice a2 kids.length c2⟩ (.mk kk x ns lo hi kids)) :=
    ⟨x,ns,kids,vsi,rfl,HTX.out,HTO.out,zcx (zdz hn1 hgr (fun e=>by have:=zcd hn1 _ e;omega)) (by omega),zcx (zdz hr1 hgr (fun e=>by have:=zcd hr1 _ e;omega)) (by omega),HC.out.len,
     fun j y u hy hu=>((HC.out.old j y u (by have:=(List.getElem?_eq_some_iff.1 hu).1;omega) hy hu).kept hk1 (fun b hb _=>⟨by have:=hb.1;omega,hb⟩)).weak (fun b hb _=>⟨by have:=hb.1;omega,hb.2⟩)⟩
   have HBE:Hid (Below w.heap.size w (wr.setRow (w.heap.size+1) (XV.arr ⟨kk,tx,.slice a1 ns.length c1,lo,hi,.slice a2 kids.length c2⟩))):=HC.out.below.grown hgr (by have:=HC.out.cells.2.1;omega) (fun b e=>by have:=Option.some.inj e;omega)
   clear hbx hgr hk1 hn1 hr1
   go_wp2_with (refine za6 rfl _ _ rfl (w.heap.size+1) ⟨kk,tx,.slice a1 ns.length c1,lo,hi,.slice a2 kids.length c2⟩ rfl rfl HRES.out rfl rfl ?_)
   exact bodyPost_ret_by (zaj rfl _ _ (w.heap.size+1) ⟨kk,tx,.slice a1 ns.length c1,lo,hi,.slice a2 kids.length c2⟩ rfl HRES.out) rfl ⟨_,rfl,HT0.out,HBE.out⟩
end Go.Proofs.YtekjnfldgjcgeaaGreatDoor
