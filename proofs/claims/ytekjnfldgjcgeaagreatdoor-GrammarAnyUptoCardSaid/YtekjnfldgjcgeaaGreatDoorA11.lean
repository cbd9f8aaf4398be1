/- Part 11 of what the laws of the grammar rest on. -/
import Derived.Test.YtekjnfldgjcgeaaGreatDoorA10
import Derived.Maps.AppendAt
import Derived.Laws.AppendOwnNone
import Derived.Maps.OwnSet
import Derived.Deep.AppendLies
import Derived.Deep.RegionLaw
set_option linter.all false
set_option maxRecDepth 100000
set_option maxHeartbeats 8000000
namespace Go.Proofs.YtekjnfldgjcgeaaGreatDoor
open Go.RowKit Go.Shelf
attribute [local go_sem] Oper.semAt_some
theorem zmq {M:Nat->Prop} {X Y Z:World} (h:zap M X Y) (k:zap M Y Z):zap M X Z:=h.trans k
theorem zcx {W:World} {base base' size n:Nat} {e:TypeId} {v:Value} {xs:List Value} (h:W.ownsRow base e size v n xs) (hb:base'<=base):W.ownsRow base' e size v n xs:=by
 refine ⟨h.1,?_⟩
 rcases h.2 with hn | ⟨g,cap,cur,hv,hg,rest⟩
 ·exact .inl hn
 ·exact .inr ⟨g,cap,cur,hv,by omega,rest⟩
def zbr (l:List (List Int)):List Value:=l.map fun x=>.string (za3 x)
theorem zt3 (l:List (List Int)):(zbr l).length=l.length:=by unfold zbr;simp
theorem zhu:(Tryz.prog.info? 9).map (fun i=>(i.zero,i.size,i.bytes))=some (some (.string ⟨#[]⟩),1,16):=by kernel_rfl
theorem zra {W w1:World} {n₀ base B:Nat} {t e:TypeId} {size k m:Nat} {v v':Value} {xs ys:List Value} {tmp:Obj}
  (hv:Go.Boxed W B t v) (hte:t≠e) (hkt:¬ KT t) (hke:¬ KT e) (hrow:W.ownsRow base e size v k xs) (hn₀:n₀<=B) (hB:B<base) (hW:base<=W.heap.size)
  (hown':w1.ownsRow base e size v' m ys) (hgrow:(W.alloc tmp).grownBy w1 v.ownBlock) :
  Go.Boxed w1 B t v/\Go.Boxed (w1.setCell ⟨B,0,none⟩ v') B t v'/\(w1.setCell ⟨B,0,none⟩ v').ownsRow base e size v' m ys/\KeepsOthers W (w1.setCell ⟨B,0,none⟩ v')/\zap (fun _=>False) W (w1.setCell ⟨B,0,none⟩ v')/\Below n₀ W (w1.setCell ⟨B,0,none⟩ v'):=by
 obtain ⟨hv1,hv2,_,hk2,hb2⟩:=hv.appended (n₀:=n₀) hte (zcx hrow (by omega)) (by omega) hn₀ (zcx hown' (by omega)) hgrow
 refine ⟨hv1,hv2,hown'.kept (grownBy_setCell' w1 B v') (.inr (hv1.not_row hte hown').symm),hk2,⟨hk2.size,fun b c t' z _ ht hb=>?_⟩,hb2⟩
 have hne:b≠B:=fun h=>by
  subst h
  have e:=Option.some.inj (hb.symm.trans hv)
  simp at e
  exact hkt (e.2.1 ▸ ht)
 have hlt:=(Array.getElem?_eq_some_iff.1 hb).1
 refine (Below.heap_setCell _ _ _ _ hne).trans ((hgrow.block b (by simp;omega) ?_).trans ((Below.heap_alloc _ _ _ hlt).trans hb))
 rcases hrow.2 with ⟨rfl,_⟩ | ⟨g,cap,cur,rfl,hg,hgb,_⟩
 ·simp [Value.ownBlock]
 ·intro h
  simp [Value.ownBlock] at h
  subst h
  have e:=Option.some.inj (hb.symm.trans hgb)
  simp at e
  exact hke (e.2.1 ▸ ht)
def zhv (l:List (List Int)) (w:World) (e:Ending) (w':World):Prop :=
 ∃ v,e=.returned v/\w'.ownsRow w.heap.size 9 1 v l.length (zbr l)/\Below w.heap.size w w'
theorem zz2 {w:World} {P:Nat->Prop} {X:XV} {t:Tree} (hE:ETP w P X t) (hd:dep t<=9000) (hlen:(zai t).length<=1000000000) :
  CallsIn Fence.wide 6 Tryz.prog 12 #[X.val] w (zhv (zai t) w):=by
 obtain ⟨NM,hNM⟩:∃ NM,NM=zai t:=⟨_,rfl⟩
 rw [<- hNM] at hlen ⊢
 have HNM:=hh9 hNM
 clear hNM
 obtain ⟨i0,hi0,hz0,hz1,hz2⟩:=info_parts zhu
 have hX:X=⟨X.kind,X.text,X.ns,X.lo,X.hi,X.ks⟩:=rfl
 obtain ⟨na,nn,nc,hns⟩:∃ a n c,X.ns=.slice a n c:=by
  cases hE with
  | mk vs h0 hl h1 h2 h3 h4 =>
   rcases h1 with ⟨_,a,cap,h⟩ | ⟨g',o',cap',h,_⟩
   ·exact ⟨_,_,_,h⟩
   ·exact ⟨_,_,_,h⟩
 obtain ⟨ka,kn,kc,hks⟩:∃ a n c,X.ks=.slice a n c:=by
  cases hE with
  | mk vs h0 hl h1 h2 h3 h4 =>
   rcases h2 with ⟨_,a,cap,h⟩ | ⟨g',o',cap',h,_⟩
   ·exact ⟨_,_,_,h⟩
   ·exact ⟨_,_,_,h⟩
 obtain ⟨k,tx,nv,lo,hi,kv⟩:=X
 simp only [] at hns hks
 subst hns hks
 have HX:=hh9 (fun W=>zjr (w:=W) ⟨k,tx,.slice na nn nc,lo,hi,.slice ka kn kc⟩ rfl rfl)
 have hb0:Below w.heap.size w (((w.alloc (xobj k lo hi tx (.slice na nn nc) (.slice ka kn kc))).alloc (.cells #[.slice none 0 0] 42)).alloc (xobj k lo hi tx (.slice na nn nc) (.slice ka kn kc))):=by go_grown
 have bO:=Boxed.new (w.alloc (xobj k lo hi tx (.slice na nn nc) (.slice ka kn kc))) 42 (.slice none 0 0)
 rw [World.size_alloc] at bO
 have bO2:=bO.alloc (xobj k lo hi tx (.slice na nn nc) (.slice ka kn kc))
 have bX:BoxX (((w.alloc (xobj k lo hi tx (.slice na nn nc) (.slice ka kn kc))).alloc (.cells #[.slice none 0 0] 42)).alloc (xobj k lo hi tx (.slice na nn nc) (.slice ka kn kc))) (w.heap.size+1+1) ⟨k,tx,.slice na nn nc,lo,hi,.slice ka kn kc⟩:=by
  have h:=heap_alloc_new ((w.alloc (xobj k lo hi tx (.slice na nn nc) (.slice ka kn kc))).alloc (.cells #[.slice none 0 0] 42)) (xobj k lo hi tx (.slice na nn nc) (.slice ka kn kc))
  rw [World.size_alloc,World.size_alloc] at h
  exact h
 have hstop:=zfw (Bs:=w.heap.size+1+1) (M:=fun _=>False) (P:=P) (fun _ h=>h.elim) (fun _ _ h=>h) (fun h=>h) (hE.kept (P':=P) (zap.below (M:=fun _=>False) hb0) (fun b hb _=>⟨fun h=>h,hb⟩)) bX hd
 rw [<- HNM.out] at hstop
 have hszw:(((w.alloc (xobj k lo hi tx (.slice na nn nc) (.slice ka kn kc))).alloc (.cells #[.slice none 0 0] 42)).alloc (xobj k lo hi tx (.slice na nn nc) (.slice ka kn kc))).heap.size=w.heap.size+3:=by simp
 unfold xobj at HX hb0 bO2 hstop hszw
 clear bO bX hE
 refine callsIn_of_wp_marks Tryz.func12 rfl trivial ?_ rfl
 simp only [XV.val,Tryz.ntmps12,List.size_toArray,List.length_cons,List.length_nil,Nat.reduceAdd,Nat.reduceSub,Array.replicate_succ,Array.replicate_zero,List.push_toArray,List.append_toArray,List.nil_append,List.cons_append]
 gi_wp2_with (refine ⟨trivial,?_⟩;gi_at_call 27;refine (callsIn_wide.2 (HX.out _)).mono ?_;rintro e w' ⟨rfl,rfl⟩)
 refine wpIn_rangeFunc_ownG rfl (by omega) (gf:=46) (lb:=#[.pointer (some ⟨w.heap.size+1+1,0,none⟩)]) rfl trivial (enters_of Tryz.func46 (by kernel_rfl) rfl)
  hstop zmq (fun W l o o' _ h ho _=>zap.put W l o o' h ho) (Below.refl _ _) (fun _=>rfl)
  (fun pre W=>((∃ v,Go.Boxed W (w.heap.size+1) 42 v/\W.ownsRow (w.heap.size+3) 9 1 v pre.length (zbr (NX.vals pre))/\True)/\w.heap.size+3<=W.heap.size)/\Below w.heap.size w W)
  (fun _ _ _=>False)
  (OwnFrom.and (OwnFrom.and (Own.from (holdsRow_own (w.heap.size+3) (w.heap.size+1) 42 9 1 (fun pre:List NX=>pre.length) (fun pre=>zbr (NX.vals pre)) (fun _ _=>True)) _) (fun _ _ _ _ hs hg _=>Nat.le_trans hs hg.size)) (ownFrom_below (Nat.le_refl _) (by simp;omega)))
  (fun _ _ _ _ _ hs _ _=>hs)
  ⟨⟨⟨_,bO2,World.ownsRow_nil _ _ _ _,trivial⟩,by simp⟩,hb0⟩
  (fun x=>{ tmps:=#[.agg #[.int .i64 k,.string tx,.slice na nn nc,.int .i64 lo,.int .i64 hi,.slice ka kn kc],.pointer (some ⟨w.heap.size,0,none⟩),.slice none 0 0,.pointer (some ⟨w.heap.size+1,0,none⟩),.string (za3 x.1),.agg #[.int .i64 k,.string tx,.slice na nn nc,.int .i64 lo,.int .i64 hi,.slice ka kn kc],.func (.func 46) #[] #[.pointer (some ⟨w.heap.size+1+1,0,none⟩)],.string (za3 x.1),undef,undef,undef,undef,undef],defers:=[] }) ?assign ?body ?done ?stop
 case assign =>
  intro l x W K hK
  gi_wp2
  exact hK
 case body =>
  rintro l pre ⟨x,hx⟩ W ⟨⟨⟨v,hv,hrow,_⟩,hsz⟩,hB⟩ hlt
  have hc:=hv.cell
  have hf:=hv.frozen
  rcases zan hrow with ⟨rfl,h0⟩ | ⟨g,cap,rfl⟩
  ·skip
   obtain rfl:pre=[]:=List.length_eq_zero_iff.1 h0
   clear h0
   gi_wp2_with (gi_at_builtin;refine wpListIn_append_own _ rfl _ _ 42 rfl (w.heap.size+3) 9 i0 (.string ⟨#[]⟩) 1 16 Tryz.underlying42 hi0 hz0 hz1 hz2 rfl (by decide) _ _ _ rfl (hrow.alloc _) ⟨W.heap.size,0,none⟩ 1 1 [.string (za3 x)] rfl rfl (cell_one_new _ _ _) (by simp [Value.oneCell']) (by unfold maxLen;omega) (by omega) (by simp;omega) ?_;intro v' w1 hown' hgrow _;obtain ⟨g',cap',rfl⟩:=ownsRow_succ hown';obtain ⟨hv1,hv2,hr2,hk2,hx2,hb2⟩:=zra (n₀:=w.heap.size) hv (by decide) (by unfold KT;decide) (by unfold KT;decide) hrow (by omega) (by omega) hsz hown' hgrow;have hc1:=hv1.cell;have hf1:=hv1.frozen)
   refine ⟨hk2.from _,hx2,⟨⟨_,hv2,?_⟩,Nat.le_trans hsz hk2.size⟩,hB.trans hb2⟩
   simpa [zbr,NX.vals] using hr2
  ·skip
   gi_wp2_with (gi_at_builtin;refine wpListIn_append_own _ rfl _ _ 42 rfl (w.heap.size+3) 9 i0 (.string ⟨#[]⟩) 1 16 Tryz.underlying42 hi0 hz0 hz1 hz2 rfl (by decide) _ _ _ rfl (hrow.alloc _) ⟨W.heap.size,0,none⟩ 1 1 [.string (za3 x)] rfl rfl (cell_one_new _ _ _) (by simp [Value.oneCell']) (by unfold maxLen;omega) (by omega) (by simp;omega) ?_;intro v' w1 hown' hgrow _;obtain ⟨g',cap',rfl⟩:=ownsRow_succ hown';obtain ⟨hv1,hv2,hr2,hk2,hx2,hb2⟩:=zra (n₀:=w.heap.size) hv (by decide) (by unfold KT;decide) (by unfold KT;decide) hrow (by omega) (by omega) hsz hown' hgrow;have hc1:=hv1.cell;have hf1:=hv1.frozen)
   refine ⟨hk2.from _,hx2,⟨⟨_,hv2,?_⟩,Nat.le_trans hsz hk2.size⟩,hB.trans hb2⟩
   simpa [zbr,NX.vals] using hr2
 case done =>
  rintro D ys W hD hys ⟨⟨⟨v,hv,hrow,_⟩,hsz⟩,hB⟩ hK
  have hc:=hv.cell
  have hl:ys.length=NM.length:=by rw [<- hys];simp [NX.vals]
  rw [hys,hl] at hrow
  gi_wp2
  refine ⟨by simp,.inl ⟨_,_,rfl,run_takeDeferred hK,?_⟩⟩
  exact ⟨_,results_tmp rfl _ _ _,v,rfl,zcx (ownsRow_putObj hrow _ hK rfl) (by omega),hB.trans (belowK_b (w:=w) (Nat.le_refl _) W D _ _ (by simp at hD;omega) hK rfl rfl)⟩
 case stop =>
  rintro D c pre W _ _ h _
  exact h.elim
theorem qbs {w:World} {P:Nat->Prop} {X:XV} {t:Tree} (hE:ETP w P X t) (hd:dep t<=9000) (hlen:(zai t).length<=1000000000) :
  Calls Tryz.prog 12 #[X.val] w (zhv (zai t) w):=(callsIn_wide (n:=6)).1 (zz2 hE hd hlen)
end Go.Proofs.YtekjnfldgjcgeaaGreatDoor
namespace Go.Proofs.YtekjnfldgjcgeaaGreatDoor
open Go.RowKit
theorem zb3 {W W':World} {base size n:Nat} {e:TypeId} {v:Value} {xs:List Value} (h:W.ownsRow base e size v n xs) (hb:Below W.heap.size W W'):W'.ownsRow base e size v n xs:=by
 refine ⟨h.1,?_⟩
 rcases h.2 with hn | ⟨g,cap,cur,hv,hb',hg,rest⟩
 ·exact .inl hn
 ·exact .inr ⟨g,cap,cur,hv,hb',(hb.block g (Array.getElem?_eq_some_iff.1 hg).1).trans hg,rest⟩
theorem zhw {w:World} {ops:Array Oper} {rest:List Oper} {o:Oper} {a:Act} {Q:Exit->Act->World->Prop} (hgd:o.guard=none) (sx xx:Operand)
  (ho:o.op=.call { callee:=.builtin .append,args:=#[sx,xx],argTypes:=#[42,42] }) (base b2:Nat) (v v2:Value) (L L2:List (List Int)) (hs:a.eval sx=v) (hx:a.eval xx=v2)
  (h:w.ownsRow base 9 1 v L.length (zbr L)) (h2:w.ownsRow b2 9 1 v2 L2.length (zbr L2)) (hle:L.length+L2.length<=1000000000) (hbase:base<=w.heap.size)
  (K:∀ v' w',w'.ownsRow base 9 1 v' (L++L2).length (zbr (L++L2))->w.grownBy w' v.ownBlock->wpList Tryz.prog ops Q rest (a.put o.dst v') w'):wpList Tryz.prog ops Q (o::rest) a w:=by
 obtain ⟨i0,hi0,hz0,hz1,hz2⟩:=info_parts zhu
 rcases zan h2 with ⟨rfl,h0⟩ | ⟨g,cap,rfl⟩
 ·have e:L2=[]:=List.length_eq_zero_iff.1 h0
  subst e
  exact wpList_append_own_none hgd sx xx 42 ho base 9 i0 1 Tryz.underlying42 hi0 v _ _ hs h hx (K v w (by simpa using h) (zak _ _))
 ·refine wpList_append_own_at _ hgd sx xx 42 ho base 9 i0 _ 1 16 Tryz.underlying42 hi0 hz0 hz1 hz2 rfl (by decide) v L.length (zbr L) hs h ⟨g,0,none⟩ L2.length cap (zbr L2) hx (by rw [zt3];omega) (fun j u hj=>?_) ?_ (by unfold maxLen;omega) (by omega) hbase ?_
  ·have:=zaq h2 hj
   cases j<;>simpa [Addr.add] using this
  ·intro u hu
   unfold zbr at hu
   rw [List.mem_map] at hu
   obtain ⟨x,_,rfl⟩:=hu
   rfl
  ·intro v' w' hown hgrow _ _
   have e:zbr (L++L2)=zbr L++zbr L2:=by simp [zbr]
   exact K v' w' (by rw [List.length_append,e];exact hown) hgrow
theorem zcd {W:World} {base size n:Nat} {e:TypeId} {v:Value} {xs:List Value} (h:W.ownsRow base e size v n xs):∀ b,v.ownBlock=some b->base<=b:=fun b hb=>by
 rcases zan h with ⟨rfl,_⟩ | ⟨g',cap,rfl⟩
 ·simp [Value.ownBlock] at hb
 ·have:=(zb0 h).1
  simp [Value.ownBlock] at hb
  omega
theorem RowAny.at7 {W:World} {c:Option Addr} {n cap:Nat} {xs:List Value} (h:RowAny W (.slice c n cap) n xs) (hn:0<n):∃ g off,c=some ⟨g,off,none⟩/\n<=cap/\g<W.heap.size/\∀ (j:Nat) (u:Value),xs[j]?=some u->W.cell? ⟨g,off+j,none⟩=some u:=by
 rcases h with ⟨h0,_⟩ | ⟨g,off,cap',hv,h1,_,h3,h4⟩
 ·omega
 ·simp at hv
  obtain ⟨rfl,rfl⟩:=hv
  exact ⟨g,off,rfl,h1,h3,h4⟩
theorem ETree.kidsE {W:World} {X:XV} {t:Tree} (h:ETree W X t):∃ (x ns:List Int) (kids:List Tree) (vs:List XV),t=.mk X.kind x ns X.lo X.hi kids/\X.text=za3 x/\zar x/\RowAny W X.ks kids.length (vs.flatMap XV.cells)/\vs.length=kids.length/\(∀ (i:Nat) (y:XV) (t:Tree),vs[i]?=some y->kids[i]?=some t->ETree W y t)/\X.ns.oneCell'=true:=by
 cases h with
 | mk vs h0 hl h1 h2 h3 h4=>exact ⟨_,_,_,vs,rfl,rfl,⟨h0,hl⟩,h2,h3,h4,h1.one⟩
theorem qbt:∀ (k:Nat) (w:World) (X:XV) (t:Tree),ETree w X t->t.tw<=k->(zai t).length<=100000000->Calls Tryz.prog 32 #[X.val] w (zhv (zai t) w):=by
 intro k
 induction k using Nat.strongRecOn with
 | _ k ih =>
 intro w X t hE hk hlen
 obtain ⟨x,ns,kids,vs,rfl,htx,hto,h1,h2,h3,hns⟩:=hE.kidsE
 have HTW:Hid ((Tree.mk X.kind x ns X.lo X.hi kids).tw=1+x.length+ns.length+(kids.map Tree.tw).sum):=by unfold Hid;rw [Tree.tw]
 have hnm:=zdt X.kind X.lo X.hi x ns kids
 obtain ⟨kk,tx,nv,lo,hi,kv⟩:=X
 simp only [] at htx hns h1 HTW hnm hk hlen
 simp only [] at hE
 have H2:=hh9 h2
 have H3:=hh9 h3
 have IH:=hh9 ih
 have HK:=hh9 hk
 have HLEN:=hh9 hlen
 obtain ⟨n,hn⟩:∃ n,n=kids.length:=⟨_,rfl⟩
 rw [<- hn] at h1
 have HN:=hh9 hn
 obtain ⟨NM,hNM⟩:∃ NM,NM=zai (Tree.mk kk x ns lo hi kids):=⟨_,rfl⟩
 have HNM:=hh9 (hNM.trans hnm)
 have HNM0:=hh9 hNM
 rw [<- hNM]
 obtain ⟨ka,kc,hkv⟩:∃ ka kc,kv=.slice ka n kc:=by
  obtain ⟨a,c,h,_⟩:=h1.slice
  exact ⟨a,c,h⟩
 have hnmax:n<=9223372036854775807:=by
  obtain ⟨_,_,_,h⟩:=h1.slice
  exact h
 subst hkv
 have HR:=hh9 h1
 have HTX:=hh9 htx
 have hb0:Below w.heap.size w (w.alloc (xobj kk lo hi tx nv (.slice ka n kc))):=(Below.refl _ _).alloc (Nat.le_refl _) _
 have HB0:=hh9 hb0
 have HX0:Hid (BoxX (w.alloc (xobj kk lo hi tx nv (.slice ka n kc))) w.heap.size ⟨kk,tx,nv,lo,hi,.slice ka n kc⟩):=heap_alloc_new w (xobj kk lo hi tx nv (.slice ka n kc))
 clear hE h1 h2 h3 ih hk hlen hn hNM hnm htx hb0
 have hlw:(w.alloc (xobj kk lo hi tx nv (.slice ka n kc))).heap.size=w.heap.size+1:=by simp
 obtain ⟨b0,b1,b2,b3,b4,b5⟩:=HX0.out.cells
 simp only [] at b0 b1 b2 b3 b4 b5
 show Calls Tryz.prog 32 #[.agg #[.int .i64 kk,.string tx,nv,.int .i64 lo,.int .i64 hi,.slice ka n kc]] w _
 unfold xobj at HX0 HB0 b0 b1 b2 b3 b4 b5 hlw
 by_cases hk4:kk=4
 ·rw [if_pos hk4] at HNM
  obtain ⟨HD,hHD⟩:∃ HD,HD=[x]:=⟨_,rfl⟩
  rw [<- hHD] at HNM
  have HHD:=hh9 hHD
  subst hk4
  clear hHD
  have HROWN:Hid (((w.alloc (.cells #[.int .i64 4,.string tx,nv,.int .i64 lo,.int .i64 hi,.slice ka n kc] 35)).alloc (.cells #[.string tx] 9)).ownsRow (w.heap.size+1) 9 1 (.slice (some ⟨w.heap.size+1,0,none⟩) 1 1) HD.length (zbr HD)):=by
   rw [HHD.out,HTX.out]
   refine row_of_block (cs:=#[.string (za3 x)]) (Nat.le_refl _) ?_ (by unfold maxLen;simp) (by simp)
   have h:=heap_alloc_new (w.alloc (.cells #[.int .i64 4,.string (za3 x),nv,.int .i64 lo,.int .i64 hi,.slice ka n kc] 35)) (.cells #[.string (za3 x)] 9)
   rw [World.size_alloc] at h
   exact h
  go_enter Tryz.func32,Tryz.ntmps32
  go_wp2_with (at_builtin;go_loud (refine zhw rfl _ _ rfl (w.heap.size+1) (w.heap.size+1) _ _ [] HD rfl rfl (World.ownsRow_nil _ _ _ _) HROWN.out (by rw [HHD.out];simp) (by simp<;>omega) ?_);intro v' w1 hown hgrow;have HOWN:=hh9 hown;have HGROW:Hid (World.grownBy _ w1 none):=hgrow;clear hown hgrow)
  have hbx1:BoxX w1 w.heap.size ⟨4,tx,nv,lo,hi,.slice ka n kc⟩:=(HGROW.out.block _ (by simp<;>omega) (fun e=>by cases e)).trans (zfv _ _ HX0.out)
  have hbw1:Below w.heap.size w w1:=(HB0.out.alloc (by simp) _).grown HGROW.out (by simp<;>omega) (fun b hb=>by cases hb)
  obtain ⟨c0,c1,c2,c3,c4,c5⟩:=hbx1.cells
  simp only [] at c0 c1 c2 c3 c4 c5
  go_loopw [3,4] (fun s v wr=>∃ (i:Nat) (u:Value),s=u/\v=.int .i64 i/\i<=n/\Hid (wr.ownsRow (w.heap.size+1) 9 1 u (HD++((kids.take i).map zai).flatten).length (zbr (HD++((kids.take i).map zai).flatten)))/\Hid (Below w.heap.size w wr)/\Hid (BoxX wr w.heap.size ⟨4,tx,nv,lo,hi,.slice ka n kc⟩)) (fun _ v _=>n-(intOf v).toNat)
  case atStart=>exact ⟨0,_,rfl,rfl,Nat.zero_le _,(by have:=HOWN.out;simpa [Hid] using this),hbw1,hbx1⟩
  case round =>
   obtain ⟨i,u,rfl,rfl,hi',HROW,HBEL,HBX⟩:=hrel
   obtain ⟨b0,b1,b2,b3,b4,b5⟩:=HBX.out.cells
   simp only [] at b0 b1 b2 b3 b4 b5
   by_cases hlt:i<n
   ·obtain ⟨Y,hY⟩:∃ y,vs[i]?=some y:=⟨_,List.getElem?_eq_getElem (by rw [H2.out,<- HN.out];exact hlt)⟩
    obtain ⟨t,ht⟩:∃ y,kids[i]?=some y:=⟨_,List.getElem?_eq_getElem (by rw [<- HN.out];exact hlt)⟩
    obtain ⟨g,off,rfl,hnc,hgl,hcs⟩:=HR.out.at7 (Nat.lt_of_le_of_lt (Nat.zero_le _) hlt)
    have CX:∀ (j:Nat) (u:Value),j<6->Y.cells[j]?=some u->wr.cell? ⟨g,off+(i*6+j),none⟩=some u:=fun j u hj hu =>
     (HBEL.out.cell (p:=⟨g,off+(i*6+j),none⟩) hgl).trans (hcs _ u ((zc9 vs i j Y hY hj).trans hu))
    have hEY:=(H3.out i Y t hY ht).under HBEL.out
    have htk:=zjq ht
    have hfl:=zfu kids (i+1)
    rw [htk,List.length_append] at hfl
    have hNL:NM.length=HD.length+((kids.map zai).flatten).length:=by rw [HNM.out,List.length_append]
    have hLE:=HLEN.out
    rw [<- HNM0.out] at hLE
    have hmem:t∈kids:=List.mem_of_getElem? ht
    have htm:=zlh hmem
    have hki:=HK.out
    rw [HTW.out] at hki
    have HNX:=hh9 (IH.out t.tw (by omega) wr Y t hEY (Nat.le_refl _) (by omega))
    have HLT:Hid ((HD++((kids.take i).map zai).flatten).length+(zai t).length<=1000000000):=by unfold Hid;rw [List.length_append];omega
    have HTK:Hid (HD++((kids.take (i+1)).map zai).flatten=(HD++((kids.take i).map zai).flatten)++zai t):=by unfold Hid;rw [htk,List.append_assoc]
    obtain ⟨k2,s2,nv2,lo2,hi2,kv2⟩:=Y
    have e0:=CX 0 _ (by omega) rfl
    have e1:=CX 1 _ (by omega) rfl
    have e2:=CX 2 _ (by omega) rfl
    have e3:=CX 3 _ (by omega) rfl
    have e4:=CX 4 _ (by omega) rfl
    have e5:=CX 5 _ (by omega) rfl
    rw [<- Nat.add_assoc] at e0 e1 e2 e3 e4 e5
    rw [Nat.add_zero] at e0
    simp only [] at e0 e1 e2 e3 e4 e5
    unfold XV.val at HNX
    simp only [] at HNX
    clear CX hY ht hEY htk hfl hNL hLE hmem htm hki hcs hgl
    go_wp2_with (first
     | (go_at_call 32;refine HNX.out.mono ?_;rintro e w2 ⟨v2,rfl,hrow2,hb2⟩;have HB2:=hh9 hb2;have HR2:=hh9 hrow2;have HRW2:=hh9 (zb3 HROW.out hb2);clear hb2 hrow2)
     | (at_builtin;refine zhw rfl _ _ rfl (w.heap.size+1) wr.heap.size _ _ (HD++((kids.take i).map zai).flatten) (zai t) rfl rfl HRW2.out HR2.out HLT.out (by have h1:=HBX.out;have h2:=(Array.getElem?_eq_some_iff.1 h1).1;have h3:=HB2.out.size;omega) ?_;intro v' w3 hown hgrow;have HOWN:=hh9 hown;have HGROW:=hh9 hgrow;clear hown hgrow))
    have hbx2:BoxX w2 w.heap.size ⟨4,tx,nv,lo,hi,.slice (some ⟨g,off,none⟩) n kc⟩:=(HB2.out.block _ (Array.getElem?_eq_some_iff.1 HBX.out).1).trans HBX.out
    have hown2:=zcd HRW2.out
    have hbx3:BoxX w3 w.heap.size ⟨4,tx,nv,lo,hi,.slice (some ⟨g,off,none⟩) n kc⟩:=(HGROW.out.block _ (Array.getElem?_eq_some_iff.1 hbx2).1 (fun e=>by have:=hown2 _ e.symm;omega)).trans hbx2
    go_roundw
    case rel=>exact ⟨i+1,v',rfl,by go_num,by omega,by rw [HTK.out];exact HOWN,(za0 HBEL.out HB2.out).grown HGROW.out (Nat.le_trans HBEL.out.size HB2.out.size) (fun b hb=>by have:=hown2 b hb;omega),hbx3⟩
    case measure=>simp [intOf];omega
   ·obtain rfl:i=n:=by omega
    have HEND:=HROW.out
    rw [List.take_of_length_le (by have:=HN.out;omega),<- HNM.out] at HEND
    go_wp2_with fail
    go_ret
    exact ⟨_,rfl,zcx HEND (by omega),HBEL.out⟩
 ·rw [if_neg hk4] at HNM
  obtain ⟨HD,hHD⟩:∃ HD:List (List Int),HD=[]:=⟨_,rfl⟩
  rw [<- hHD] at HNM
  have HHD:=hh9 hHD
  have hk5:(kk==4)=false:=by simpa using hk4
  clear hHD hk4
  go_enter Tryz.func32,Tryz.ntmps32
  go_wp2_with fail
  go_loopw [3,4] (fun s v wr=>∃ (i:Nat) (u:Value),s=u/\v=.int .i64 i/\i<=n/\Hid (wr.ownsRow (w.heap.size+1) 9 1 u (HD++((kids.take i).map zai).flatten).length (zbr (HD++((kids.take i).map zai).flatten)))/\Hid (Below w.heap.size w wr)/\Hid (BoxX wr w.heap.size ⟨kk,tx,nv,lo,hi,.slice ka n kc⟩)) (fun _ v _=>n-(intOf v).toNat)
  case atStart=>exact ⟨0,_,rfl,rfl,Nat.zero_le _,(by rw [HHD.out];exact World.ownsRow_nil _ _ _ _),HB0,HX0⟩
  case round =>
   obtain ⟨i,u,rfl,rfl,hi',HROW,HBEL,HBX⟩:=hrel
   obtain ⟨b0,b1,b2,b3,b4,b5⟩:=HBX.out.cells
   simp only [] at b0 b1 b2 b3 b4 b5
   by_cases hlt:i<n
   ·obtain ⟨Y,hY⟩:∃ y,vs[i]?=some y:=⟨_,List.getElem?_eq_getElem (by rw [H2.out,<- HN.out];exact hlt)⟩
    obtain ⟨t,ht⟩:∃ y,kids[i]?=some y:=⟨_,List.getElem?_eq_getElem (by rw [<- HN.out];exact hlt)⟩
    obtain ⟨g,off,rfl,hnc,hgl,hcs⟩:=HR.out.at7 (Nat.lt_of_le_of_lt (Nat.zero_le _) hlt)
    have CX:∀ (j:Nat) (u:Value),j<6->Y.cells[j]?=some u->wr.cell? ⟨g,off+(i*6+j),none⟩=some u:=fun j u hj hu =>
     (HBEL.out.cell (p:=⟨g,off+(i*6+j),none⟩) hgl).trans (hcs _ u ((zc9 vs i j Y hY hj).trans hu))
    have hEY:=(H3.out i Y t hY ht).under HBEL.out
    have htk:=zjq ht
    have hfl:=zfu kids (i+1)
    rw [htk,List.length_append] at hfl
    have hNL:NM.length=HD.length+((kids.map zai).flatten).length:=by rw [HNM.out,List.length_append]
    have hLE:=HLEN.out
    rw [<- HNM0.out] at hLE
    have hmem:t∈kids:=List.mem_of_getElem? ht
    have htm:=zlh hmem
    have hki:=HK.out
    rw [HTW.out] at hki
    have HNX:=hh9 (IH.out t.tw (by omega) wr Y t hEY (Nat.le_refl _) (by omega))
    have HLT:Hid ((HD++((kids.take i).map zai).flatten).length+(zai t).length<=1000000000):=by unfold Hid;rw [List.length_append];omega
    have HTK:Hid (HD++((kids.take (i+1)).map zai).flatten=(HD++((kids.take i).map zai).flatten)++zai t):=by unfold Hid;rw [htk,List.append_assoc]
    obtain ⟨k2,s2,nv2,lo2,hi2,kv2⟩:=Y
    have e0:=CX 0 _ (by omega) rfl
    have e1:=CX 1 _ (by omega) rfl
    have e2:=CX 2 _ (by omega) rfl
    have e3:=CX 3 _ (by omega) rfl
    have e4:=CX 4 _ (by omega) rfl
    have e5:=CX 5 _ (by omega) rfl
    rw [<- Nat.add_assoc] at e0 e1 e2 e3 e4 e5
    rw [Nat.add_zero] at e0
    simp only [] at e0 e1 e2 e3 e4 e5
    unfold XV.val at HNX
    simp only [] at HNX
    clear CX hY ht hEY htk hfl hNL hLE hmem htm hki hcs hgl
    go_wp2_with (first
     | (go_at_call 32;refine HNX.out.mono ?_;rintro e w2 ⟨v2,rfl,hrow2,hb2⟩;have HB2:=hh9 hb2;have HR2:=hh9 hrow2;have HRW2:=hh9 (zb3 HROW.out hb2);clear hb2 hrow2)
     | (at_builtin;refine zhw rfl _ _ rfl (w.heap.size+1) wr.heap.size _ _ (HD++((kids.take i).map zai).flatten) (zai t) rfl rfl HRW2.out HR2.out HLT.out (by have h1:=HBX.out;have h2:=(Array.getElem?_eq_some_iff.1 h1).1;have h3:=HB2.out.size;omega) ?_;intro v' w3 hown hgrow;have HOWN:=hh9 hown;have HGROW:=hh9 hgrow;clear hown hgrow))
    have hbx2:BoxX w2 w.heap.size ⟨kk,tx,nv,lo,hi,.slice (some ⟨g,off,none⟩) n kc⟩:=(HB2.out.block _ (Array.getElem?_eq_some_iff.1 HBX.out).1).trans HBX.out
    have hown2:=zcd HRW2.out
    have hbx3:BoxX w3 w.heap.size ⟨kk,tx,nv,lo,hi,.slice (some ⟨g,off,none⟩) n kc⟩:=(HGROW.out.block _ (Array.getElem?_eq_some_iff.1 hbx2).1 (fun e=>by have:=hown2 _ e.symm;omega)).trans hbx2
    go_roundw
    case rel=>exact ⟨i+1,v',rfl,by go_num,by omega,by rw [HTK.out];exact HOWN,(za0 HBEL.out HB2.out).grown HGROW.out (Nat.le_trans HBEL.out.size HB2.out.size) (fun b hb=>by have:=hown2 b hb;omega),hbx3⟩
    case measure=>simp [intOf];omega
   ·obtain rfl:i=n:=by omega
    have HEND:=HROW.out
    rw [List.take_of_length_le (by have:=HN.out;omega),<- HNM.out] at HEND
    go_wp2_with fail
    go_ret
    exact ⟨_,rfl,zcx HEND (by omega),HBEL.out⟩
end Go.Proofs.YtekjnfldgjcgeaaGreatDoor
namespace Go.Proofs.YtekjnfldgjcgeaaGreatDoor
open Go.RowKit Go.Maps
theorem zfx:Keyed Tryz.prog 9:=string_keyed Tryz.underlying9
theorem zmr (w:World):(zeroValue 3).run Tryz.prog w=.ok (.int .i64 0) w:=by kernel_rfl
def keyT (x:List Int):Lit:=.string (za3 x).data.toList
theorem zgd {x:List Int} (h:zar x):keyOf Tryz.prog 9 (.string (za3 x))=some (keyT x):=WideMaps.keyOf_string_mk Tryz.underlying9 (by rw [za9];unfold maxLen;have:=h.2;omega)
theorem zj0 {x y:List Int} (hx:zar x) (hy:zar y) (h:keyT x=keyT y):x=y:=by
 unfold keyT at h
 injection h with h
 refine zjo hx.1 hy.1 ?_
 exact ByteArray.ext (Array.toList_inj.1 h)
theorem zrb (n:Nat) (h:n<=1000000000):(Lit.int .i64 (n:Int)).wf=true:=by
 simp only [Lit.wf,IntKind.min,IntKind.max,IntKind.signed,IntKind.bits,Bool.and_eq_true,decide_eq_true_eq]
 constructor<;>simp<;>omega
def MapG (D:DataW Unit) (g:List GR):Prop:=∀ x,zar x->Maps.has D (keyT x)=(zay g x).isSome/\∀ i,zay g x=some i->D.atKey (keyT x) (.lit (.int .i64 0))=.lit (.int .i64 (i:Int))
theorem MapG.start:MapG (.map []) []:=fun x _=>⟨rfl,fun i h=>by simp [zay] at h⟩
theorem MapG.push {D:DataW Unit} {g:List GR} {r:GR} (h:MapG D g) (ht:Maps.Tidy D) (hr:zar r.name) (hno:zay g r.name=none):MapG (D.put (keyT r.name) (.lit (.int .i64 (g.length:Int)))) (g++[r]):=by
 have hkl:WideAt.IsKeyLit (keyT r.name):=by unfold keyT;trivial
 intro x hx
 rw [zdu]
 by_cases e:x=r.name
 ·subst e
  rw [hno,Maps.has_put_same ht.isMap hkl,Maps.atKey_put_same ht.isMap hkl]
  refine ⟨by simp [zay],fun i hi=>?_⟩
  simp [zay] at hi
  rw [<- hi]
 ·have hk:keyT x≠keyT r.name:=fun h=>e (zj0 hx hr h)
  rw [Maps.has_put_other hk,Maps.atKey_put_other hk]
  have h2:=h x hx
  cases hf:zay g x with
  | some i =>
   rw [hf] at h2
   exact ⟨h2.1,fun j hj=>h2.2 j hj⟩
  | none =>
   rw [hf] at h2
   have e2:zay [r] x=none:=by unfold zay;rw [if_neg (fun h=>e h.symm)];rfl
   rw [e2]
   exact ⟨h2.1,fun j hj=>by cases hj⟩
structure GAt (W:World) (base R m:Nat) (v:Value) (ys:List RV) (g:List GR):Prop where
 blk:W.heap[R]?=some (.cells #[v,.map (some m)] 59 (0,0))
 row:W.ownsRow base 39 7 v g.length (ys.flatMap RV.cells)
 len:ys.length=g.length
 map:∃ D:DataW Unit,W.ownsMap Tryz.prog 9 (plainElem Tryz.prog 3) m g.length D/\MapG D g
 name:∀ (i:Nat) (y:RV) (r:GR),ys[i]?=some y->g[i]?=some r->y.name=za3 r.name/\zar r.name
theorem GAt.cells {W:World} {base R m:Nat} {v:Value} {ys:List RV} {g:List GR} (h:GAt W base R m v ys g):W.cell? ⟨R,0,none⟩=some v/\W.cell? ⟨R,1,none⟩=some (.map (some m))/\R<W.heap.size:=by
 have hb:=h.blk
 refine ⟨?_,?_,(Array.getElem?_eq_some_iff.1 hb).1⟩<;>(unfold World.cell?;simp only [hb];rfl)
theorem GAt.frozen {W:World} {base R m:Nat} {v:Value} {ys:List RV} {g:List GR} (h:GAt W base R m v ys g) (j:Nat):W.frozen? ⟨R,j,none⟩=false:=by
 have hb:=h.blk
 simp [World.frozen?,hb]
theorem GAt.below {W W':World} {base R m:Nat} {v:Value} {ys:List RV} {g:List GR} (h:GAt W base R m v ys g) (hb:Below W.heap.size W W'):GAt W' base R m v ys g:=by
 obtain ⟨D,h1,h2⟩:=h.map
 refine ⟨(hb.block R h.cells.2.2).trans h.blk,zb3 h.row hb,h.len,⟨D,?_,h2⟩,h.name⟩
 have hlt:=h1.lt
 obtain ⟨es,clock,hh,r⟩:=h1
 exact ⟨es,clock,(hb.block m hlt).trans hh,r⟩
theorem zo4 {W W':World} {base size n m:Nat} {e:TypeId} {v:Value} {xs:List Value} (h:W.ownsRow base e size v n xs) (hg:W.grownBy W' (some m)) (hm:m<base):W'.ownsRow base e size v n xs:=by
 refine ⟨h.1,?_⟩
 rcases h.2 with hn | ⟨g,cap,cur,hv,hb,hg',rest⟩
 ·exact .inl hn
 ·exact .inr ⟨g,cap,cur,hv,hb,(hg.block g (Array.getElem?_eq_some_iff.1 hg').1 (fun e=>by have:=Option.some.inj e;omega)).trans hg',rest⟩
theorem zli (w:World) (cs:Array Value) (t:TypeId) (l:List Value) (hl:l=cs.toList):∀ j u,l[j]?=some u->(w.alloc (.cells cs t)).cell? ((⟨w.heap.size,0,none⟩:Addr).add j)=some u:=by
 intro j u hj
 subst hl
 have h:=heap_alloc_new w (.cells cs t)
 have e:(⟨w.heap.size,0,none⟩:Addr).add j=⟨w.heap.size,j,none⟩:=by cases j<;>simp [Addr.add]
 rw [e]
 unfold World.cell?
 simp only [h]
 simpa using hj
theorem zch {W W':World} {P:Program} {t:TypeId} {R:Value->Option (DataW Unit × List MemPlace)} {b m:Nat} {D:DataW Unit} (h:W.ownsMap P t R b m D) (hb:W'.heap[b]?=W.heap[b]?):W'.ownsMap P t R b m D:=by
 obtain ⟨es,clock,hh,r⟩:=h
 exact ⟨es,clock,hb.trans hh,r⟩
theorem zfy {W W':World} {row:Option Nat} (hg:W.grownBy W' row) (hr:∀ b,row=some b->∀ c t z,W.heap[b]?=some (.cells c t z)->¬ KT t):zap (fun _=>False) W W' :=
 ⟨hg.size,fun b c t z _ ht hb=>(hg.block b (Array.getElem?_eq_some_iff.1 hb).1 (fun e=>hr b e.symm c t z hb ht)).trans hb⟩
theorem zjs (W:World):zap (fun _=>False) W W.drew:=zap.below (za7 (Below.refl _ _) 1)
theorem zik (W:World) (o:Obj):zap (fun _=>False) W (W.alloc o):=zap.below ((Below.refl _ _).alloc (Nat.le_refl _) _)
theorem zdr {W:World} {base size n b:Nat} {e:TypeId} {v:Value} {xs:List Value} (h:W.ownsRow base e size v n xs) (hb:v.ownBlock=some b) {c:Array Value} {t:TypeId} {z:Nat × Nat} (hc:W.heap[b]?=some (.cells c t z)):t=e:=by
 rcases h.2 with ⟨rfl,_⟩ | ⟨g,cap,cur,rfl,_,hg,_⟩
 ·simp [Value.ownBlock] at hb
 ·simp [Value.ownBlock] at hb
  subst hb
  have:=Option.some.inj (hc.symm.trans hg)
  simp at this
  exact this.2.1
theorem zrc:(Tryz.prog.info? 39).map (fun i=>(i.zero,i.size,i.bytes))=some (some (.agg #[.string ⟨#[]⟩,.int .i64 0,.string ⟨#[]⟩,.slice none 0 0,.int .i64 0,.int .i64 0,.slice none 0 0]),7,104):=by kernel_rfl
theorem zvg {w:World} {base R m:Nat} {v:Value} {ys:List RV} {g:List GR} (h:GAt w base R m v ys g) (hR:R<base) (hm:m<base) (hne:R≠m) (hbase:base<=w.heap.size) (Y:RV) (r:GR) (hn:Y.name=za3 r.name/\zar r.name) (hno:zay g r.name=none) (hlen:g.length<=1000000)
  (h1:Y.expr.ns.oneCell'=true) (h2:Y.expr.ks.oneCell'=true) :
  Calls Tryz.prog 42 #[.pointer (some ⟨R,0,none⟩),Y.val] w
   (fun e w'=>e=.returned (.tuple #[])/\∃ v',GAt w' base R m v' (ys++[Y]) (g++[r])/\zap (fun _=>False) w w'/\(∀ b,b<w.heap.size->b≠R->b≠m->v.ownBlock≠some b->w'.heap[b]?=w.heap[b]?)/\(v'.ownBlock=v.ownBlock\/∃ k,v'.ownBlock=some k/\w.heap.size<=k)/\∀ n0,n0<=R->n0<=m->n0<=base->Below n0 w w'):=by
 obtain ⟨nm,⟨k,tx,nv,lo,hi,kv⟩⟩:=Y
 obtain ⟨D,hD,hMG⟩:=h.map
 simp only [] at hn h1 h2
 obtain ⟨va,vc,rfl⟩:∃ va vc,v=.slice va g.length vc:=by
  rcases zan h.row with ⟨rfl,h0⟩ | ⟨b,cap,rfl⟩
  ·exact ⟨none,0,by rw [h0]⟩
  ·exact ⟨_,_,rfl⟩
 obtain ⟨hn1,hn2⟩:=hn
 subst hn1
 have hval:plainElem (H:=Unit) Tryz.prog 3 (.int .i64 (g.length:Int))=some (.lit (.int .i64 (g.length:Int)),[]):=plainElem_int Tryz.underlying3 (zrb _ (by omega))
 have hD1:=(hD.alloc (.cells #[.string (za3 r.name),.int .i64 k,.string tx,nv,.int .i64 lo,.int .i64 hi,kv] 39)).drew
 obtain ⟨w1,hrun,hD2,hg1⟩:=hD1.update zfx Tryz.underlying57 (by unfold maxLen;omega) (zgd hn2) hval
 obtain ⟨c0,c1,hRl⟩:=h.cells
 have a0:=zbi c0 (.cells #[.string (za3 r.name),.int .i64 k,.string tx,nv,.int .i64 lo,.int .i64 hi,kv] 39)
 have a1:=zbi c1 (.cells #[.string (za3 r.name),.int .i64 k,.string tx,nv,.int .i64 lo,.int .i64 hi,kv] 39)
 have hfr:=h.frozen
 obtain ⟨S,hS⟩:∃ S,S=za3 r.name:=⟨_,rfl⟩
 rw [<- hS] at hrun a0 a1 hg1 hD1
 show Calls Tryz.prog 42 #[.pointer (some ⟨R,0,none⟩),.agg #[.string (za3 r.name),.int .i64 k,.string tx,nv,.int .i64 lo,.int .i64 hi,kv]] w _
 rw [<- hS]
 have H:=hh9 h
 have HD1:=hh9 hD1
 have HMG:=hh9 hMG
 have HD2:=hh9 hD2
 have HG1:=hh9 hg1
 have HS:=hh9 hS
 clear h hD hMG hD1 hD2 hS
 go_enter Tryz.func42,Tryz.ntmps42
 go_wp2_with fail
 go_region
 have hsz1:(((w.alloc (.cells #[.string S,.int .i64 k,.string tx,nv,.int .i64 lo,.int .i64 hi,kv] 39)).drew).heap.size)=w.heap.size+1:=by simp
 have hg1s:=hg1.size
 rw [hsz1] at hg1s
 have hR1:w1.heap[R]?=some (.cells #[.slice va g.length vc,.map (some m)] 59 (0,0)):=(hg1.block R (by rw [hsz1];omega) (fun e=>by have:=Option.some.inj e;omega)).trans ((Below.heap_alloc _ _ _ hRl).trans H.out.blk)
 have hX1:w1.heap[w.heap.size]?=some (.cells #[.string S,.int .i64 k,.string tx,nv,.int .i64 lo,.int .i64 hi,kv] 39 (0,0)):=(hg1.block w.heap.size (by rw [hsz1];omega) (fun e=>by have:=Option.some.inj e;omega)).trans (heap_alloc_new w _)
 have r0:w1.cell? ⟨R,0,none⟩=some (.slice va g.length vc):=by unfold World.cell?;simp only [hR1];rfl
 have x0:w1.cell? ⟨w.heap.size,0,none⟩=some (.string S):=by unfold World.cell?;simp only [hX1];rfl
 have x1:w1.cell? ⟨w.heap.size,1,none⟩=some (.int .i64 k):=by unfold World.cell?;simp only [hX1];rfl
 have x2:w1.cell? ⟨w.heap.size,2,none⟩=some (.string tx):=by unfold World.cell?;simp only [hX1];rfl
 have x3:w1.cell? ⟨w.heap.size,3,none⟩=some nv:=by unfold World.cell?;simp only [hX1];rfl
 have x4:w1.cell? ⟨w.heap.size,4,none⟩=some (.int .i64 lo):=by unfold World.cell?;simp only [hX1];rfl
 have x5:w1.cell? ⟨w.heap.size,5,none⟩=some (.int .i64 hi):=by unfold World.cell?;simp only [hX1];rfl
 have x6:w1.cell? ⟨w.heap.size,6,none⟩=some kv:=by unfold World.cell?;simp only [hX1];rfl
 have hrow1:w1.ownsRow base 39 7 (.slice va g.length vc) g.length (ys.flatMap RV.cells):=zo4 (zb3 (zb3 H.out.row ((Below.refl _ _).alloc (Nat.le_refl _) (.cells #[.string S,.int .i64 k,.string tx,nv,.int .i64 lo,.int .i64 hi,kv] 39))) (za7 (Below.refl _ _) 1)) hg1 hm
 have HROW:=hh9 (show (((w1.drew).alloc (.cells #[.string S,.int .i64 k,.string tx,nv,.int .i64 lo,.int .i64 hi,kv] 39))).ownsRow base 39 7 (.slice va g.length vc) g.length (ys.flatMap RV.cells) from zb3 (show w1.drew.ownsRow base 39 7 (.slice va g.length vc) g.length (ys.flatMap RV.cells) from hrow1) ((Below.refl _ _).alloc (Nat.le_refl _) _))
 have HR1:=hh9 hR1
 have hR1l:=(Array.getElem?_eq_some_iff.1 hR1).1
 obtain ⟨i0,hi0,hz0,hz1,hz2⟩:=info_parts zrc
 have HOWN0:=hh9 (zcd hrow1)
 clear hR1 hX1 hrow1 a0 a1 c0 c1 hrun hfr
 go_wp2_with fail
 go_region_law (refine step_append_lies _ (by rfl) _ _ _ (by rfl) base 39 i0 _ 7 104 Tryz.underlying29 hi0 hz0 hz1 hz2 rfl (by omega) (.slice va g.length vc) g.length (ys.flatMap RV.cells) (by rfl) HROW.out ⟨w1.heap.size,0,none⟩ 1 1 [.string S,.int .i64 k,.string tx,nv,.int .i64 lo,.int .i64 hi,kv] (by rfl) (by rfl) (zli _ _ _ _ rfl) (by intro u hu;simp at hu;rcases hu with rfl | rfl | rfl | rfl | rfl | rfl | rfl<;>first | rfl | assumption) (by omega) (by unfold maxLen;omega) (by omega) (by simp;omega) (w1.heap.size+1) (by simp) ?_;intro gb cap w3 hown hgrow hat hlt3;have HOWN:=hh9 hown;have HGROW:=hh9 hgrow;have hR3:w3.heap[R]?=some (.cells #[.slice va g.length vc,.map (some m)] 59 (0,0)):=(hgrow.block R (by simp;omega) (fun e=>by have:=HOWN0.out R e.symm;omega)).trans ((Below.heap_alloc _ _ _ hR1l).trans HR1.out);have q0:w3.cell? ⟨R,0,none⟩=some (.slice va g.length vc):=(by unfold World.cell?;simp only [hR3];rfl);have q1:w3.frozen? ⟨R,0,none⟩=false:=(by simp [World.frozen?,hR3]);have HR3:=hh9 hR3;clear hown hgrow hR3)
 all_goals
  have hn3:∀ b,b<base->b<w1.heap.size->w3.heap[b]?=w1.heap[b]?:=fun b hb hl=>(HGROW.out.block b (by simp;omega) (fun e=>by have:=HOWN0.out b e.symm;omega)).trans (Below.heap_alloc _ _ _ hl)
  have hm1:m<w1.heap.size:=HD2.out.lt
  have hs3':w1.heap.size+1<=w3.heap.size:=by
   have:=HGROW.out.size
   simpa using this
  go_end0
  refine ⟨rfl,.slice (some ⟨gb,0,none⟩) (g.length+1) cap,⟨?_,?_,by simp [H.out.len],⟨_,?_,HMG.out.push (HD1.out.tidy zfx) hn2 hno⟩,?_⟩,?_,?_,hat.elim (fun e=>.inl (by rw [e];rfl)) (fun e=>.inr ⟨gb,rfl,by omega⟩),?_⟩
  ·rw [heap_setCell_same w3 R 0 _ _ _ HR3.out]
   rfl
  ·have h:=zo4 HOWN.out (grownBy_setCell' w3 R (.slice (some ⟨gb,0,none⟩) (g.length+1) cap)) hR
   simpa [RV.cells] using h
  ·have h:=zch HD2.out (W':=w3.setCell ⟨R,0,none⟩ (.slice (some ⟨gb,0,none⟩) (g.length+1) cap)) ((heap_setCell_other _ _ _ _ (Ne.symm hne)).trans (hn3 m hm hm1))
   simpa using h
  ·intro i y r' hy hr'
   by_cases hi:i<ys.length
   ·rw [List.getElem?_append_left hi] at hy
    rw [List.getElem?_append_left (by rw [<- H.out.len];exact hi)] at hr'
    exact H.out.name i y r' hy hr'
   ·have hl:i=ys.length:=by
     have:=(List.getElem?_eq_some_iff.1 hy).1
     simp at this
     omega
    subst hl
    rw [List.getElem?_append_right (Nat.le_refl _)] at hy
    rw [List.getElem?_append_right (by rw [H.out.len];exact Nat.le_refl _),H.out.len] at hr'
    simp at hy hr'
    subst hy hr'
    exact ⟨HS.out,hn2⟩
  ·have k1:zap (fun _=>False) w w1:=(zik w _).trans ((zjs _).trans (zfy HG1.out (fun b e c t z hb=>by
    have e:=Option.some.inj e
    subst e
    obtain ⟨es,clock,hh,_⟩:=HD1.out
    rw [hh] at hb
    cases hb)))
   refine k1.trans ((zik _ _).trans ((zjs _).trans ((zfy HGROW.out (fun b e c t z hb=>?_)).trans (zfy (grownBy_setCell' w3 R _) (fun b e c t z hb=>?_)))))
   ·have:=zdr HROW.out e hb
    subst this
    unfold KT
    decide
   ·have e:=Option.some.inj e
    subst e
    have:=Option.some.inj (hb.symm.trans HR3.out)
    simp at this
    rw [this.2.1]
    unfold KT
    decide
  ·intro b hb hbR hbm hbv
   have hb1:b<w1.heap.size:=by omega
   exact (heap_setCell_other _ _ _ _ hbR).trans ((HGROW.out.block b (by simp;omega) (fun e=>hbv e.symm)).trans ((Below.heap_alloc _ _ _ hb1).trans ((HG1.out.block b (by rw [hsz1];omega) (fun e=>hbm (Option.some.inj e))).trans (Below.heap_alloc _ _ _ hb))))
  ·intro n0 h1 h2 h3
   have b1:Below n0 w w1:=(za7 ((Below.refl n0 w).alloc (by omega) _) 1).grown HG1.out (by show n0<=(w.alloc _).heap.size;simp;omega) (fun b e=>by have:=Option.some.inj e;omega)
   have b3:Below n0 w w3:=(za7 (b1.alloc (by omega) _) 1).grown HGROW.out (by show n0<=(w1.alloc _).heap.size;simp;omega) (fun b e=>by have:=HOWN0.out b e;omega)
   exact b3.setCell (p:=⟨R,0,none⟩) h1 _
end Go.Proofs.YtekjnfldgjcgeaaGreatDoor
