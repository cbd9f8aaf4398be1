/- Part 38 of what the laws of the grammar rest on. -/
import Derived.Test.YtekjnfldgjcgeaaGreatDoorA23
import Derived.Test.YtekjnfldgjcgeaaGreatDoorA24
import Derived.Test.YtekjnfldgjcgeaaGreatDoorA26
import Derived.Test.YtekjnfldgjcgeaaGreatDoorA29
import Derived.Orders
set_option linter.all false
set_option maxRecDepth 100000
set_option maxHeartbeats 8000000
namespace Go.Proofs.YtekjnfldgjcgeaaGreatDoor
open Go.RowKit
section
variable {P:Program} {ops:Array Oper} {Q:Exit → Act → World → Prop} {md:Region.Mode}
theorem zg6 {listed:Array Bool} {i:Nat}:i∈Region.ready md ops listed ↔ i<ops.size/\listed.getD i true=false/\∃ o,ops[i]?=some o/\∀ e∈o.after,Region.binds md e=true->listed.getD e.on false=true:=by
 unfold Region.ready
 rw [List.mem_filter,List.mem_range]
 refine and_congr_right fun hi=>?_
 rw [Array.getElem?_eq_getElem hi]
 simp only [Option.map_some,Option.getD_some,Bool.and_eq_true,Bool.not_eq_true',Array.all_eq_true_iff_forall_mem,Bool.or_eq_true]
 refine and_congr_right fun _=>⟨fun h=>⟨_,rfl,fun e he hb=>(h e he).resolve_left (by simp [hb])⟩,fun ⟨o,ho,h⟩ e he=>?_⟩
 have e1:=Option.some.inj ho
 subst e1
 cases hb:Region.binds md e with
 | false=>exact .inl rfl
 | true=>exact .inr (h e he hb)
theorem zpa:∀ (l:List Bool) (i:Nat),l[i]?=some false->(l.set i true).count false+1=l.count false
 | [],i,h=>by simp at h
 | b::l,0,h=>by
  simp at h
  subst h
  simp
 | b::l,i+1,h=>by
  simp at h
  have:=zpa l i h
  simp only [List.set_cons_succ,List.count_cons]
  omega
theorem zpb {J:Array Bool->Act->World->Prop} (hstep:∀ (listed:Array Bool) (a:Act) (w:World) (i:Nat),listed.size=ops.size->J listed a w->i∈Region.ready md ops listed->wpOp P ops Q i (J (listed.setIfInBounds i true)) a w)
  (hdone:∀ (listed:Array Bool) (a:Act) (w:World),listed.size=ops.size->J listed a w->Region.ready md ops listed=[]->Q .normal a w) :
  ∀ (fuel:Nat) (listed:Array Bool) (a:Act) (w:World),listed.size=ops.size->listed.toList.count false<=fuel->J listed a w->wpAny P md ops Q fuel listed a w
 | 0,listed,a,w,hs,hc,hJ=>by
  have hr:Region.ready md ops listed=[]:=by
   rw [List.eq_nil_iff_forall_not_mem]
   intro i hi
   obtain ⟨h1,h2,_⟩:=zg6.1 hi
   have hl:i<listed.size:=by omega
   rw [Array.getD_eq_getD_getElem?,Array.getElem?_eq_getElem hl] at h2
   have hm:false∈listed.toList:=by
    rw [<- show listed[i]=false from h2]
    exact Array.getElem_mem_toList hl
   have:=List.count_pos_iff.2 hm
   omega
  exact ⟨hr,hdone _ _ _ hs hJ hr⟩
 | fuel+1,listed,a,w,hs,hc,hJ=>by
  refine ⟨hdone _ _ _ hs hJ,fun i hi=>wpOp_mono (fun a' w' h=>zpb hstep hdone fuel _ a' w' (by simpa using hs) ?_ h) (hstep _ _ _ i hs hJ hi)⟩
  obtain ⟨h1,h2,_⟩:=zg6.1 hi
  have hl:i<listed.size:=by omega
  rw [Array.getD_eq_getD_getElem?,Array.getElem?_eq_getElem hl] at h2
  have h3:=zpa listed.toList i (by rw [Array.getElem?_toList,Array.getElem?_eq_getElem hl];exact congrArg some h2)
  rw [Array.toList_setIfInBounds]
  omega
theorem zu2 {listed:Array Bool} (hacy:∀ (i:Nat) (o:Oper),ops[i]?=some o->∀ e∈o.after,e.on<i) (hs:listed.size=ops.size) (hr:Region.ready md ops listed=[]):∀ i,i<ops.size->listed.getD i false=true:=by
 intro i
 induction i using Nat.strongRecOn with
 | _ i ih =>
 intro hi
 cases hl:listed.getD i false with
 | true=>rfl
 | false =>
  have hm:i∈Region.ready md ops listed:=zg6.2 ⟨hi,by rw [Array.getD_eq_getD_getElem?,Array.getElem?_eq_getElem (by omega)] at hl ⊢;exact hl,ops[i],Array.getElem?_eq_getElem hi,fun e he _=>ih e.on (hacy i _ (Array.getElem?_eq_getElem hi) e he) (by have:=hacy i _ (Array.getElem?_eq_getElem hi) e he;omega)⟩
  rw [hr] at hm
  cases hm
theorem zng {id:Nat} {a:Act} {w:World} (J:Array Bool->Act->World->Prop) (hm:P.follows .mixedOrders=true)
  (h0:J (Array.replicate ops.size false) a { w with drawn:=w.drawn+1 })
  (hstep:∀ (listed:Array Bool) (a:Act) (w:World) (i:Nat),listed.size=ops.size->J listed a w->i∈Region.ready .any ops listed->wpOp P ops Q i (J (listed.setIfInBounds i true)) a w)
  (hdone:∀ (listed:Array Bool) (a:Act) (w:World),listed.size=ops.size->J listed a w->Region.ready .any ops listed=[]->Q .normal a w):(Code.region id ops true).wp P Q a w :=
 wp_region_any hm (zpb hstep hdone ops.size _ a _ (by simp) (by simp) h0)
end
theorem ETP.under {W W':World} {X:XV} {t:Tree} (h:ETP W (fun _=>True) X t) (hb:Below W.heap.size W W'):ETP W' (fun _=>True) X t:=h.kept (M:=fun _=>False) (zap.below hb) (fun b _ _=>⟨id,trivial⟩)
def zkv (W:World) (y:RV) (r:GR):Prop:=y.name=za3 r.name/\zar r.name/\ETP W (fun _=>True) y.expr r.expr
theorem zkv.under {W W':World} {y:RV} {r:GR} (h:zkv W y r) (hb:Below W.heap.size W W'):zkv W' y r:=⟨h.1,h.2.1,h.2.2.under hb⟩
def zpc (t:Tree) (w:World) (e:Ending) (w':World):Prop:=∃ k tx lo hi a1 n1 c1 a2 n2 c2,e=.returned (.agg #[.int .i64 k,.string tx,.slice a1 n1 c1,.int .i64 lo,.int .i64 hi,.slice a2 n2 c2])/\ETP w' (fun _=>True) ⟨k,tx,.slice a1 n1 c1,lo,hi,.slice a2 n2 c2⟩ t/\Below w.heap.size w w'
theorem zhn {w:World} {g:Nat} (hg:w.heap.size<=g) {W:World} (hb:Below w.heap.size w W) (X:XV):Below w.heap.size w (W.setRow g (XV.arr X)) :=
 ⟨hb.os,hb.tape,hb.output,by have:=hb.size;simp [World.setRow];omega,fun k hk=>(setRow_other _ _ _ _ (by omega)).trans (hb.block k hk)⟩
theorem zkw {W:World} {k:Int} {x:List Int} (h:zar x):ETP W (fun _=>True) ⟨k,za3 x,.slice none 0 0,0,0,.slice none 0 0⟩ (.mk k x [] 0 0 []) :=
 ETP.mk (nums:=[]) (kids:=[]) [] h.1 h.2 (.inl ⟨rfl,_,_,rfl⟩) (.inl ⟨rfl,_,_,rfl⟩) rfl (fun i y t h=>by simp at h)
theorem zsd {w:World} {S:ByteArray} {x:List Int} (hS:S=za3 x) (hx:zar x):Calls Tryz.prog 53 #[.string S] w (zpc (rfT x) w):=by
 have HRES:=hh9 (zav w)
 have HB:=hh9 (zhn (Nat.le_refl _) ((Below.refl w.heap.size w).alloc (Nat.le_refl _) (.cells #[.int .i64 0,.string ⟨#[]⟩,.slice none 0 0,.int .i64 0,.int .i64 0,.slice none 0 0] 35)) ⟨4,S,.slice none 0 0,0,0,.slice none 0 0⟩)
 have HS:=hh9 hS
 clear hS
 go_enter Tryz.func53,Tryz.ntmps53
 go_wp2_with (refine za6 rfl _ _ rfl w.heap.size ⟨4,S,.slice none 0 0,0,0,.slice none 0 0⟩ rfl rfl HRES.out rfl rfl ?_)
 exact bodyPost_ret_by (zaj rfl _ _ w.heap.size ⟨4,S,.slice none 0 0,0,0,.slice none 0 0⟩ rfl HRES.out) rfl ⟨_,_,_,_,_,_,_,_,_,_,rfl,by rw [HS.out];exact zkw hx,HB.out⟩
theorem zpd {W:World} {k:Int} {b:Nat} {cs:Array Value} {ns:List Int} (h:W.heap[b]?=some (.cells cs 3 (0,0))) (hc:cs.toList=zat ns) (hn:ns.length<=1000):ETP W (fun _=>True) ⟨k,⟨#[]⟩,.slice (some ⟨b,0,none⟩) ns.length ns.length,0,0,.slice none 0 0⟩ (.mk k [] ns 0 0 []):=by
 refine ETP.mk (x:=[]) (kids:=[]) [] (by simp) (by simp) (.inr ⟨b,0,ns.length,rfl,Nat.le_refl _,by unfold maxLen;omega,⟨_,_,by unfold KT;decide,h⟩,trivial,fun j u hj=>?_⟩) (.inl ⟨rfl,_,_,rfl⟩) rfl (fun i y t h=>by simp at h)
 unfold World.cell?
 simp only [h,Nat.zero_add]
 rw [<- hc] at hj
 simpa using hj
theorem qaj {w:World} {n:Int}:Calls Tryz.prog 55 #[.int .i64 n] w (zpc (nuT n) w):=by
 have HRES:=hh9 ((zav w).kept (Below.heap_alloc (w.alloc (.cells #[.int .i64 0,.string ⟨#[]⟩,.slice none 0 0,.int .i64 0,.int .i64 0,.slice none 0 0] 35)) (.cells #[.int .i64 n] 3) w.heap.size (by simp)))
 have hb:Below w.heap.size w ((w.alloc (.cells #[.int .i64 0,.string ⟨#[]⟩,.slice none 0 0,.int .i64 0,.int .i64 0,.slice none 0 0] 35)).alloc (.cells #[.int .i64 n] 3)):=((Below.refl _ _).alloc (Nat.le_refl _) _).alloc (by simp) _
 have hn:=heap_alloc_new (w.alloc (.cells #[.int .i64 0,.string ⟨#[]⟩,.slice none 0 0,.int .i64 0,.int .i64 0,.slice none 0 0] 35)) (.cells #[.int .i64 n] 3)
 rw [World.size_alloc] at hn
 have HB:=hh9 (zhn (Nat.le_refl _) hb ⟨6,⟨#[]⟩,.slice (some ⟨w.heap.size+1,0,none⟩) 1 1,0,0,.slice none 0 0⟩)
 have HT:=hh9 (zpd (W:=(((w.alloc (.cells #[.int .i64 0,.string ⟨#[]⟩,.slice none 0 0,.int .i64 0,.int .i64 0,.slice none 0 0] 35)).alloc (.cells #[.int .i64 n] 3)).setRow w.heap.size (XV.arr ⟨6,⟨#[]⟩,.slice (some ⟨w.heap.size+1,0,none⟩) 1 1,0,0,.slice none 0 0⟩))) (k:=6) (ns:=[n]) ((setRow_other _ _ _ _ (by omega)).trans hn) rfl (by simp))
 clear hb hn
 go_enter Tryz.func55,Tryz.ntmps55
 go_wp2_with (refine za6 rfl _ _ rfl w.heap.size ⟨6,⟨#[]⟩,.slice (some ⟨w.heap.size+1,0,none⟩) 1 1,0,0,.slice none 0 0⟩ rfl rfl HRES.out rfl rfl ?_)
 exact bodyPost_ret_by (zaj rfl _ _ w.heap.size ⟨6,⟨#[]⟩,.slice (some ⟨w.heap.size+1,0,none⟩) 1 1,0,0,.slice none 0 0⟩ rfl HRES.out) rfl ⟨_,_,_,_,_,_,_,_,_,_,rfl,HT.out,HB.out⟩
theorem zxs {w:World} {n m:Int}:Calls Tryz.prog 54 #[.int .i64 n,.int .i64 m] w (zpc (spT n m) w):=by
 have HRES:=hh9 ((zav w).kept (Below.heap_alloc (w.alloc (.cells #[.int .i64 0,.string ⟨#[]⟩,.slice none 0 0,.int .i64 0,.int .i64 0,.slice none 0 0] 35)) (.cells #[.int .i64 n,.int .i64 m] 3) w.heap.size (by simp)))
 have hb:Below w.heap.size w ((w.alloc (.cells #[.int .i64 0,.string ⟨#[]⟩,.slice none 0 0,.int .i64 0,.int .i64 0,.slice none 0 0] 35)).alloc (.cells #[.int .i64 n,.int .i64 m] 3)):=((Below.refl _ _).alloc (Nat.le_refl _) _).alloc (by simp) _
 have hn:=heap_alloc_new (w.alloc (.cells #[.int .i64 0,.string ⟨#[]⟩,.slice none 0 0,.int .i64 0,.int .i64 0,.slice none 0 0] 35)) (.cells #[.int .i64 n,.int .i64 m] 3)
 rw [World.size_alloc] at hn
 have HB:=hh9 (zhn (Nat.le_refl _) hb ⟨7,⟨#[]⟩,.slice (some ⟨w.heap.size+1,0,none⟩) 2 2,0,0,.slice none 0 0⟩)
 have HT:=hh9 (zpd (W:=(((w.alloc (.cells #[.int .i64 0,.string ⟨#[]⟩,.slice none 0 0,.int .i64 0,.int .i64 0,.slice none 0 0] 35)).alloc (.cells #[.int .i64 n,.int .i64 m] 3)).setRow w.heap.size (XV.arr ⟨7,⟨#[]⟩,.slice (some ⟨w.heap.size+1,0,none⟩) 2 2,0,0,.slice none 0 0⟩))) (k:=7) (ns:=[n,m]) ((setRow_other _ _ _ _ (by omega)).trans hn) rfl (by simp))
 clear hb hn
 go_enter Tryz.func54,Tryz.ntmps54
 go_wp2_with (refine za6 rfl _ _ rfl w.heap.size ⟨7,⟨#[]⟩,.slice (some ⟨w.heap.size+1,0,none⟩) 2 2,0,0,.slice none 0 0⟩ rfl rfl HRES.out rfl rfl ?_)
 exact bodyPost_ret_by (zaj rfl _ _ w.heap.size ⟨7,⟨#[]⟩,.slice (some ⟨w.heap.size+1,0,none⟩) 2 2,0,0,.slice none 0 0⟩ rfl HRES.out) rfl ⟨_,_,_,_,_,_,_,_,_,_,rfl,HT.out,HB.out⟩
def zg7 (W:World) (v:Value) (vs:List XV) (l:List Tree):Prop:=RowP W (fun _=>True) v l.length (vs.flatMap XV.cells)/\vs.length=l.length/\∀ (i:Nat) (y:XV) (t:Tree),vs[i]?=some y->l[i]?=some t->ETP W (fun _=>True) y t
theorem zg7.under {W W':World} {v:Value} {vs:List XV} {l:List Tree} (h:zg7 W v vs l) (hb:Below W.heap.size W W'):zg7 W' v vs l:=⟨h.1.kept (M:=fun _=>False) (zap.below hb) (fun b _ _=>⟨id,trivial⟩),h.2.1,fun i y t hy ht=>(h.2.2 i y t hy ht).under hb⟩
theorem zg7.tree {W:World} {v:Value} {vs:List XV} {l:List Tree} (h:zg7 W v vs l) (k lo hi:Int):ETP W (fun _=>True) ⟨k,⟨#[]⟩,.slice none 0 0,lo,hi,v⟩ (.mk k [] [] lo hi l) :=
 ETP.mk (x:=[]) (nums:=[]) vs (by simp) (by simp) (.inl ⟨rfl,_,_,rfl⟩) h.1 h.2.1 h.2.2
theorem zpe {w:World} {a:Option Addr} {n c:Nat} {vs:List XV} {l:List Tree} (h:zg7 w (.slice a n c) vs l):Calls Tryz.prog 52 #[.slice a n c] w (zpc (alT l) w) :=
 zrp.mono fun e w' ⟨he,hb⟩=>⟨_,_,_,_,_,_,_,_,_,_,he,(h.under hb).tree 1 0 0,hb⟩
def zql (c:Int):XV:=⟨5,za3 [c],.slice none 0 0,0,0,.slice none 0 0⟩
def hexX (X:XV) (i:Nat):List XV:=X::(List.range i).map fun (j:Nat)=>zql (97+(j:Int))
def hexL (i:Nat):List Tree:=rfT zbb::(List.range i).map fun (j:Nat)=>foT [97+(j:Int)]
theorem zxt (X:XV) (i:Nat):hexX X (i+1)=hexX X i++[zql (97+(i:Int))]:=by
 unfold hexX
 rw [List.range_succ,List.map_append,List.cons_append]
 rfl
theorem zse (i:Nat):(hexL i).length=i+1:=by simp [hexL]
theorem zja (X:XV) (i:Nat):(hexX X i).length=i+1:=by simp [hexX]
theorem qak {W:World} {X:XV} {v:Value} {base i:Nat} (hi:i<=20) (hX:ETP W (fun _=>True) X (rfT zbb)) (hr:W.ownsRow base 35 6 v (i+1) ((hexX X i).flatMap XV.cells)):zg7 W v (hexX X i) (hexL i):=by
 refine ⟨by rw [zse];exact RowP.of_own (by unfold KT;decide) hr (fun _ _=>trivial),by rw [zja,zse],fun j y t hy ht=>?_⟩
 cases j with
 | zero =>
  simp [hexX,hexL] at hy ht
  subst hy ht
  exact hX
 | succ j =>
  simp only [hexX,hexL,List.getElem?_cons_succ,List.getElem?_map] at hy ht
  cases hj:(List.range i)[j]? with
  | none=>rw [hj] at hy;cases hy
  | some q =>
   rw [hj] at hy ht
   have e1:=Option.some.inj hy
   have e2:=Option.some.inj ht
   subst e1 e2
   have hq:=List.mem_of_getElem? hj
   rw [List.mem_range] at hq
   exact zkw ⟨fun c hc=>by simp at hc;subst hc;omega,by simp⟩
theorem qdz {W W':World} {X:XV} {x:List Int} (h:ETP W (fun _=>True) X (rfT x)):ETP W' (fun _=>True) X (rfT x):=by
 unfold rfT at h ⊢
 generalize ht:Tree.mk 4 x [] 0 0 []=t at h
 cases h with
 | mk vs h0 hl h1 h2 h3 h4 =>
  simp only [Tree.mk.injEq] at ht
  obtain ⟨rfl,rfl,rfl,rfl,rfl,rfl⟩:=ht
  refine .mk vs h0 hl ?_ ?_ h3 (fun i y t hy ht=>by simp at ht)
  ·rcases h1 with h | ⟨g,off,cap,e,_⟩
   ·exact .inl h
   ·exact .inl ⟨rfl,_,_,e⟩
  ·rcases h2 with h | ⟨g,off,cap,e,_⟩
   ·exact .inl h
   ·exact .inl ⟨rfl,_,_,e⟩
inductive SP
 | x (t:Tree)
 | k (l:List Tree)
 | r (g:GR)
 | rs (b:Nat) (l:List GR)
def SP.at:SP->World->Value->Prop
 | .x t,W,v=>∃ k tx lo hi a1 n1 c1 a2 n2 c2,v=.agg #[.int .i64 k,.string tx,.slice a1 n1 c1,.int .i64 lo,.int .i64 hi,.slice a2 n2 c2]/\ETP W (fun _=>True) ⟨k,tx,.slice a1 n1 c1,lo,hi,.slice a2 n2 c2⟩ t
 | .k l,W,v=>∃ a c vs,v=.slice a l.length c/\zg7 W v vs l
 | .r g,W,v=>∃ nm k tx lo hi a1 n1 c1 a2 n2 c2,v=.agg #[.string nm,.int .i64 k,.string tx,.slice a1 n1 c1,.int .i64 lo,.int .i64 hi,.slice a2 n2 c2]/\zkv W ⟨nm,⟨k,tx,.slice a1 n1 c1,lo,hi,.slice a2 n2 c2⟩⟩ g
 | .rs b l,W,v=>∃ ys g c,v=.slice (some ⟨g,0,none⟩) l.length c/\b<=g/\zd0 W v ys l
theorem SP.under {s:SP} {W W':World} {v:Value} (h:s.at W v) (hb:Below W.heap.size W W'):s.at W' v:=by
 cases s with
 | x t=>obtain ⟨_,_,_,_,_,_,_,_,_,_,e,h⟩:=h;exact ⟨_,_,_,_,_,_,_,_,_,_,e,h.under hb⟩
 | k l=>obtain ⟨_,_,_,e,h⟩:=h;exact ⟨_,_,_,e,h.under hb⟩
 | r g=>obtain ⟨_,_,_,_,_,_,_,_,_,_,_,e,h⟩:=h;exact ⟨_,_,_,_,_,_,_,_,_,_,_,e,h.under hb⟩
 | rs b l=>obtain ⟨ys,g,c,e,hl,h⟩:=h;exact ⟨ys,g,c,e,hl,h.below hb⟩
section
variable {o:Oper} {a:Act} {w:World} {K:Act → World → Prop} {Q:Exit → Act → World → Prop}
theorem znh {F:FuncId} {x:Operand} {u:Value} {T:Array TypeId} {R:Ending->World->Prop} {s:SP} (ho:o.op=.call { callee:=.value (.func F),args:=#[x],argTypes:=T }) (hx:a.eval x=u) (hc:Calls Tryz.prog F #[u] w R)
  (hF:∀ args w,(callFunc F args).run Tryz.prog w=.ok (.enter F args) w)
  (hR:∀ e w',R e w'->∃ v,e=.returned v/\s.at w' v/\Below w.heap.size w w') (hK:∀ v w',s.at w' v->Below w.heap.size w w'->K (a.put o.dst v) w'):o.wp Tryz.prog a w K Q:=by
 unfold Oper.wp
 have hf:a.eval (.func F)=.func (.func F) #[] #[]:=rfl
 generalize a.eval=ev at hx hf ⊢
 simp [execOp,ho,hx,hf,go_sem,hF,resolve,invoke]
 refine hc.mono (fun e w' hr=>?_)
 obtain ⟨v,rfl,hs,hb⟩:=hR e w' hr
 exact hK v w' hs hb
theorem qal {F:FuncId} {x y:Operand} {u z:Value} {T:Array TypeId} {R:Ending->World->Prop} {s:SP} (ho:o.op=.call { callee:=.value (.func F),args:=#[x,y],argTypes:=T }) (hx:a.eval x=u) (hy:a.eval y=z) (hc:Calls Tryz.prog F #[u,z] w R)
  (hF:∀ args w,(callFunc F args).run Tryz.prog w=.ok (.enter F args) w)
  (hR:∀ e w',R e w'->∃ v,e=.returned v/\s.at w' v/\Below w.heap.size w w') (hK:∀ v w',s.at w' v->Below w.heap.size w w'->K (a.put o.dst v) w'):o.wp Tryz.prog a w K Q:=by
 unfold Oper.wp
 have hf:a.eval (.func F)=.func (.func F) #[] #[]:=rfl
 generalize a.eval=ev at hx hy hf ⊢
 simp [execOp,ho,hx,hy,hf,go_sem,hF,resolve,invoke]
 refine hc.mono (fun e w' hr=>?_)
 obtain ⟨v,rfl,hs,hb⟩:=hR e w' hr
 exact hK v w' hs hb
theorem zho {t:Tree} {w:World} {e:Ending} {w':World} (h:zpc t w e w'):∃ v,e=.returned v/\(SP.x t).at w' v/\Below w.heap.size w w':=by
 obtain ⟨k,tx,lo,hi,a1,n1,c1,a2,n2,c2,rfl,h1,h2⟩:=h
 exact ⟨_,rfl,⟨k,tx,lo,hi,a1,n1,c1,a2,n2,c2,rfl,h1⟩,h2⟩
theorem zgx {n m:Int} {T:Array TypeId} (ho:o.op=.call { callee:=.value (.func 54),args:=#[.const (.int .i64 n),.const (.int .i64 m)],argTypes:=T }) (hK:∀ v w',(SP.x (spT n m)).at w' v->Below w.heap.size w w'->K (a.put o.dst v) w'):o.wp Tryz.prog a w K Q :=
 qal ho rfl rfl zxs (enters_of Tryz.func54 (by kernel_rfl) rfl) (fun _ _ h=>zho h) hK
theorem zm9 {n:Int} {T:Array TypeId} (ho:o.op=.call { callee:=.value (.func 55),args:=#[.const (.int .i64 n)],argTypes:=T }) (hK:∀ v w',(SP.x (nuT n)).at w' v->Below w.heap.size w w'->K (a.put o.dst v) w'):o.wp Tryz.prog a w K Q :=
 znh ho rfl qaj (enters_of Tryz.func55 (by kernel_rfl) rfl) (fun _ _ h=>zho h) hK
theorem zsf {S:ByteArray} {T:Array TypeId} (x:List Int) (hS:S=za3 x) (hx:zar x) (ho:o.op=.call { callee:=.value (.func 53),args:=#[.const (.string S)],argTypes:=T }) (hK:∀ v w',(SP.x (rfT x)).at w' v->Below w.heap.size w w'->K (a.put o.dst v) w'):o.wp Tryz.prog a w K Q :=
 znh ho rfl (zsd hS hx) (enters_of Tryz.func53 (by kernel_rfl) rfl) (fun _ _ h=>zho h) hK
theorem zkx {d:Tmp} {T:Array TypeId} {l:List Tree} (hd:(SP.k l).at w (a.tmps.getD d undef)) (ho:o.op=.call { callee:=.value (.func 52),args:=#[.tmp d],argTypes:=T }) (hK:∀ v w',(SP.x (alT l)).at w' v->Below w.heap.size w w'->K (a.put o.dst v) w'):o.wp Tryz.prog a w K Q:=by
 obtain ⟨sa,sc,vs,e,hk⟩:=hd
 rw [e] at hk
 exact znh ho (show a.eval (.tmp d)=.slice sa l.length sc from e) (zpe hk) (enters_of Tryz.func52 (by kernel_rfl) rfl) (fun _ _ h=>zho h) hK
theorem zma {W:World} {b:Nat} {cs:Array Value} {vs:List XV} {l:List Tree} (h:W.heap[b]?=some (.cells cs 35 (0,0))) (hc:cs.toList=vs.flatMap XV.cells) (hl:vs.length=l.length) (hn:l.length<=1000) (ht:∀ (i:Nat) (y:XV) (t:Tree),vs[i]?=some y->l[i]?=some t->ETP W (fun _=>True) y t):zg7 W (.slice (some ⟨b,0,none⟩) l.length l.length) vs l:=by
 refine ⟨.inr ⟨b,0,l.length,rfl,Nat.le_refl _,by unfold maxLen;omega,⟨_,_,by unfold KT;decide,h⟩,trivial,fun j u hj=>?_⟩,hl,ht⟩
 unfold World.cell?
 simp only [h,Nat.zero_add]
 rw [<- hc] at hj
 simpa using hj
def two5 (X Y:XV):Array Value:=#[.int .i64 X.kind,.string X.text,X.ns,.int .i64 X.lo,.int .i64 X.hi,X.ks,.int .i64 Y.kind,.string Y.text,Y.ns,.int .i64 Y.lo,.int .i64 Y.hi,Y.ks]
theorem zxu (X Y:XV):Instr.fill (fun i=>some (i*6,6)) ((Array.range (2*6)).map ((Value.agg #[.int .i64 0,.string ⟨#[]⟩,.slice none 0 0,.int .i64 0,.int .i64 0,.slice none 0 0]).cells[·%6]!)) [(0,X.val),(1,Y.val)]=some (two5 X Y):=by
 cases X
 cases Y
 kernel_rfl
theorem zni (w:World) (X Y:XV) {t u:Tree} (hX:ETP w (fun _=>True) X t) (hY:ETP w (fun _=>True) Y u):zg7 (w.alloc (.cells (two5 X Y) 35)) (.slice (some ⟨w.heap.size,0,none⟩) 2 2) [X,Y] [t,u]:=by
 have hb:Below w.heap.size w (w.alloc (.cells (two5 X Y) 35)):=(Below.refl _ _).alloc (Nat.le_refl _) _
 refine zma (heap_alloc_new w _) rfl rfl (by simp) (fun i y t hy ht=>?_)
 match i with
 | 0=>simp at hy ht;subst hy ht;exact hX.under hb
 | 1=>simp at hy ht;subst hy ht;exact hY.under hb
 | i+2=>simp at hy
theorem zxv (w:World) (X:XV) {t:Tree} (hX:ETP w (fun _=>True) X t):zg7 (w.alloc (.cells X.arr 35)) (.slice (some ⟨w.heap.size,0,none⟩) 1 1) [X] [t]:=by
 have hb:Below w.heap.size w (w.alloc (.cells X.arr 35)):=(Below.refl _ _).alloc (Nat.le_refl _) _
 refine zma (heap_alloc_new w _) rfl rfl (by simp) (fun i y t hy ht=>?_)
 match i with
 | 0=>simp at hy ht;subst hy ht;exact hX.under hb
 | i+1=>simp at hy
theorem zpf {d1 d2:Tmp} {t u:Tree} (h1:(SP.x t).at w (a.tmps.getD d1 undef)) (h2:(SP.x u).at w (a.tmps.getD d2 undef)) (ho:o.op=.buildSlice 33 2 #[(0,.tmp d1),(1,.tmp d2)]) (hK:∀ v w',(SP.k [t,u]).at w' v->Below w.heap.size w w'->K (a.put o.dst v) w'):o.wp Tryz.prog a w K Q:=by
 obtain ⟨k1,x1,l1,g1,a1,n1,c1,b1,m1,e1,he1,hE1⟩:=h1
 obtain ⟨k2,x2,l2,g2,a2,n2,c2,b2,m2,e2,he2,hE2⟩:=h2
 obtain ⟨i0,hi0,hi1⟩:=Option.map_eq_some_iff.1 zz1
 obtain ⟨hz0,hz1,hz2⟩:i0.zero=some _/\i0.size=6/\i0.bytes=_:=by simpa using hi1
 refine wp_buildSlice 33 35 2 #[(0,.tmp d1),(1,.tmp d2)] ho (two5 _ _) i0 _ Tryz.underlying33 hi0 hz0 (by rw [hz1];decide) (by rw [hz1];decide) ?_ (hK _ _ ⟨_,_,_,rfl,zni w _ _ hE1 hE2⟩ ((Below.refl _ _).alloc (Nat.le_refl _) _))
 rw [hz1]
 simp only [List.map_toArray,List.map_cons,List.map_nil]
 rw [show a.eval (.tmp d1)=XV.val ⟨k1,x1,.slice a1 n1 c1,l1,g1,.slice b1 m1 e1⟩ from he1,show a.eval (.tmp d2)=XV.val ⟨k2,x2,.slice a2 n2 c2,l2,g2,.slice b2 m2 e2⟩ from he2]
 exact zxu _ _
theorem zxw {d1:Tmp} {t:Tree} (h1:(SP.x t).at w (a.tmps.getD d1 undef)) (ho:o.op=.buildSlice 33 1 #[(0,.tmp d1)]) (hK:∀ v w',(SP.k [t]).at w' v->Below w.heap.size w w'->K (a.put o.dst v) w'):o.wp Tryz.prog a w K Q:=by
 obtain ⟨k1,x1,l1,g1,a1,n1,c1,b1,m1,e1,he1,hE1⟩:=h1
 obtain ⟨i0,hi0,hi1⟩:=Option.map_eq_some_iff.1 zz1
 obtain ⟨hz0,hz1,hz2⟩:i0.zero=some _/\i0.size=6/\i0.bytes=_:=by simpa using hi1
 refine wp_buildSlice 33 35 1 #[(0,.tmp d1)] ho (XV.arr _) i0 _ Tryz.underlying33 hi0 hz0 (by rw [hz1];decide) (by rw [hz1];decide) ?_ (hK _ _ ⟨_,_,_,rfl,zxv w _ hE1⟩ ((Below.refl _ _).alloc (Nat.le_refl _) _))
 rw [hz1]
 simp only [List.map_toArray,List.map_cons,List.map_nil]
 rw [show a.eval (.tmp d1)=XV.val ⟨k1,x1,.slice a1 n1 c1,l1,g1,.slice b1 m1 e1⟩ from he1]
 exact zr9 _ rfl rfl
theorem zjb {ty:TypeId} {parts:Array (Nat × Operand)} {row:Array Value} {s:SP} (ho:o.op=.build ty parts) (hb:Tryz.prog.built ty (parts.map fun (i,x)=>(i,a.eval x)).toList=some row) (hs:s.at w (.agg row)) (hK:∀ v w',s.at w' v->Below w.heap.size w w'->K (a.put o.dst v) w'):o.wp Tryz.prog a w K Q:=by
 refine wp_build ty parts ho (by rw [hb];rfl) ?_
 rw [hb]
 exact hK _ _ hs (Below.refl _ _)
theorem zu3 (x:Option Addr) (n c:Nat):Tryz.prog.built 35 [(0,.int .i64 2),(5,.slice x n c)]=some #[.int .i64 2,.string ⟨#[]⟩,.slice none 0 0,.int .i64 0,.int .i64 0,.slice x n c]:=by kernel_rfl
theorem zu4 (x:Option Addr) (n c:Nat):Tryz.prog.built 35 [(0,.int .i64 3),(4,.int .i64 (-1)),(5,.slice x n c)]=some #[.int .i64 3,.string ⟨#[]⟩,.slice none 0 0,.int .i64 0,.int .i64 (-1),.slice x n c]:=by kernel_rfl
theorem zu5 (s:ByteArray):Tryz.prog.built 35 [(0,.int .i64 5),(1,.string s)]=some #[.int .i64 5,.string s,.slice none 0 0,.int .i64 0,.int .i64 0,.slice none 0 0]:=by kernel_rfl
theorem zqm (s:ByteArray) (k:Int) (tx:ByteArray) (lo hi:Int) (a1:Option Addr) (n1 c1:Nat) (a2:Option Addr) (n2 c2:Nat):Tryz.prog.built 39 [(0,.string s),(1,.agg #[.int .i64 k,.string tx,.slice a1 n1 c1,.int .i64 lo,.int .i64 hi,.slice a2 n2 c2])]=some #[.string s,.int .i64 k,.string tx,.slice a1 n1 c1,.int .i64 lo,.int .i64 hi,.slice a2 n2 c2]:=by kernel_rfl
theorem qe0 {d:Tmp} {l:List Tree} (hd:(SP.k l).at w (a.tmps.getD d undef)) (ho:o.op=.build 35 #[(0,.const (.int .i64 2)),(5,.tmp d)]) (hK:∀ v w',(SP.x (seT l)).at w' v->Below w.heap.size w w'->K (a.put o.dst v) w'):o.wp Tryz.prog a w K Q:=by
 obtain ⟨sa,sc,vs,e,hk⟩:=hd
 rw [e] at hk
 refine zjb (s:=.x (seT l)) ho ?_ ⟨_,_,_,_,_,_,_,_,_,_,rfl,hk.tree 2 0 0⟩ hK
 simp only [List.map_toArray,List.map_cons,List.map_nil]
 rw [show a.eval (.tmp d)=.slice sa l.length sc from e]
 exact zu3 _ _ _
theorem qe1 {d:Tmp} {l:List Tree} (hd:(SP.k l).at w (a.tmps.getD d undef)) (ho:o.op=.build 35 #[(0,.const (.int .i64 3)),(4,.const (.int .i64 (-1))),(5,.tmp d)]) (hK:∀ v w',(SP.x (.mk 3 [] [] 0 (-1) l)).at w' v->Below w.heap.size w w'->K (a.put o.dst v) w'):o.wp Tryz.prog a w K Q:=by
 obtain ⟨sa,sc,vs,e,hk⟩:=hd
 rw [e] at hk
 refine zjb (s:=.x (.mk 3 [] [] 0 (-1) l)) ho ?_ ⟨_,_,_,_,_,_,_,_,_,_,rfl,hk.tree 3 0 (-1)⟩ hK
 simp only [List.map_toArray,List.map_cons,List.map_nil]
 rw [show a.eval (.tmp d)=.slice sa l.length sc from e]
 exact zu4 _ _ _
theorem qb8 {S:ByteArray} (x:List Int) (hS:S=za3 x) (hx:zar x) (ho:o.op=.build 35 #[(0,.const (.int .i64 5)),(1,.const (.string S))]) (hK:∀ v w',(SP.x (foT x)).at w' v->Below w.heap.size w w'->K (a.put o.dst v) w'):o.wp Tryz.prog a w K Q:=by
 refine zjb (s:=.x (foT x)) ho ?_ ⟨5,S,0,0,none,0,0,none,0,0,rfl,by rw [hS];exact zkw hx⟩ hK
 simp only [List.map_toArray,List.map_cons,List.map_nil]
 exact zu5 _
theorem zd2 {d:Tmp} {S:ByteArray} {t:Tree} (x:List Int) (hd:(SP.x t).at w (a.tmps.getD d undef)) (hS:S=za3 x) (hx:zar x) (ho:o.op=.build 39 #[(0,.const (.string S)),(1,.tmp d)]) (hK:∀ v w',(SP.r ⟨x,t⟩).at w' v->Below w.heap.size w w'->K (a.put o.dst v) w'):o.wp Tryz.prog a w K Q:=by
 obtain ⟨k1,x1,l1,g1,a1,n1,c1,b1,m1,e1,he1,hE1⟩:=hd
 refine zjb (s:=.r ⟨x,t⟩) ho ?_ ⟨S,k1,x1,l1,g1,a1,n1,c1,b1,m1,e1,rfl,hS,hx,hE1⟩ hK
 simp only [List.map_toArray,List.map_cons,List.map_nil]
 rw [show a.eval (.tmp d)=.agg #[.int .i64 k1,.string x1,.slice a1 n1 c1,.int .i64 l1,.int .i64 g1,.slice b1 m1 e1] from he1]
 exact zqm _ _ _ _ _ _ _ _ _ _ _
theorem qcm {d:Tmp} {s:SP} (hd:s.at w (a.tmps.getD d undef)) (ho:o.op=.move (.tmp d)) (hK:∀ v w',s.at w' v->Below w.heap.size w w'->K (a.put o.dst v) w'):o.wp Tryz.prog a w K Q:=by
 unfold Oper.wp execOp
 simp only [ho]
 exact hK _ _ hd (Below.refl _ _)
theorem zxx {d:Tmp} {s:SP} (hd:s.at w (a.tmps.getD d undef)) (ho:o.op=.assign (.tmp d)) (hK:∀ v w',s.at w' v->Below w.heap.size w w'->K (a.put o.dst v) w'):o.wp Tryz.prog a w K Q:=by
 unfold Oper.wp execOp
 simp only [ho]
 exact hK _ _ hd (Below.refl _ _)
theorem qam {d:Tmp} {g:Nat} {k:Int} {tx:ByteArray} {lo hi:Int} {a1:Option Addr} {n1 c1:Nat} {a2:Option Addr} {n2 c2:Nat} {t:Tree} (hd:a.tmps.getD d undef=.pointer (some ⟨g,0,none⟩)) (hg:w.heap[g]?=some (.cells #[.int .i64 k,.string tx,.slice a1 n1 c1,.int .i64 lo,.int .i64 hi,.slice a2 n2 c2] 35 (0,0))) (hE:ETP w (fun _=>True) ⟨k,tx,.slice a1 n1 c1,lo,hi,.slice a2 n2 c2⟩ t) (ho:o.op=.load 35 (.tmp d)) (hK:∀ v w',(SP.x t).at w' v->Below w.heap.size w w'->K (a.put o.dst v) w'):o.wp Tryz.prog a w K Q :=
 wp_load_row 35 (.tmp d) ho g hd 35 _ (0,0) _ hg Tryz.underlying35 rfl zt1 (hK _ _ ⟨_,_,_,_,_,_,_,_,_,_,rfl,hE⟩ (Below.refl _ _))
def RE (W:World):List RV->List GR->Prop
 | [],[]=>True
 | y::ys,g::gs=>zkv W y g/\RE W ys gs
 | _,_=>False
theorem RE.len {W:World}:∀ {ys:List RV} {gs:List GR},RE W ys gs->ys.length=gs.length
 | [],[],_=>rfl
 | y::ys,g::gs,h=>by simp [RE.len h.2]
theorem RE.each {W:World}:∀ {ys:List RV} {gs:List GR},RE W ys gs->∀ (i:Nat) (y:RV) (r:GR),ys[i]?=some y->gs[i]?=some r->zkv W y r
 | [],[],_,i,y,r,hy,_=>by simp at hy
 | y::ys,g::gs,h,0,y',r,hy,hr=>by
  simp at hy hr
  subst hy hr
  exact h.1
 | y::ys,g::gs,h,i+1,y',r,hy,hr=>h.2.each i y' r (by simpa using hy) (by simpa using hr)
theorem RE.under {W W':World}:∀ {ys:List RV} {gs:List GR},RE W ys gs->Below W.heap.size W W'->RE W' ys gs
 | [],[],_,_=>trivial
 | y::ys,g::gs,h,hb=>⟨h.1.under hb,RE.under h.2 hb⟩
theorem qe2:(Tryz.prog.info? 39).map (fun i=>(i.zero,i.size))=some (some (.agg #[.string ⟨#[]⟩,.int .i64 0,.string ⟨#[]⟩,.slice none 0 0,.int .i64 0,.int .i64 0,.slice none 0 0]),7):=by kernel_rfl
theorem zu6 (y0 y1 y2 y3 y4 y5 y6 y7 y8 y9 y10 y11 y12 y13 y14 y15:RV):Instr.fill (fun i=>some (i*7,7)) ((Array.range (16*7)).map ((Value.agg #[.string ⟨#[]⟩,.int .i64 0,.string ⟨#[]⟩,.slice none 0 0,.int .i64 0,.int .i64 0,.slice none 0 0]).cells[·%7]!)) [(0,y0.val),(1,y1.val),(2,y2.val),(3,y3.val),(4,y4.val),(5,y5.val),(6,y6.val),(7,y7.val),(8,y8.val),(9,y9.val),(10,y10.val),(11,y11.val),(12,y12.val),(13,y13.val),(14,y14.val),(15,y15.val)]=some ⟨[y0,y1,y2,y3,y4,y5,y6,y7,y8,y9,y10,y11,y12,y13,y14,y15].flatMap RV.cells⟩:=by
 kernel_rfl
theorem SP.rv {g:GR} {v:Value} (h:(SP.r g).at w v):∃ y:RV,v=y.val/\zkv w y g:=by
 obtain ⟨nm,k1,x1,l1,g1,a1,n1,c1,b1,m1,e1,he1,hE1⟩:=h
 exact ⟨⟨nm,⟨k1,x1,.slice a1 n1 c1,l1,g1,.slice b1 m1 e1⟩⟩,he1,hE1⟩
theorem qan {B:Nat} (hB:B<=w.heap.size) {d0 d1 d2 d3 d4 d5 d6 d7 d8 d9 d10 d11 d12 d13 d14 d15:Tmp} {g0 g1 g2 g3 g4 g5 g6 g7 g8 g9 g10 g11 g12 g13 g14 g15:GR} (h0:(SP.r g0).at w (a.tmps.getD d0 undef)) (h1:(SP.r g1).at w (a.tmps.getD d1 undef)) (h2:(SP.r g2).at w (a.tmps.getD d2 undef)) (h3:(SP.r g3).at w (a.tmps.getD d3 undef)) (h4:(SP.r g4).at w (a.tmps.getD d4 undef)) (h5:(SP.r g5).at w (a.tmps.getD d5 undef)) (h6:(SP.r g6).at w (a.tmps.getD d6 undef)) (h7:(SP.r g7).at w (a.tmps.getD d7 undef)) (h8:(SP.r g8).at w (a.tmps.getD d8 undef)) (h9:(SP.r g9).at w (a.tmps.getD d9 undef)) (h10:(SP.r g10).at w (a.tmps.getD d10 undef)) (h11:(SP.r g11).at w (a.tmps.getD d11 undef)) (h12:(SP.r g12).at w (a.tmps.getD d12 undef)) (h13:(SP.r g13).at w (a.tmps.getD d13 undef)) (h14:(SP.r g14).at w (a.tmps.getD d14 undef)) (h15:(SP.r g15).at w (a.tmps.getD d15 undef)) (ho:o.op=.buildSlice 29 16 #[(0,.tmp d0),(1,.tmp d1),(2,.tmp d2),(3,.tmp d3),(4,.tmp d4),(5,.tmp d5),(6,.tmp d6),(7,.tmp d7),(8,.tmp d8),(9,.tmp d9),(10,.tmp d10),(11,.tmp d11),(12,.tmp d12),(13,.tmp d13),(14,.tmp d14),(15,.tmp d15)]) (hK:∀ v w',(SP.rs B [g0,g1,g2,g3,g4,g5,g6,g7,g8,g9,g10,g11,g12,g13,g14,g15]).at w' v->Below w.heap.size w w'->K (a.put o.dst v) w'):o.wp Tryz.prog a w K Q:=by
 obtain ⟨y0,e0,r0⟩:=SP.rv h0
 obtain ⟨y1,e1,r1⟩:=SP.rv h1
 obtain ⟨y2,e2,r2⟩:=SP.rv h2
 obtain ⟨y3,e3,r3⟩:=SP.rv h3
 obtain ⟨y4,e4,r4⟩:=SP.rv h4
 obtain ⟨y5,e5,r5⟩:=SP.rv h5
 obtain ⟨y6,e6,r6⟩:=SP.rv h6
 obtain ⟨y7,e7,r7⟩:=SP.rv h7
 obtain ⟨y8,e8,r8⟩:=SP.rv h8
 obtain ⟨y9,e9,r9⟩:=SP.rv h9
 obtain ⟨y10,e10,r10⟩:=SP.rv h10
 obtain ⟨y11,e11,r11⟩:=SP.rv h11
 obtain ⟨y12,e12,r12⟩:=SP.rv h12
 obtain ⟨y13,e13,r13⟩:=SP.rv h13
 obtain ⟨y14,e14,r14⟩:=SP.rv h14
 obtain ⟨y15,e15,r15⟩:=SP.rv h15
 obtain ⟨i0,hi0,hi1⟩:=Option.map_eq_some_iff.1 qe2
 obtain ⟨hz0,hz1⟩:i0.zero=some _/\i0.size=7:=by simpa using hi1
 have hb:Below w.heap.size w (w.alloc (.cells ⟨[y0,y1,y2,y3,y4,y5,y6,y7,y8,y9,y10,y11,y12,y13,y14,y15].flatMap RV.cells⟩ 39)):=(Below.refl _ _).alloc (Nat.le_refl _) _
 have hn:=heap_alloc_new w (.cells ⟨[y0,y1,y2,y3,y4,y5,y6,y7,y8,y9,y10,y11,y12,y13,y14,y15].flatMap RV.cells⟩ 39)
 have hre:RE w [y0,y1,y2,y3,y4,y5,y6,y7,y8,y9,y10,y11,y12,y13,y14,y15] [g0,g1,g2,g3,g4,g5,g6,g7,g8,g9,g10,g11,g12,g13,g14,g15]:=⟨r0,r1,r2,r3,r4,r5,r6,r7,r8,r9,r10,r11,r12,r13,r14,r15,trivial⟩
 refine wp_buildSlice 29 39 16 #[(0,.tmp d0),(1,.tmp d1),(2,.tmp d2),(3,.tmp d3),(4,.tmp d4),(5,.tmp d5),(6,.tmp d6),(7,.tmp d7),(8,.tmp d8),(9,.tmp d9),(10,.tmp d10),(11,.tmp d11),(12,.tmp d12),(13,.tmp d13),(14,.tmp d14),(15,.tmp d15)] ho _ i0 _ Tryz.underlying29 hi0 hz0 (by rw [hz1];decide) (by rw [hz1];decide) ?_ (hK _ _ ⟨[y0,y1,y2,y3,y4,y5,y6,y7,y8,y9,y10,y11,y12,y13,y14,y15],w.heap.size,16,rfl,hB,.inr ⟨w.heap.size,0,16,rfl,Nat.le_refl _,by unfold maxLen;omega,(Array.getElem?_eq_some_iff.1 hn).1,fun j u hj=>?_⟩,rfl,fun i y r hy hr=>(hre.under hb).each i y r hy hr⟩ hb)
 ·rw [hz1]
  simp only [List.map_toArray,List.map_cons,List.map_nil]
  rw [show a.eval (.tmp d0)=y0.val from e0,show a.eval (.tmp d1)=y1.val from e1,show a.eval (.tmp d2)=y2.val from e2,show a.eval (.tmp d3)=y3.val from e3,show a.eval (.tmp d4)=y4.val from e4,show a.eval (.tmp d5)=y5.val from e5,show a.eval (.tmp d6)=y6.val from e6,show a.eval (.tmp d7)=y7.val from e7,show a.eval (.tmp d8)=y8.val from e8,show a.eval (.tmp d9)=y9.val from e9,show a.eval (.tmp d10)=y10.val from e10,show a.eval (.tmp d11)=y11.val from e11,show a.eval (.tmp d12)=y12.val from e12,show a.eval (.tmp d13)=y13.val from e13,show a.eval (.tmp d14)=y14.val from e14,show a.eval (.tmp d15)=y15.val from e15]
  exact zu6 y0 y1 y2 y3 y4 y5 y6 y7 y8 y9 y10 y11 y12 y13 y14 y15
 ·unfold World.cell?
  simp only [hn,Nat.zero_add]
  simpa using hj
end
end Go.Proofs.YtekjnfldgjcgeaaGreatDoor
