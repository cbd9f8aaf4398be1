/- Part 29 of what the laws of the grammar rest on. -/
import Derived.Test.YtdgcmiecgnmdjaaGreatDoorA11
import Derived.Test.YtdgcmiecgnmdjaaGreatDoorA20
import Derived.Test.YtdgcmiecgnmdjaaGreatDoorA25
import Derived.Test.YtdgcmiecgnmdjaaGreatDoorA28
set_option linter.all false
set_option maxRecDepth 100000
set_option maxHeartbeats 8000000
namespace Go.Proofs.YtdgcmiecgnmdjaaGreatDoor
open Go.RowKit Go.Shelf Go.Maps
attribute [local go_sem] Oper.semAt_some
structure RS (w W:World) (mp bR bM ms:Nat) (Dp:DataW Unit) (n:Nat) (v:Value) (out:List (List Int)):Prop where
 pl:W.ownsMap Tryz.prog 9 (plainElem Tryz.prog 3) mp n Dp
 box:Go.Boxed W bR 34 v
 row:W.ownsRow w.heap.size 9 1 v out.length (zbk out)
 bm:Go.Boxed W bM 63 (.map (some ms))
 set:∃ Ds:DataW Unit,W.ownsMap Tryz.prog 9 unitElem ms out.length Ds/\∀ x,zar x->Maps.has Ds (keyT x)=decide (x∈out)
 txt:∀ x∈out,zar x
 bel:Below w.heap.size w W
theorem zp8 {W w1:World} {n₀ B:Nat} {t e:TypeId} {size k m:Nat} {v v':Value} {xs ys:List Value} {tmp:Obj}
  (hv:Go.Boxed W B t v) (hte:t≠e) (hkt:¬ KT t) (hke:¬ KT e) (hrow:W.ownsRow n₀ e size v k xs) (hn₀:n₀<=B)
  (hown':w1.ownsRow n₀ e size v' m ys) (hgrow:(W.alloc tmp).grownBy w1 v.ownBlock) :
  Go.Boxed w1 B t v/\Go.Boxed (w1.setCell ⟨B,0,none⟩ v') B t v'/\(w1.setCell ⟨B,0,none⟩ v').ownsRow n₀ e size v' m ys/\KeepsOthers W (w1.setCell ⟨B,0,none⟩ v')/\zap (fun _=>False) W (w1.setCell ⟨B,0,none⟩ v')/\Below n₀ W (w1.setCell ⟨B,0,none⟩ v'):=by
 have hl:=hv.lt
 obtain ⟨hv1,hv2,hr2,hk2,hb2⟩:=hv.appended (n₀:=n₀) hte hrow (by omega) hn₀ hown' hgrow
 refine ⟨hv1,hv2,hr2,hk2,⟨hk2.size,fun b c t' z _ ht hb=>?_⟩,hb2⟩
 have hne:b≠B:=fun h=>by
  subst h
  have e:=Option.some.inj (hb.symm.trans hv)
  simp at e
  exact hkt (e.2.1 ▸ ht)
 have hlt:=(Array.getElem?_eq_some_iff.1 hb).1
 refine (Below.heap_setCell _ _ _ _ hne).trans ((hgrow.block b (by simp;omega) ?_).trans ((Below.heap_alloc _ _ _ hlt).trans hb))
 rcases hrow.2 with ⟨rfl,_⟩ | ⟨g,cap,cur,rfl,hg,hgb,_⟩
 ·simp [Value.ownBlock]
 ·intro h
  simp [Value.ownBlock] at h
  subst h
  have e:=Option.some.inj (hb.symm.trans hgb)
  simp at e
  exact hke (e.2.1 ▸ ht)
theorem RS.moved {w W W':World} {mp bR bM ms n:Nat} {Dp:DataW Unit} {v:Value} {out:List (List Int)} (h:RS w W mp bR bM ms Dp n v out) (hc:∀ (b:Nat) (c:Array Value) (t:TypeId) (z:Nat × Nat),W.heap[b]?=some (.cells c t z)->W'.heap[b]?=some (.cells c t z))
  (h1:W'.heap[mp]?=W.heap[mp]?) (h2:W'.heap[ms]?=W.heap[ms]?) (hb:Below w.heap.size W W'):RS w W' mp bR bM ms Dp n v out:=by
 obtain ⟨Ds,hD,hS⟩:=h.set
 exact ⟨zcg h.pl h1,hc _ _ _ _ h.box,zd6 h.row (fun b hb=>by
  obtain ⟨cur,hcur⟩:=zbj h.row hb
  exact (hc b _ _ _ hcur).trans hcur.symm),hc _ _ _ _ h.bm,⟨Ds,zcg hD h2,hS⟩,h.txt,h.bel.trans hb⟩
theorem RS.under {w W W':World} {mp bR bM ms n:Nat} {Dp:DataW Unit} {v:Value} {out:List (List Int)} (h:RS w W mp bR bM ms Dp n v out) (hb:Below W.heap.size W W'):RS w W' mp bR bM ms Dp n v out:=by
 obtain ⟨Ds,hD,hS⟩:=h.set
 exact h.moved (fun b c t z hc=>(hb.block b (Array.getElem?_eq_some_iff.1 hc).1).trans hc) (hb.block _ h.pl.lt) (hb.block _ hD.lt) (hb.mono h.bel.size)
theorem RS.ne {w W:World} {mp bR bM ms n:Nat} {Dp:DataW Unit} {v:Value} {out:List (List Int)} (h:RS w W mp bR bM ms Dp n v out):bR≠bM/\bR≠mp/\bR≠ms/\bM≠mp/\bM≠ms:=by
 obtain ⟨Ds,⟨_,_,hD,_⟩,hS⟩:=h.set
 obtain ⟨_,_,hP,_⟩:=h.pl
 have b1:=h.box
 have b2:=h.bm
 unfold Go.Boxed at b1 b2
 refine ⟨fun e=>?_,fun e=>?_,fun e=>?_,fun e=>?_,fun e=>?_⟩
 ·subst e
  rw [b1] at b2
  have e:=Option.some.inj b2
  simp at e
 ·subst e;rw [b1] at hP;cases hP
 ·subst e;rw [b1] at hD;cases hD
 ·subst e;rw [b2] at hP;cases hP
 ·subst e;rw [b2] at hD;cases hD
theorem RS.added {w W Wa w1 w2:World} {mp bR bM ms n:Nat} {Dp Ds:DataW Unit} {v v':Value} {out:List (List Int)} {x:List Int} {tmp:Obj} (h:RS w W mp bR bM ms Dp n v out) (hba:Below W.heap.size W Wa) (hpm:mp≠ms) (hR:w.heap.size<=bR) (hms:w.heap.size<=ms) (hx:zar x) (hno:x ∉ out)
  (hDs:W.ownsMap Tryz.prog 9 unitElem ms out.length Ds/\∀ x,zar x->Maps.has Ds (keyT x)=decide (x∈out)) (hm1:w1.ownsMap Tryz.prog 9 unitElem ms (out.length+1) (Ds.put (keyT x) (.agg []))) (hg1:Wa.grownBy w1 (some ms))
  (hown:w2.ownsRow w.heap.size 9 1 v' (out.length+1) (zbk out++[.string (za3 x)])) (hgrow:(w1.alloc tmp).grownBy w2 v.ownBlock) :
  RS w (w2.setCell ⟨bR,0,none⟩ v') mp bR bM ms Dp n v' (out++[x])/\zap (fun _=>False) W (w2.setCell ⟨bR,0,none⟩ v')/\W.heap.size<=(w2.setCell ⟨bR,0,none⟩ v').heap.size/\∀ (q:Nat) (o:Obj),q≠ms->W.heap[q]?=some o->o.isCells=false->(w2.setCell ⟨bR,0,none⟩ v').heap[q]?=some o:=by
 have ha:=h.under hba
 obtain ⟨n1,n2,n3,n4,n5⟩:=ha.ne
 have hlm:ms<Wa.heap.size:=by
  have:=hDs.1.lt
  have:=hba.size
  omega
 have hc1:∀ (b:Nat) (c:Array Value) (t:TypeId) (z:Nat × Nat),Wa.heap[b]?=some (.cells c t z)->w1.heap[b]?=some (.cells c t z):=fun b c t z hb =>
  (hg1.block b (Array.getElem?_eq_some_iff.1 hb).1 (fun e=>by
   have e:=Option.some.inj e
   subst e
   obtain ⟨_,_,hD,_⟩:=zcg hDs.1 (hba.block _ hDs.1.lt)
   rw [hD] at hb
   cases hb)).trans hb
 have hw1:Below w.heap.size Wa w1:=⟨hg1.os,hg1.tape,hg1.output,by have:=hg1.size;have:=ha.bel.size;omega,fun q hq=>hg1.block q (by have:=ha.bel.size;omega) (fun e=>by have:=Option.some.inj e;omega)⟩
 have hbox1:Go.Boxed w1 bR 34 v:=hc1 _ _ _ _ ha.box
 have hrow1:w1.ownsRow w.heap.size 9 1 v out.length (zbk out):=zd6 ha.row (fun b hb=>by
  obtain ⟨cur,hcur⟩:=zbj ha.row hb
  exact (hc1 b _ _ _ hcur).trans hcur.symm)
 obtain ⟨_,hv2,hr2,hk2,hx2,hb2⟩:=zp8 (n₀:=w.heap.size) hbox1 (by decide) (by unfold KT;decide) (by unfold KT;decide) hrow1 hR hown hgrow
 have hmap:∀ b,b<w1.heap.size->(∀ c t z,w1.heap[b]?≠some (.cells c t z))->(w2.setCell ⟨bR,0,none⟩ v').heap[b]?=w1.heap[b]?:=fun b hb hnc=>by
  cases ho:w1.heap[b]? with
  | none=>have:=Array.getElem?_eq_none_iff.1 ho;omega
  | some o =>
   refine hk2.same b o ho ?_
   cases o<;>first | rfl | exact absurd ho (hnc _ _ _)
 have hp1:w1.ownsMap Tryz.prog 9 (plainElem Tryz.prog 3) mp n Dp:=zcg ha.pl (hg1.block _ ha.pl.lt (fun e=>hpm (Option.some.inj e)))
 have hset:(w2.setCell ⟨bR,0,none⟩ v').ownsMap Tryz.prog 9 unitElem ms (out++[x]).length (Ds.put (keyT x) (.agg [])):=by
  rw [List.length_append]
  refine zcg hm1 (hmap ms hm1.lt (fun c t z e=>?_))
  obtain ⟨_,_,hD,_⟩:=hm1
  rw [hD] at e
  cases e
 refine ⟨⟨zcg hp1 (hmap mp hp1.lt (fun c t z e=>?_)),hv2,by simpa [zbk] using hr2,?_,⟨Ds.put (keyT x) (.agg []),hset,fun y hy=>?_⟩,fun y hy=>?_,(ha.bel.trans hw1).trans hb2⟩,?_,Nat.le_trans hba.size (Nat.le_trans hg1.size hk2.size),fun q o hq ho hoc=>?_⟩
 ·obtain ⟨_,_,hD,_⟩:=hp1
  rw [hD] at e
  cases e
 ·have hbm1:=hc1 _ _ _ _ ha.bm
  have hne:v.ownBlock≠some bM:=fun e=>by
   have:=zdr hrow1 e hbm1
   revert this
   decide
  exact (Below.heap_setCell _ _ _ _ (Ne.symm n1)).trans ((hgrow.block bM (by simp;have:=(Array.getElem?_eq_some_iff.1 hbm1).1;omega) (fun e=>hne e.symm)).trans ((Below.heap_alloc _ _ _ (Array.getElem?_eq_some_iff.1 hbm1).1).trans hbm1))
 ·by_cases e:y=x
  ·subst e
   rw [Maps.has_put_same hDs.1.isMap (znh _)]
   simp
  ·rw [Maps.has_put_other (fun h2=>e (zj3 hy hx h2)),hDs.2 y hy]
   simp [e]
 ·rcases List.mem_append.1 hy with hy | hy
  ·exact h.txt y hy
  ·simp at hy
   subst hy
   exact hx
 ·exact ((zap.below hba).trans ⟨hg1.size,fun b c t z _ _ hb=>hc1 b c t z hb⟩).trans hx2
 ·have e1:=(hba.block q (Array.getElem?_eq_some_iff.1 ho).1).trans ho
  have e2:=(hg1.block q (Array.getElem?_eq_some_iff.1 e1).1 (fun e=>hq (Option.some.inj e))).trans e1
  exact hk2.same q o e2 hoc
theorem RS.upd {w W w1:World} {mp bR bM ms n:Nat} {Dp:DataW Unit} {v:Value} {out:List (List Int)} (ha:RS w W mp bR bM ms Dp n v out) (hg1:W.grownBy w1 (some ms)):Go.Boxed w1 bR 34 v/\w1.ownsRow w.heap.size 9 1 v out.length (zbk out)/\w.heap.size<=w1.heap.size:=by
 obtain ⟨Ds,hD,_⟩:=ha.set
 have hc1:∀ (b:Nat) (c:Array Value) (t:TypeId) (z:Nat × Nat),W.heap[b]?=some (.cells c t z)->w1.heap[b]?=some (.cells c t z):=fun b c t z hb =>
  (hg1.block b (Array.getElem?_eq_some_iff.1 hb).1 (fun e=>by
   have e:=Option.some.inj e
   subst e
   obtain ⟨_,_,hD,_⟩:=hD
   rw [hD] at hb
   cases hb)).trans hb
 exact ⟨hc1 _ _ _ _ ha.box,zd6 ha.row (fun b hb=>by
  obtain ⟨cur,hcur⟩:=zbj ha.row hb
  exact (hc1 b _ _ _ hcur).trans hcur.symm),by have:=hg1.size;have:=ha.bel.size;omega⟩
theorem qd9 {w:World} {mp bR bM ms n B:Nat} {Dp:DataW Unit} {out0:List (List Int)} (h1:mp<B) (h2:ms<B) (hB:w.heap.size<=B):OwnFrom B (fun (pre:List NX) W=>∃ v,RS w W mp bR bM ms Dp n v (addU out0 (NX.vals pre))):=by
 intro pre W W' row ⟨v,h⟩ hg hr
 refine ⟨v,h.moved (fun b c t z hc=>(hg.block b (Array.getElem?_eq_some_iff.1 hc).1 (fun e=>?_)).trans hc) (hg.block mp h.pl.lt (fun e=>by have:=(hr mp e.symm).1;omega)) (hg.block ms (by obtain ⟨_,hD,_⟩:=h.set;exact hD.lt) (fun e=>by have:=(hr ms e.symm).1;omega)) ⟨hg.os,hg.tape,hg.output,by have:=h.bel.size;have:=hg.size;omega,fun k hk=>hg.block k (by have:=h.bel.size;omega) (fun e=>by have:=(hr k e.symm).1;omega)⟩⟩
 obtain ⟨_,o,ho,hoc⟩:=hr b e.symm
 rw [hc] at ho
 have:=Option.some.inj ho
 subst this
 cases hoc
theorem zwy (out xs:List (List Int)) (x:List Int):addU out (xs++[x])=if x∈addU out xs then addU out xs else addU out xs++[x]:=by
 rw [zkr]
 rfl
theorem zs4:∀ (xs out:List (List Int)),(addU out xs).length<=out.length+xs.length
 | [],out=>by simp [addU]
 | x::xs,out=>by
  have h:=zs4 xs (if x∈out then out else out++[x])
  have h2:(if x∈out then out else out++[x]).length<=out.length+1:=by split<;>simp
  show (addU (if x∈out then out else out++[x]) xs).length<=_
  simp only [List.length_cons]
  omega
theorem Reaches.at {g:List GR} {n i:Nat} {x:List Int} {out R:List (List Int)} (h:Reaches g n i out R) (hx:out[i]?=some x):∃ n',n=n'+1/\Reaches g n' (i+1) (addU out (zgo g x)) R:=by
 cases h with
 | done h=>have:=(List.getElem?_eq_some_iff.1 hx).1;omega
 | step h1 h2 =>
  rw [hx] at h1
  have e:=Option.some.inj h1
  subst e
  exact ⟨_,rfl,h2⟩
def zm9 (g:List GR) (x:List Int) (w:World) (e:Ending) (w':World):Prop :=
 ∃ (v:Value) (R:List (List Int)),e=.returned v/\zg7 g x R/\w'.ownsRow w.heap.size 9 1 v R.length (zbk R)/\(∀ y∈R,zar y)/\Below w.heap.size w w'
theorem zzu {x:List Int} {S:ByteArray} (hx:zar x) (hS:S=za3 x):keyOf Tryz.prog 9 (.string S)=some (keyT x):=by
 subst hS
 exact zge hx
theorem RS.start {w w1 w2:World} {Dp:DataW Unit} {x:List Int} {S:ByteArray} {n:Nat} (hx:zar x) (hS:S=za3 x) (hDp:w1.ownsMap Tryz.prog 9 (plainElem Tryz.prog 3) w.heap.size n Dp) (hb1:Below w.heap.size w w1)
  (hD2:w2.ownsMap Tryz.prog 9 unitElem (w1.heap.size+1+1) (0+1) ((DataW.map []:DataW Unit).put (keyT x) (.agg []))) (hg2:(((w1.alloc (.cells #[.string S] 9)).alloc (.cells #[.slice (some ⟨w1.heap.size,0,none⟩) 1 1] 34)).alloc (.map #[] 0)).grownBy w2 (some (w1.heap.size+1+1))) :
  RS w (w2.alloc (.cells #[.map (some (w1.heap.size+1+1))] 63)) w.heap.size (w1.heap.size+1) w2.heap.size (w1.heap.size+1+1) Dp n (.slice (some ⟨w1.heap.size,0,none⟩) 1 1) [x]:=by
 subst hS
 have hs3:(((w1.alloc (.cells #[.string (za3 x)] 9)).alloc (.cells #[.slice (some ⟨w1.heap.size,0,none⟩) 1 1] 34)).alloc (.map #[] 0)).heap.size=w1.heap.size+3:=by simp
 have hs2:=hg2.size
 rw [hs3] at hs2
 have hw1:=hb1.size
 have hb3:Below w1.heap.size w1 (((w1.alloc (.cells #[.string (za3 x)] 9)).alloc (.cells #[.slice (some ⟨w1.heap.size,0,none⟩) 1 1] 34)).alloc (.map #[] 0)):=(((Below.refl _ _).alloc (Nat.le_refl _) _).alloc (by simp) _).alloc (by simp;omega) _
 have keep:∀ b,b<w1.heap.size+3->b≠w1.heap.size+1+1->(w2.alloc (.cells #[.map (some (w1.heap.size+1+1))] 63)).heap[b]?=(((w1.alloc (.cells #[.string (za3 x)] 9)).alloc (.cells #[.slice (some ⟨w1.heap.size,0,none⟩) 1 1] 34)).alloc (.map #[] 0)).heap[b]?:=fun b hb hne =>
  (Below.heap_alloc _ _ _ (by omega)).trans (hg2.block b (by rw [hs3];exact hb) (fun e=>hne (Option.some.inj e)))
 have bS:(((w1.alloc (.cells #[.string (za3 x)] 9)).alloc (.cells #[.slice (some ⟨w1.heap.size,0,none⟩) 1 1] 34)).alloc (.map #[] 0)).heap[w1.heap.size]?=some (.cells #[.string (za3 x)] 9 (0,0)):=zfw _ _ (zfw _ _ (heap_alloc_new w1 _))
 have bB:=(Boxed.new (w1.alloc (.cells #[.string (za3 x)] 9)) 34 (.slice (some ⟨w1.heap.size,0,none⟩) 1 1)).alloc (.map #[] 0)
 rw [World.size_alloc] at bB
 have hmap2:=zcg hD2 (W':=w2.alloc (.cells #[.map (some (w1.heap.size+1+1))] 63)) (Below.heap_alloc _ _ _ hD2.lt)
 refine ⟨zcg hDp ((keep _ (by have:=hDp.lt;omega) (by have:=hDp.lt;omega)).trans (hb3.block _ hDp.lt)),(keep _ (by omega) (by omega)).trans bB,?_,Boxed.new w2 _ _,⟨_,hmap2,fun y hy=>?_⟩,fun y hy=>?_,?_⟩
 ·exact zcx (row_of_block (size:=1) (n:=1) (Nat.le_refl _) ((keep _ (by omega) (by omega)).trans bS) (by unfold maxLen;omega) rfl) hw1
 ·by_cases e:y=x
  ·subst e
   rw [Maps.has_put_same ⟨[],rfl⟩ (znh _)]
   simp
  ·rw [Maps.has_put_other (fun h2=>e (zj3 hy hx h2))]
   simp [e]
   rfl
 ·simp at hy
  subst hy
  exact hx
 ·have h4:Below w.heap.size (((w1.alloc (.cells #[.string (za3 x)] 9)).alloc (.cells #[.slice (some ⟨w1.heap.size,0,none⟩) 1 1] 34)).alloc (.map #[] 0)) w2:=⟨hg2.os,hg2.tape,hg2.output,by rw [hs3] at *;omega,fun q hq=>hg2.block q (by rw [hs3];omega) (fun e=>by have:=Option.some.inj e;omega)⟩
  exact ((hb1.trans (hb3.mono hw1)).trans h4).alloc (by omega) _
theorem zs5 (w:World):(zeroValue 62).run Tryz.prog w=.ok (.agg #[]) w:=by kernel_rfl
theorem zzv {w:World} {v:Value} {ys:List RV} {g:List GR} {x:List Int} (h:zd0 w v ys g) (hx:zar x) (hg6:g.length<=1000000) (hsm:∀ r∈g,dep r.expr<=9000/\(zai r.expr).length<=1000000) (hun:(zbo g).length<=1000000) :
  CallsIn Fence.wide 6 Tryz.prog 17 #[v,.string (za3 x)] w (zm9 g x w):=by
 have hto:∀ r∈g,zar r.name:=fun r hr=>by
  obtain ⟨i,hi⟩:=List.getElem?_of_mem hr
  have hl:=(List.getElem?_eq_some_iff.1 hi).1
  exact (h.2.2 i (ys[i]'(by rw [h.2.1];exact hl)) r (List.getElem?_eq_getElem _) hi).2.1
 have HPL:=hh9 (ztu h.rules hg6 hto)
 obtain ⟨a,n,c,rfl,hn⟩:∃ a n c,v=.slice a n c/\n=g.length:=by
  obtain ⟨a,c,h,_⟩:=h.1.slice
  exact ⟨a,_,c,h,rfl⟩
 have HH:=hh9 h
 have HN:=hh9 hn
 have HX:=hh9 hx
 have HSM:=hh9 hsm
 have HUN:=hh9 hun
 have hn6:n<=1000000:=by omega
 obtain ⟨S,hS⟩:∃ S,S=za3 x:=⟨_,rfl⟩
 have HS:=hh9 hS
 have HLK:=hh9 (fun (W:World) (D:DataW Unit) (hD:W.ownsMap Tryz.prog 9 (plainElem Tryz.prog 3) w.heap.size g.length D) (hMG:MapG D g)=>zhf hD hMG hx hS)
 rw [<- hS]
 clear h hn hx hsm hto hun hS hg6
 have hmk:∀ u:World,(Instr.makeMap 63 none).run Tryz.prog u=.ok (.map (some u.heap.size)) (u.alloc (.map #[] 0)):=fun u=>run_makeMap _ u
 have hkey:=zzu HX.out HS.out
 cases hf:zay g x with
 | none =>
  rw [hf] at HLK
  have HF:=hh9 hf
  refine callsIn_of_wp_marks Tryz.func17 rfl trivial ?_ rfl
  simp only [Tryz.ntmps17,List.size_toArray,List.length_cons,List.length_nil,Nat.reduceAdd,Nat.reduceSub,Array.replicate_succ,Array.replicate_zero,List.push_toArray,List.append_toArray,List.nil_append,List.cons_append]
  gi_wp2_with (refine ⟨trivial,?_⟩;gi_at_call 35;refine (callsIn_wide.2 HPL.out).mono ?_;rintro e w1 ⟨Dp,rfl,hDp,hMG,hb1⟩;have HB1:=hh9 hb1;obtain ⟨c1,hrun,hc1⟩:=HLK.out w1 Dp hDp hMG;change _=Result.ok (Value.tuple #[.int .i64 c1,.bool false]) _ at hrun;clear hDp hMG hb1)
  exact ⟨_,results_tmp rfl _ _ _,_,[],rfl,.inl ⟨HF.out,rfl⟩,World.ownsRow_nil _ _ _ _,(fun y hy=>by cases hy),HB1.out⟩
 | some j0 =>
  rw [hf] at HLK
  have HF:=hh9 (show zay g x≠none by rw [hf];simp)
  clear hf
  refine callsIn_of_wp_marks Tryz.func17 rfl trivial ?_ rfl
  simp only [Tryz.ntmps17,List.size_toArray,List.length_cons,List.length_nil,Nat.reduceAdd,Nat.reduceSub,Array.replicate_succ,Array.replicate_zero,List.push_toArray,List.append_toArray,List.nil_append,List.cons_append]
  gi_wp2
  refine ⟨trivial,?_⟩
  gi_at_call 35
  refine (callsIn_wide.2 HPL.out).mono ?_
  rintro e w1 ⟨Dp,rfl,hDp,hMG,hb1⟩
  obtain ⟨c1,hrun,hc1⟩:=HLK.out w1 Dp hDp hMG
  change _=Result.ok (Value.tuple #[.int .i64 c1,.bool true]) _ at hrun
  obtain ⟨w2,hrun2,hD2,hg2⟩:=(World.ownsMap_made (H:=Unit) ((w1.alloc (.cells #[.string S] 9)).alloc (.cells #[.slice (some ⟨w1.heap.size,0,none⟩) 1 1] 34)) Tryz.prog 9 unitElem).update zfy Tryz.underlying63 (by unfold maxLen;omega) hkey unitElem_mk
  have hsz2:((w1.alloc (.cells #[.string S] 9)).alloc (.cells #[.slice (some ⟨w1.heap.size,0,none⟩) 1 1] 34)).heap.size=w1.heap.size+1+1:=by simp
  rw [hsz2] at hrun2 hD2 hg2
  have HST:=hh9 (RS.start (n:=g.length) HX.out HS.out hDp hb1 hD2 hg2)
  have HMG:=hh9 hMG
  have HB1:=hh9 hb1
  have HG2:=hh9 hg2
  have HD2:=hh9 hD2
  clear hDp hMG hb1 hD2 hg2 hsz2
  gi_wp2
  obtain ⟨nt,Rr,hRe⟩:=Reaches.is g ([x].length+ziv (zbo g) [x]) 0 [x] (by omega)
  have HRE:=hh9 hRe
  have hlk:[x].length+ziv (zbo g) [x]<=1000001:=by
   have h1:=List.length_filter_le (fun y=>decide (y ∉ [x])) (zbo g)
   have h2:=HUN.out
   unfold ziv
   simp only [List.length_cons,List.length_nil]
   omega
  have hwb:=HB1.out.size
  have hg2s:=HG2.out.size
  have hs3:(((w1.alloc (.cells #[.string S] 9)).alloc (.cells #[.slice (some ⟨w1.heap.size,0,none⟩) 1 1] 34)).alloc (.map #[] 0)).heap.size=w1.heap.size+3:=by simp
  rw [hs3] at hg2s
  have hmpl:w.heap.size<w1.heap.size:=by
   have h:=HST.out.pl.lt
   have h2:=HST.out.ne
   rcases Nat.lt_or_ge w.heap.size w1.heap.size with h3 | h3
   ·exact h3
   ·have h4:w1.heap.size=w.heap.size:=by omega
    exfalso
    obtain ⟨_,_,hP,_⟩:=HST.out.pl
    obtain ⟨cur,hcur⟩:=zbj HST.out.row (b:=w1.heap.size) rfl
    rw [<- h4] at hP
    rw [hP] at hcur
    cases hcur
  clear hRe hs3
  refine wpIn_loop (fun a' wr=>∃ (u10 u11 u12 u32 u33 u34 u35 u36 u37 u38 u39 u40 u41 u42 u43 u44 u45 u46 u47 u48 u49 u50 u51 u52 u53 u54:Value) (Ds:List Nat) (i nl:Nat) (vo:Value) (out:List (List Int)),(u10=.int .i64 i/\nl+i=nt/\i<=1000001/\Hid (Reaches g nl i out Rr)/\out.length+ziv (zbo g) out<=1000001/\Hid (RS w wr w.heap.size (w1.heap.size+1) w2.heap.size (w1.heap.size+1+1) Dp g.length vo out)/\Hid (zbd w.heap.size Ds wr)) /\
   a'={ tmps:=#[.slice a n c,.string S,undef,undef,.slice none 0 0,.map (some w.heap.size),.int .i64 j0,.bool true,.pointer (some ⟨w1.heap.size+1,0,none⟩),.pointer (some ⟨w2.heap.size,0,none⟩),u10,u11,u12,undef,undef,undef,.slice a n c,.map (some w.heap.size),.tuple #[.int .i64 j0,.bool true],.map (some w.heap.size),.string S,.tuple #[.int .i64 j0,.bool true],.int .i64 j0,.bool true,.bool true,.bool false,.string S,.slice (some ⟨w1.heap.size,0,none⟩) 1 1,.map (some (w1.heap.size+1+1)),.string S,.agg #[],.map (some (w1.heap.size+1+1)),
    u32,u33,u34,u35,u36,u37,u38,u39,u40,u41,u42,u43,u44,u45,u46,u47,u48,u49,u50,u51,u52,u53,u54,undef,undef,undef,undef,undef,undef,undef,undef,undef,undef,undef,undef,undef,undef,undef,undef,undef],defers:=zn9 Ds }) (fun a' _=>nt-(intOf (a'.tmps.getD 10 undef)).toNat) ?_ ?_
  ·exact ⟨.int .i64 0,undef,undef,undef,undef,undef,undef,undef,undef,undef,undef,undef,undef,undef,undef,undef,undef,undef,undef,undef,undef,undef,undef,undef,undef,undef,[],0,nt,_,[x],⟨rfl,by omega,by omega,HRE,hlk,HST,zbd.nil _ _⟩,rfl⟩
  ·rintro a' wr ⟨u10,u11,u12,u32,u33,u34,u35,u36,u37,u38,u39,u40,u41,u42,u43,u44,u45,u46,u47,u48,u49,u50,u51,u52,u53,u54,Ds,i,nl,vo,out,⟨rfl,hnl,hi6,HRX,hbd,HRS,HM⟩,rfl⟩
   have p1:=HRS.out.box.cell
   have p2:=HRS.out.bm.cell
   by_cases hlt:i<out.length
   ·have q1:decide ((i:Int)<(out.length:Int))=true:=decide_eq_true (by omega)
    obtain ⟨y,hy⟩:∃ y,out[i]?=some y:=⟨_,List.getElem?_eq_getElem hlt⟩
    have hyt:=HRS.out.txt y (List.mem_of_getElem? hy)
    obtain ⟨go,capo,rfl⟩:∃ g cap,vo=.slice (some ⟨g,0,none⟩) out.length cap:=by
     rcases zan HRS.out.row with ⟨_,h0⟩ | ⟨g1,cap1,h1⟩
     ·omega
     ·exact ⟨_,_,h1⟩
    have hcy:wr.cell? ⟨go,i,none⟩=some (.string (za3 y)):=zaq HRS.out.row (by unfold zbk;rw [List.getElem?_map,hy];rfl)
    obtain ⟨c2,hrun2,hc2⟩:=zhf HRS.out.pl HMG.out hyt rfl
    obtain ⟨n',rfl,hRE'⟩:=HRX.out.at hy
    have HRE2:=hh9 hRE'
    obtain ⟨SY,hSY⟩:∃ SY,SY=za3 y:=⟨_,rfl⟩
    rw [<- hSY] at hcy hrun2
    have HSY:=hh9 hSY
    clear hRE' hSY
    cases hfy:zay g y with
    | none =>
     rw [hfy] at hrun2
     change _=Result.ok (Value.tuple #[.int .i64 c2,.bool false]) _ at hrun2
     have hne:zgo g y=[]:=by unfold zgo;rw [hfy]
     rw [hne] at HRE2
     change Hid (Reaches g n' (i+1) out Rr) at HRE2
     clear hc2
     gi_wp2
     refine ⟨⟨_,_,_,_,_,_,_,_,_,_,_,_,_,_,_,_,_,_,_,_,_,_,_,_,_,_,Ds,i+1,n',_,out,⟨by go_num,by omega,by omega,HRE2,hbd,HRS,HM⟩,rfl⟩,?_⟩
     simp [intOf]
     omega
    | some p =>
     obtain rfl:=hc2 p hfy
     rw [hfy] at hrun2
     change _=Result.ok (Value.tuple #[.int .i64 (p:Int),.bool true]) _ at hrun2
     obtain ⟨⟨r,hr,hrn⟩,_⟩:=zbv.1 hfy
     have hpl:=zmj hfy
     have hne:zgo g y=zai r.expr:=by unfold zgo;rw [hfy];simp only [hr]
     rw [hne] at HRE2
     obtain ⟨Y,hY⟩:∃ Y,ys[p]?=some Y:=⟨_,List.getElem?_eq_getElem (by rw [HH.out.2.1];exact hpl)⟩
     have hE:=(HH.out.2.2 p Y r hY hr).2.2.kept (M:=fun _=>False) (P':=fun _=>True) (zap.below HRS.out.bel) (fun b _ _=>⟨id,trivial⟩)
     have hsm:=HSM.out r (List.mem_of_getElem? hr)
     obtain ⟨gb,off,ha,hb3,hcs⟩:∃ b off,a=some ⟨b,off,none⟩/\b<w.heap.size/\∀ (j:Nat) (u:Value),(ys.flatMap RV.cells)[j]?=some u->w.cell? ⟨b,off+j,none⟩=some u:=by
      rcases HH.out.1 with ⟨h0,_⟩ | ⟨b,off,cap,h1,_,_,h3,h4⟩
      ·omega
      ·injection h1 with h1
       exact ⟨b,off,h1,h3,h4⟩
     subst ha
     have CX:∀ (j:Nat) (u:Value),j<7->Y.cells[j]?=some u->wr.cell? ⟨gb,off+(p*7+j),none⟩=some u:=fun j u hj hu =>
      (HRS.out.bel.cell (p:=⟨gb,off+(p*7+j),none⟩) hb3).trans (hcs _ u ((zct ys p j Y hY hj).trans hu))
     obtain ⟨nm,⟨k,tx,nv,lo,hi,kv⟩⟩:=Y
     obtain ⟨⟨na,nn,nc,hns⟩,ka,kn,kc,hks⟩:=hE.slices
     simp only [] at hns hks
     subst hns hks
     have e1:=CX 1 _ (by omega) rfl
     have e2:=CX 2 _ (by omega) rfl
     have e3:=CX 3 _ (by omega) rfl
     have e4:=CX 4 _ (by omega) rfl
     have e5:=CX 5 _ (by omega) rfl
     have e6:=CX 6 _ (by omega) rfl
     rw [<- Nat.add_assoc] at e1 e2 e3 e4 e5 e6
     simp only [] at e1 e2 e3 e4 e5 e6
     have hpn:p<n:=by have:=HN.out;omega
     have q2:decide ((p:Int)<(n:Int))=true:=decide_eq_true (by omega)
     have HX3:=hh9 (fun W=>zjv (w:=W) ⟨k,tx,.slice na nn nc,lo,hi,.slice ka kn kc⟩ rfl rfl)
     have hba:Below wr.heap.size wr (wr.alloc (xobj k lo hi tx (.slice na nn nc) (.slice ka kn kc))):=(Below.refl _ _).alloc (Nat.le_refl _) _
     have bX:BoxX (wr.alloc (xobj k lo hi tx (.slice na nn nc) (.slice ka kn kc))) wr.heap.size ⟨k,tx,.slice na nn nc,lo,hi,.slice ka kn kc⟩:=heap_alloc_new wr (xobj k lo hi tx (.slice na nn nc) (.slice ka kn kc))
     have hstop:=zfx (Bs:=wr.heap.size) (M:=fun _=>False) (P:=fun _=>True) (fun _ h=>h.elim) (fun _ _ h=>h) (fun h=>h) (hE.kept (P':=fun _=>True) (zap.below (M:=fun _=>False) hba) (fun b hb _=>⟨fun h=>h,trivial⟩)) bX (by omega)
     obtain ⟨NM,hNM⟩:∃ NM,NM=zai r.expr:=⟨_,rfl⟩
     have hnl6:=hsm.2
     rw [<- hNM] at hstop hnl6 HRE2 hne
     have HST2:=hh9 hstop
     have HNE:=hh9 hne
     have HBA:=hh9 hba
     have hwr:=HRS.out.bel.size
     obtain ⟨Ds0,hDs0,_⟩:=HRS.out.set
     have hmsl:=hDs0.lt
     have hmpl2:=HRS.out.pl.lt
     unfold xobj at HX3 HST2 HBA
     clear CX hcs bX hE hba hY hr hstop hNM hne hDs0 hsm hfy hc2
     gi_wp2_with (refine ⟨trivial,?_⟩;gi_at_call 36;refine (callsIn_wide.2 (HX3.out _)).mono ?_;rintro e w' ⟨rfl,rfl⟩)
     refine wpIn_rangeFunc_ownG rfl (by omega) (gf:=53) (lb:=#[.pointer (some ⟨wr.heap.size,0,none⟩)]) rfl trivial (enters_of Tryz.func53 (by kernel_rfl) rfl)
      HST2.out zmu (fun W l o o' _ h ho _=>zap.put W l o o' h ho) (Below.refl _ _) (fun _=>rfl)
      (fun pre W=>(∃ v,RS w W w.heap.size (w1.heap.size+1) w2.heap.size (w1.heap.size+1+1) Dp g.length v (addU out (NX.vals pre)))/\zbd w.heap.size Ds W)
      (fun _ _ _=>False)
      (OwnFrom.and (qd9 (by simp;omega) (by simp;omega) (by have:=HBA.out.size;omega)) (zbd.own (fun D hD=>by have:=HM.out.lt hD;simp;omega)))
      (fun _ _ _ _ _ hs _ _=>hs)
      ⟨⟨_,HRS.out.under HBA.out⟩,HM.out.below HBA.out⟩
      ?a1 ?assign ?body ?done ?stop
     case assign =>
      intro l x W K hK
      gi_wp2
      exact hK
     case body =>
      rintro l pre ⟨x2,hx2⟩ W ⟨⟨v2,hRS2⟩,hM2⟩ hlt2
      have b1:=hRS2.box.cell
      have b2:=hRS2.bm.cell
      obtain ⟨Ds2,hD2,hS2⟩:=hRS2.set
      have hkey2:=zge hx2
      have hRSH:=hh9 hRS2
      have hMH:=hh9 hM2
      have hlen2:=zs4 (NX.vals pre) out
      have hpre:(NX.vals pre).length=pre.length:=by simp [NX.vals]
      obtain ⟨out2,hout2⟩:∃ o,o=addU out (NX.vals pre):=⟨_,rfl⟩
      have hsn:addU out (NX.vals (pre++[(⟨x2,hx2⟩:NX)]))=if x2∈out2 then out2 else out2++[x2]:=by
       rw [zoq,zwy,hout2]
      have HSN:=hh9 hsn
      have hge:0<out2.length:=by
       obtain ⟨t,ht,_⟩:=zhn (NX.vals pre) out
       rw [hout2,ht,List.length_append]
       omega
      rw [<- hout2] at hD2 hS2 hRSH hlen2
      have HO2:=hh9 hout2
      obtain ⟨SX,hSX⟩:∃ SX,SX=za3 x2:=⟨_,rfl⟩
      have HSX:=hh9 hSX
      have HD2:=hh9 hD2
      have HS2:=hh9 hS2
      clear hRS2 hM2 hsn hout2
      by_cases hmem:x2∈out2
      ·have hs:Maps.has Ds2 (keyT x2)=true:=by rw [hS2 x2 hx2];exact decide_eq_true hmem
       clear hS2 hSX
       gi_wp2_with (gi_at_lookup;refine wpListIn_lookup_own_unit _ rfl _ _ 63 rfl 9 62 zfy Tryz.underlying63 (zs5 _) (w1.heap.size+1+1) out2.length Ds2 rfl hD2 _ _ rfl hkey2 ?_;rw [hs])
       have hb:Below W.heap.size W (W.alloc (.cells #[] 62)):=(Below.refl _ _).alloc (Nat.le_refl _) _
       refine ⟨zeo hb,zap.below hb,⟨v2,?_⟩,hMH.out.below hb⟩
       rw [HSN.out,if_pos hmem]
       exact hRSH.out.under hb
      ·have hs:Maps.has Ds2 (keyT x2)=false:=by rw [hS2 x2 hx2];exact decide_eq_false hmem
       obtain ⟨g2,cap2,rfl⟩:∃ g cap,v2=.slice (some ⟨g,0,none⟩) out2.length cap:=by
        rcases zan hRSH.out.row with ⟨_,h0⟩ | ⟨g1,cap1,h1⟩
        ·omega
        ·exact ⟨_,_,h1⟩
       obtain ⟨i0,hi0,hz0,hz1,hz2⟩:=info_parts zhv
       have hb:Below W.heap.size W (W.alloc (.cells #[] 62)):=(Below.refl _ _).alloc (Nat.le_refl _) _
       have HBB:=hh9 hb
       have hD3:=zcg hD2 (hb.block _ hD2.lt)
       have b3:=zbp b1 (.cells #[] 62)
       have b4:=zbp b2 (.cells #[] 62)
       have HRA:=hh9 (hRSH.out.under hb)
       have hwW:=hRSH.out.bel.size
       clear hS2 hSX hb
       gi_wp2_with (first
        | (gi_at_lookup;refine wpListIn_lookup_own_unit _ rfl _ _ 63 rfl 9 62 zfy Tryz.underlying63 (zs5 _) (w1.heap.size+1+1) out2.length Ds2 rfl hD2 _ _ rfl hkey2 ?_;rw [hs])
        | (gi_at_mapUpdate;refine wpListIn_mapUpdate_own _ rfl _ _ _ 63 rfl 9 62 zfy Tryz.underlying63 unitElem (w1.heap.size+1+1) out2.length Ds2 rfl hD3 (by unfold maxLen;omega) _ _ (keyT x2) rfl rfl hkey2 (.agg []) [] unitElem_mk ?_;intro w3 hm3 hg3;obtain ⟨bb,rr,hsz3⟩:=HRA.out.upd hg3;have HM3:=hh9 hm3;have HG3:=hh9 hg3;have HBX:=hh9 bb;have HRR:=hh9 rr;have b5:=bb.cell;have b6:=bb.frozen;clear hm3 hg3 bb rr)
        | (gi_at_builtin;refine wpListIn_append_own _ rfl _ _ 34 rfl w.heap.size 9 i0 (.string ⟨#[]⟩) 1 16 Tryz.underlying34 hi0 hz0 hz1 hz2 rfl (by decide) _ _ _ rfl (HRR.out.alloc _) ⟨w3.heap.size,0,none⟩ 1 1 [.string (za3 x2)] rfl rfl (cell_one_new _ _ _) (by simp [Value.oneCell']) (by unfold maxLen;omega) (by omega) (by simp;omega) ?_;intro v' w4 hown' hgrow _;obtain ⟨g',cap',rfl⟩:=ownsRow_succ hown';have hcol:=zp8 (n₀:=w.heap.size) HBX.out (by decide) (by unfold KT;decide) (by unfold KT;decide) HRR.out (by omega) hown' hgrow;have b7:=hcol.1.cell;have b8:=hcol.1.frozen;have HOWN4:=hh9 hown';have HGR4:=hh9 hgrow;clear hcol hown' hgrow))
       obtain ⟨h1,h2,h3,h4⟩:=hRSH.out.added HBB.out (by omega) (by omega) (by omega) hx2 hmem ⟨HD2.out,HS2.out⟩ HM3.out HG3.out HOWN4.out HGR4.out
       refine ⟨⟨h3,fun q o hq ho hoc=>h4 q o (fun e=>by subst e;simp at hq;omega) ho hoc⟩,h2,⟨_,by rw [HSN.out,if_neg hmem];exact h1⟩,hMH.out.kept (fun D hDl h0 hDD=>(h4 D _ (fun e=>?_) hDD rfl).trans hDD.symm)⟩
       subst e
       obtain ⟨_,_,hD,_⟩:=HD2.out
       rw [hD] at hDD
       cases hDD
     case done =>
      rintro D xs W hD hxs ⟨⟨v2,hRS2⟩,hM2⟩ hK
      rw [hxs] at hRS2
      have hM3:=hM2.push (D:=D) (fun E hE=>by have:=HM.out.lt hE;simp at hD;omega) (by have:=HBA.out.size;simp at hD;omega) hK
      have hbd2:=zid (zbo g) NM out (fun z hz=>zs3 (x:=y) (by rw [HNE.out];exact hz))
      gi_wp2
      refine ⟨⟨_,_,_,_,_,_,_,_,_,_,_,_,_,_,_,_,_,_,_,_,_,_,_,_,_,_,D::Ds,i+1,n',v2,_,⟨by go_num,by omega,by omega,HRE2,by omega,hh9 hRS2,hh9 hM3⟩,rfl⟩,?_⟩
      simp [intOf]
      omega
     case stop =>
      rintro D c pre W _ _ h _
      exact h.elim
   ·have hfin:nl=0/\out=Rr:=by
     cases HRX.out with
     | done h=>exact ⟨rfl,rfl⟩
     | step h1=>have:=(List.getElem?_eq_some_iff.1 h1).1;omega
    have q1:decide ((i:Int)<(out.length:Int))=false:=decide_eq_false (by omega)
    obtain ⟨va,vcc,rfl⟩:=zbi HRS.out.row
    have hRT:Hid (Reaches g 0 i Rr Rr/\zg7 g x Rr):=by
     refine ⟨?_,.inr ⟨HF.out,nt,HRE.out⟩⟩
     have h:=HRX.out
     rw [hfin.1,hfin.2] at h
     exact h
    have HFIN:=hh9 hfin
    clear hfin
    gi_wp2
    refine ziq Ds wr HM.out.1 (fun D hD=>(HM.out.2 D hD).2) (fun W' h1 h2 h3 h4 h5=>⟨_,results_tmp rfl _ _ _,?_⟩)
    refine ⟨_,Rr,rfl,hRT.out.2,?_,?_,?_⟩
    ·rw [<- HFIN.out.2]
     exact zd6 HRS.out.row (fun b hb=>by
      obtain ⟨cur,hcur⟩:=zbj HRS.out.row hb
      exact zi6 HM.out h5 hcur)
    ·rw [<- HFIN.out.2]
     exact HRS.out.txt
    ·exact HRS.out.bel.trans (zi7 HM.out h1 h2 h3 h4 h5 (Nat.le_refl _))
theorem zwz {w:World} {v:Value} {ys:List RV} {g:List GR} {x:List Int} (h:zd0 w v ys g) (hx:zar x) (hg6:g.length<=1000000) (hsm:∀ r∈g,dep r.expr<=9000/\(zai r.expr).length<=1000000) (hun:(zbo g).length<=1000000) :
  Calls Tryz.prog 17 #[v,.string (za3 x)] w (zm9 g x w):=(callsIn_wide (n:=6)).1 (zzv h hx hg6 hsm hun)
end Go.Proofs.YtdgcmiecgnmdjaaGreatDoor
namespace Go.Proofs.YtdgcmiecgnmdjaaGreatDoor
open Go.RowKit
def ziw (W:World) (a:Option Addr) (ns:List (List Int)) (v:Value):Prop:=0<ns.length->∃ gN,a=some ⟨gN,0,none⟩/\gN<W.heap.size/\v.ownBlock≠some gN/\∀ (q:Nat) (u:Value),(zbk ns)[q]?=some u->W.cell? ⟨gN,q,none⟩=some u
theorem ziw.below {W W':World} {a:Option Addr} {ns:List (List Int)} {v:Value} (h:ziw W a ns v) (hb:Below W.heap.size W W'):ziw W' a ns v:=fun h0=>by
 obtain ⟨g,e,h1,h2,h3⟩:=h h0
 exact ⟨g,e,Nat.lt_of_lt_of_le h1 hb.size,h2,fun q u hq=>(hb.cell (p:=⟨g,q,none⟩) h1).trans (h3 q u hq)⟩
theorem ziw.push {W W':World} {a:Option Addr} {ns:List (List Int)} {v v':Value} (h:ziw W a ns v) (hg:W.grownBy W' v.ownBlock) (hat:v'.ownBlock=v.ownBlock\/v'.ownBlock=some W.heap.size):ziw W' a ns v':=fun h0=>by
 obtain ⟨g,e,h1,h2,h3⟩:=h h0
 refine ⟨g,e,Nat.lt_of_lt_of_le h1 hg.size,fun e2=>?_,fun q u hq=>(World.cell?_of_block (a:=⟨g,q,none⟩) (hg.block g h1 (Ne.symm h2))).trans (h3 q u hq)⟩
 rcases hat with e3 | e3
 ·exact h2 (e3.symm.trans e2)
 ·rw [e3] at e2
  have:=Option.some.inj e2
  omega
theorem ziw.start {W W':World} {base k:Nat} {nv v:Value} {ns:List (List Int)} {xs:List Value} (hr:W'.ownsRow W.heap.size 9 1 nv ns.length (zbk ns)) (hv:W.ownsRow base 9 1 v k xs):∃ a c,nv=.slice a ns.length c/\ziw W' a ns v:=by
 rcases zan hr with ⟨rfl,h0⟩ | ⟨g,cap,rfl⟩
 ·exact ⟨none,0,by rw [h0],fun h=>by omega⟩
 ·obtain ⟨h1,_,_,h4⟩:=zb0 hr
  refine ⟨_,_,rfl,fun _=>⟨g,rfl,h4,fun e=>?_,fun q u hq=>by simpa using zaq hr hq⟩⟩
  obtain ⟨cur,hc⟩:=zbj hv e
  have:=(Array.getElem?_eq_some_iff.1 hc).1
  omega
structure RI (w:World) (g:List GR) (wr:World) (s:Value) (out:List (List Int)):Prop where
 row:wr.ownsRow w.heap.size 9 1 s out.length (zbk out)
 bel:Below w.heap.size w wr
 ok:∀ y∈out,zar y
 few:out.length+ziv (zbo g) out<=1000001
theorem RI.below {w wr W:World} {g:List GR} {s:Value} {out:List (List Int)} (h:RI w g wr s out) (hb:Below wr.heap.size wr W):RI w g W s out:=⟨zb3 h.row hb,za0 h.bel hb,h.ok,h.few⟩
theorem RI.len {w wr:World} {g:List GR} {s:Value} {out:List (List Int)} (h:RI w g wr s out):out.length<=1000001:=by have:=h.few;omega
theorem ETree.named {W:World} {X:XV} {t:Tree} (h:ETree W X t):∀ y∈zai t,zar y:=by
 induction h with
 | @mk k lo hi ns ks tx nums kids vs h0 hl0 h1 h2 h3 h4 ih =>
  intro y hy
  rw [zdt] at hy
  rcases List.mem_append.1 hy with hy | hy
  ·split at hy
   ·simp at hy
    subst hy
    exact ⟨h0,hl0⟩
   ·cases hy
  ·obtain ⟨l,hl,hy⟩:=List.mem_flatten.1 hy
   obtain ⟨t,ht,rfl⟩:=List.mem_map.1 hl
   obtain ⟨i,hi⟩:=List.getElem?_of_mem ht
   have hlt:=(List.getElem?_eq_some_iff.1 hi).1
   exact ih i (vs[i]'(by rw [h3];exact hlt)) t (List.getElem?_eq_getElem _) hi y hy
def RowQ (W:World) (P:Nat->Prop) (v:Value) (n:Nat) (xs:List Value):Prop :=
 (n=0/\∃ a cap,v=.slice a 0 cap)\/∃ g off cap,v=.slice (some ⟨g,off,none⟩) n cap/\n<=cap/\cap<=maxLen/\g<W.heap.size/\P g/\∀ (j:Nat) (u:Value),xs[j]?=some u->W.cell? ⟨g,off+j,none⟩=some u
theorem RowQ.any {W:World} {P:Nat->Prop} {v:Value} {n:Nat} {xs:List Value} (h:RowQ W P v n xs):RowAny W v n xs:=by
 rcases h with h | ⟨g,off,cap,h1,h2,h3,h4,_,h5⟩
 ·exact .inl h
 ·exact .inr ⟨g,off,cap,h1,h2,h3,h4,h5⟩
theorem RowQ.of {W:World} {P:Nat->Prop} {v:Value} {n:Nat} {xs:List Value} (h:RowAny W v n xs) (hP:∀ b,b<W.heap.size->P b):RowQ W P v n xs:=by
 rcases h with h | ⟨g,off,cap,h1,h2,h3,h4,h5⟩
 ·exact .inl h
 ·exact .inr ⟨g,off,cap,h1,h2,h3,h4,hP g h4,h5⟩
def zis (W W':World) (P P':Nat->Prop):Prop:=W.heap.size<=W'.heap.size/\∀ b,P b->b<W.heap.size->W'.heap[b]?=W.heap[b]?/\P' b
theorem RowQ.kept {W W':World} {P P':Nat->Prop} {v:Value} {n:Nat} {xs:List Value} (h:RowQ W P v n xs) (hk:zis W W' P P'):RowQ W' P' v n xs:=by
 rcases h with h | ⟨g,off,cap,h1,h2,h3,h4,hP,h5⟩
 ·exact .inl h
 ·exact .inr ⟨g,off,cap,h1,h2,h3,Nat.lt_of_lt_of_le h4 hk.1,(hk.2 g hP h4).2,fun j u hj=>(World.cell?_of_block (a:=⟨g,off+j,none⟩) (hk.2 g hP h4).1).trans (h5 j u hj)⟩
inductive ETQ (W:World) (P:Nat->Prop):XV->Tree->Prop
 | mk {k lo hi:Int} {ns ks:Value} {x nums:List Int} {kids:List Tree} (vs:List XV) :
   (∀ c∈x,0<=c/\c<=255)->x.length<=9223372036854775807->RowQ W P ns nums.length (zat nums)->RowQ W P ks kids.length (vs.flatMap XV.cells)->vs.length=kids.length ->
   (∀ (i:Nat) (y:XV) (t:Tree),vs[i]?=some y->kids[i]?=some t->ETQ W P y t)->ETQ W P ⟨k,za3 x,ns,lo,hi,ks⟩ (.mk k x nums lo hi kids)
theorem ETQ.any {W:World} {P:Nat->Prop} {X:XV} {t:Tree} (h:ETQ W P X t):ETree W X t:=by
 induction h with
 | mk vs h0 hl h1 h2 h3 _ ih=>exact .mk vs h0 hl h1.any h2.any h3 ih
theorem ETQ.of {W:World} {P:Nat->Prop} {X:XV} {t:Tree} (h:ETree W X t) (hP:∀ b,b<W.heap.size->P b):ETQ W P X t:=by
 induction h with
 | mk vs h0 hl h1 h2 h3 _ ih=>exact .mk vs h0 hl (RowQ.of h1 hP) (RowQ.of h2 hP) h3 ih
theorem ETQ.kept {W W':World} {P P':Nat->Prop} {X:XV} {t:Tree} (h:ETQ W P X t) (hk:zis W W' P P'):ETQ W' P' X t:=by
 induction h with
 | mk vs h0 hl h1 h2 h3 _ ih=>exact .mk vs h0 hl (h1.kept hk) (h2.kept hk) h3 ih
theorem RowQ.one {W:World} {P:Nat->Prop} {v:Value} {n:Nat} {xs:List Value} (h:RowQ W P v n xs):∃ a c,v=.slice a n c:=by
 rcases h with ⟨rfl,a,c,rfl⟩ | ⟨g,off,cap,rfl,_⟩
 ·exact ⟨_,_,rfl⟩
 ·exact ⟨_,_,rfl⟩
theorem ETQ.forms {W:World} {P:Nat->Prop} {X:XV} {t:Tree} (h:ETQ W P X t):∃ k tx lo hi a1 n1 c1 a2 n2 c2,X=⟨k,tx,.slice a1 n1 c1,lo,hi,.slice a2 n2 c2⟩:=by
 cases h with
 | mk vs h0 hl h1 h2 h3 h4 =>
  obtain ⟨a1,c1,rfl⟩:=h1.one
  obtain ⟨a2,c2,rfl⟩:=h2.one
  exact ⟨_,_,_,_,_,_,_,_,_,_,rfl⟩
theorem ETQ.alts {W:World} {P:Nat->Prop} {X:XV} {t:Tree} (h:ETQ W P X t) (hp:0<(zbt t).length) :
  ∃ vs:List XV,vs.length=(zbt t).length/\(∀ (i:Nat) (y:XV) (u:Tree),vs[i]?=some y->(zbt t)[i]?=some u->ETQ W P y u)/\((X.kind=1/\RowAny W X.ks vs.length (vs.flatMap XV.cells))\/(X.kind≠1/\vs=[X])):=by
 have h':=h
 cases h with
 | @mk k lo hi ns ks x nums kids vs h0 hl h1 h2 h3 h4 =>
  by_cases hk:k=1
  ·have e:zbt (.mk k x nums lo hi kids)=kids:=by rw [zi9,if_pos hk]
   exact ⟨vs,by rw [e];exact h3,fun i y u hy hu=>h4 i y u hy (by rwa [e] at hu),.inl ⟨hk,by rw [h3];exact h2.any⟩⟩
  ·have e:zbt (.mk k x nums lo hi kids)=[.mk k x nums lo hi kids]:=by rw [zi9,if_neg hk]
   refine ⟨[_],by rw [e];rfl,fun i y u hy hu=>?_,.inr ⟨hk,rfl⟩⟩
   rw [e] at hu
   cases i with
   | zero =>
    simp at hy hu
    subst hy hu
    exact h'
   | succ i=>simp at hy
theorem zx0 {W:World} {P:Nat->Prop} {vs:List XV} {ts:List Tree} (hl:vs.length=ts.length) (h:∀ (i:Nat) (y:XV) (u:Tree),vs[i]?=some y->ts[i]?=some u->ETQ W P y u):∀ u∈vs.flatMap XV.cells,u.oneCell'=true:=by
 intro u hu
 obtain ⟨y,hy,hu⟩:=List.mem_flatMap.1 hu
 obtain ⟨i,hi⟩:=List.getElem?_of_mem hy
 have hlt:=(List.getElem?_eq_some_iff.1 hi).1
 obtain ⟨k,tx,lo,hi',a1,n1,c1,a2,n2,c2,rfl⟩:=(h i y (ts[i]'(by omega)) hi (List.getElem?_eq_getElem _)).forms
 simp [XV.cells] at hu
 rcases hu with rfl | rfl | rfl | rfl | rfl | rfl<;>rfl
structure D5 (w wr:World) (v:Value) (ys:List RV) (g:List GR):Prop where
 row:wr.ownsRow w.heap.size 29 7 v g.length (ys.flatMap RV.cells)
 len:ys.length=g.length
 each:∀ (i:Nat) (y:RV) (r:GR),ys[i]?=some y->g[i]?=some r->y.name=za3 r.name/\zar r.name/\ETQ wr (fun b=>some b≠v.ownBlock) y.expr r.expr
 bel:Below w.heap.size w wr
theorem D5.rules {w wr:World} {v:Value} {ys:List RV} {g:List GR} (h:D5 w wr v ys g):zdg wr v ys g:=⟨zcr h.row,h.len,fun i y r hy hr=>⟨(h.each i y r hy hr).1,(h.each i y r hy hr).2.1,(h.each i y r hy hr).2.2.any⟩⟩
theorem D5.below {w wr W:World} {v:Value} {ys:List RV} {g:List GR} (h:D5 w wr v ys g) (hb:Below wr.heap.size wr W):D5 w W v ys g :=
 ⟨zb3 h.row hb,h.len,fun i y r hy hr=>⟨(h.each i y r hy hr).1,(h.each i y r hy hr).2.1,(h.each i y r hy hr).2.2.kept ⟨hb.size,fun b hp hl=>⟨hb.block b hl,hp⟩⟩⟩,za0 h.bel hb⟩
theorem D5.start (w:World):D5 w w (.slice none 0 0) [] []:=⟨World.ownsRow_nil _ _ _ _,rfl,fun i y r hy=>by simp at hy,Below.refl _ _⟩
theorem D5.push {w W w':World} {v v':Value} {ys:List RV} {g:List GR} {y:RV} {r:GR} (h:D5 w W v ys g) (hown:w'.ownsRow w.heap.size 29 7 v' (g++[r]).length ((ys++[y]).flatMap RV.cells)) (hg:W.grownBy w' v.ownBlock) (hat:v'.ownBlock=v.ownBlock\/v'.ownBlock=some W.heap.size)
  (hy:y.name=za3 r.name) (hto:zar r.name) (hE:ETQ W (fun b=>some b≠v.ownBlock) y.expr r.expr):D5 w w' v' (ys++[y]) (g++[r]):=by
 have hk:zis W w' (fun b=>some b≠v.ownBlock) (fun b=>some b≠v'.ownBlock):=⟨hg.size,fun b hp hl=>⟨hg.block b hl hp,fun e=>by
  rcases hat with h1 | h1
  ·exact hp (e.trans h1)
  ·have:=Option.some.inj (e.trans h1)
   omega⟩⟩
 refine ⟨hown,by simp [h.len],fun i z u hz hu=>?_,h.bel.grown hg h.bel.size (zcc h.row)⟩
 by_cases hi:i<g.length
 ·rw [List.getElem?_append_left (by rw [h.len];exact hi)] at hz
  rw [List.getElem?_append_left hi] at hu
  obtain ⟨a,b,c⟩:=h.each i z u hz hu
  exact ⟨a,b,c.kept hk⟩
 ·have hl:=h.len
  have hi2:=(List.getElem?_eq_some_iff.1 hu).1
  simp at hi2
  obtain rfl:i=g.length:=by omega
  rw [List.getElem?_append_right (Nat.le_refl _)] at hu
  rw [List.getElem?_append_right (by omega)] at hz
  simp [hl] at hz hu
  subst hz hu
  exact ⟨hy,hto,hE.kept hk⟩
theorem D5.store {w W:World} {gr cap i n:Nat} {ys:List RV} {g:List GR} {y:RV} {r:GR} {x:XV} {t:Tree} (hn:n=g.length) (h:D5 w W (.slice (some ⟨gr,0,none⟩) n cap) ys g) (hy:ys[i]?=some y) (hr:g[i]?=some r) (hE:ETQ W (fun b=>some b≠some gr) x t) :
  D5 w (set6 W gr (i*7+1) x) (.slice (some ⟨gr,0,none⟩) n cap) (ys.set i ⟨y.name,x⟩) (g.set i ⟨r.name,t⟩):=by
 subst hn
 have hk:zis W (set6 W gr (i*7+1) x) (fun b=>some b≠some gr) (fun b=>some b≠some gr):=⟨(zec _ _ _ _).size,fun b hp hl=>⟨(zec _ _ _ _).block b hl hp,hp⟩⟩
 refine ⟨?_,by simpa using h.len,fun q z u hz hu=>?_,h.bel.grown (zec _ _ _ _) h.bel.size (zcc h.row)⟩
 ·have h6:=zbe (zbe (zbe (zbe (zbe (zbe h.row (i*7+1) (.int .i64 x.kind)) (i*7+1+1) (.string x.text)) (i*7+1+2) x.ns) (i*7+1+3) (.int .i64 x.lo)) (i*7+1+4) (.int .i64 x.hi)) (i*7+1+5) x.ks
  rw [zm1 ys i y x hy] at h6
  rw [List.length_set]
  exact h6
 ·by_cases hq:q=i
  ·subst hq
   rw [List.getElem?_set_self (List.getElem?_eq_some_iff.1 hy).1] at hz
   rw [List.getElem?_set_self (List.getElem?_eq_some_iff.1 hr).1] at hu
   have e1:=Option.some.inj hz
   have e2:=Option.some.inj hu
   subst e1 e2
   obtain ⟨a,b,_⟩:=h.each q y r hy hr
   exact ⟨a,b,hE.kept hk⟩
  ·rw [List.getElem?_set_ne (Ne.symm hq)] at hz hu
   obtain ⟨a,b,c⟩:=h.each q z u hz hu
   exact ⟨a,b,c.kept hk⟩
theorem ETQ.merged {W w':World} {P:Nat->Prop} {base n:Nat} {v:Value} {vs1 vs2:List XV} {t1 t2:Tree} (hP:∀ b,base<=b->P b) (h1:vs1.length=(zbt t1).length) (h2:vs2.length=(zbt t2).length) (hk:zis W w' P P)
  (e1:∀ (i:Nat) (y:XV) (u:Tree),vs1[i]?=some y->(zbt t1)[i]?=some u->ETQ W P y u) (e2:∀ (i:Nat) (y:XV) (u:Tree),vs2[i]?=some y->(zbt t2)[i]?=some u->ETQ W P y u)
  (hown:w'.ownsRow base 27 6 v (vs1++vs2).length ((vs1++vs2).flatMap XV.cells)):ETQ w' P ⟨1,⟨#[]⟩,.slice none 0 0,0,0,v⟩ (zeg t1 t2):=by
 refine ETQ.mk (x:=[]) (nums:=[]) (vs1++vs2) (by simp) (by simp) (.inl ⟨rfl,_,_,rfl⟩) ?_ (by simp [h1,h2]) (fun i y u hy hu=>?_)
 ·have hl:(zbt t1++zbt t2).length=(vs1++vs2).length:=by simp [h1,h2]
  rw [hl]
  rcases zan hown with ⟨rfl,h0⟩ | ⟨g,cap,rfl⟩
  ·rw [h0]
   exact .inl ⟨rfl,_,_,rfl⟩
  ·obtain ⟨q1,q2,q3,q4⟩:=zb0 hown
   exact .inr ⟨g,0,cap,rfl,q2,q3,q4,hP g q1,fun j u hj=>by rw [Nat.zero_add];exact zaq hown hj⟩
 ·by_cases hi:i<vs1.length
  ·rw [List.getElem?_append_left hi] at hy
   rw [List.getElem?_append_left (by omega)] at hu
   exact (e1 i y u hy hu).kept hk
  ·rw [List.getElem?_append_right (by omega)] at hy
   rw [List.getElem?_append_right (by omega),<- h1] at hu
   exact (e2 _ y u hy hu).kept hk
end Go.Proofs.YtdgcmiecgnmdjaaGreatDoor
