/- Part 27 of what the laws of the grammar rest on. -/
import Derived.Test.YtekjnfldgjcgeaaGreatDoorA13
import Derived.Test.YtekjnfldgjcgeaaGreatDoorA14
import Derived.Test.YtekjnfldgjcgeaaGreatDoorA21
import Derived.Test.YtekjnfldgjcgeaaGreatDoorA24
import Derived.Test.YtekjnfldgjcgeaaGreatDoorA26
set_option linter.all false
set_option maxRecDepth 100000
set_option maxHeartbeats 8000000
namespace Go.Proofs.YtekjnfldgjcgeaaGreatDoor
open Go.RowKit Go.Shelf Go.Maps
attribute [local go_sem] Oper.semAt_some
structure RS (w W:World) (mp bR bM ms:Nat) (Dp:DataW Unit) (n:Nat) (v:Value) (out:List (List Int)):Prop where
 pl:W.ownsMap Tryz.prog 9 (plainElem Tryz.prog 3) mp n Dp
 box:Go.Boxed W bR 42 v
 row:W.ownsRow w.heap.size 9 1 v out.length (zbr out)
 bm:Go.Boxed W bM 67 (.map (some ms))
 set:∃ Ds:DataW Unit,W.ownsMap Tryz.prog 9 unitElem ms out.length Ds/\∀ x,zar x->Maps.has Ds (keyT x)=decide (x∈out)
 txt:∀ x∈out,zar x
 bel:Below w.heap.size w W
theorem zow {W w1:World} {n₀ B:Nat} {t e:TypeId} {size k m:Nat} {v v':Value} {xs ys:List Value} {tmp:Obj}
  (hv:Go.Boxed W B t v) (hte:t≠e) (hkt:¬ KT t) (hke:¬ KT e) (hrow:W.ownsRow n₀ e size v k xs) (hn₀:n₀<=B)
  (hown':w1.ownsRow n₀ e size v' m ys) (hgrow:(W.alloc tmp).grownBy w1 v.ownBlock) :
  Go.Boxed w1 B t v/\Go.Boxed (w1.setCell ⟨B,0,none⟩ v') B t v'/\(w1.setCell ⟨B,0,none⟩ v').ownsRow n₀ e size v' m ys/\KeepsOthers W (w1.setCell ⟨B,0,none⟩ v')/\zap (fun _=>False) W (w1.setCell ⟨B,0,none⟩ v')/\Below n₀ W (w1.setCell ⟨B,0,none⟩ v'):=by
 have hl:=hv.lt
 obtain ⟨hv1,hv2,hr2,hk2,hb2⟩:=hv.appended (n₀:=n₀) hte hrow (by omega) hn₀ hown' hgrow
 refine ⟨hv1,hv2,hr2,hk2,⟨hk2.size,fun b c t' z _ ht hb=>?_⟩,hb2⟩
 have hne:b≠B:=fun h=>by
  subst h
  have e:=Option.some.inj (hb.symm.trans hv)
  simp at e
  exact hkt (e.2.1 ▸ ht)
 have hlt:=(Array.getElem?_eq_some_iff.1 hb).1
 refine (Below.heap_setCell _ _ _ _ hne).trans ((hgrow.block b (by simp;omega) ?_).trans ((Below.heap_alloc _ _ _ hlt).trans hb))
 rcases hrow.2 with ⟨rfl,_⟩ | ⟨g,cap,cur,rfl,hg,hgb,_⟩
 ·simp [Value.ownBlock]
 ·intro h
  simp [Value.ownBlock] at h
  subst h
  have e:=Option.some.inj (hb.symm.trans hgb)
  simp at e
  exact hke (e.2.1 ▸ ht)
theorem RS.moved {w W W':World} {mp bR bM ms n:Nat} {Dp:DataW Unit} {v:Value} {out:List (List Int)} (h:RS w W mp bR bM ms Dp n v out) (hc:∀ (b:Nat) (c:Array Value) (t:TypeId) (z:Nat × Nat),W.heap[b]?=some (.cells c t z)->W'.heap[b]?=some (.cells c t z))
  (h1:W'.heap[mp]?=W.heap[mp]?) (h2:W'.heap[ms]?=W.heap[ms]?) (hb:Below w.heap.size W W'):RS w W' mp bR bM ms Dp n v out:=by
 obtain ⟨Ds,hD,hS⟩:=h.set
 exact ⟨zch h.pl h1,hc _ _ _ _ h.box,zd6 h.row (fun b hb=>by
  obtain ⟨cur,hcur⟩:=zbk h.row hb
  exact (hc b _ _ _ hcur).trans hcur.symm),hc _ _ _ _ h.bm,⟨Ds,zch hD h2,hS⟩,h.txt,h.bel.trans hb⟩
theorem RS.under {w W W':World} {mp bR bM ms n:Nat} {Dp:DataW Unit} {v:Value} {out:List (List Int)} (h:RS w W mp bR bM ms Dp n v out) (hb:Below W.heap.size W W'):RS w W' mp bR bM ms Dp n v out:=by
 obtain ⟨Ds,hD,hS⟩:=h.set
 exact h.moved (fun b c t z hc=>(hb.block b (Array.getElem?_eq_some_iff.1 hc).1).trans hc) (hb.block _ h.pl.lt) (hb.block _ hD.lt) (hb.mono h.bel.size)
theorem RS.ne {w W:World} {mp bR bM ms n:Nat} {Dp:DataW Unit} {v:Value} {out:List (List Int)} (h:RS w W mp bR bM ms Dp n v out):bR≠bM/\bR≠mp/\bR≠ms/\bM≠mp/\bM≠ms:=by
 obtain ⟨Ds,⟨_,_,hD,_⟩,hS⟩:=h.set
 obtain ⟨_,_,hP,_⟩:=h.pl
 have b1:=h.box
 have b2:=h.bm
 unfold Go.Boxed at b1 b2
 refine ⟨fun e=>?_,fun e=>?_,fun e=>?_,fun e=>?_,fun e=>?_⟩
 ·subst e
  rw [b1] at b2
  have e:=Option.some.inj b2
  simp at e
 ·subst e;rw [b1] at hP;cases hP
 ·subst e;rw [b1] at hD;cases hD
 ·subst e;rw [b2] at hP;cases hP
 ·subst e;rw [b2] at hD;cases hD
theorem RS.added {w W Wa w1 w2:World} {mp bR bM ms n:Nat} {Dp Ds:DataW Unit} {v v':Value} {out:List (List Int)} {x:List Int} {tmp:Obj} (h:RS w W mp bR bM ms Dp n v out) (hba:Below W.heap.size W Wa) (hpm:mp≠ms) (hR:w.heap.size<=bR) (hms:w.heap.size<=ms) (hx:zar x) (hno:x ∉ out)
  (hDs:W.ownsMap Tryz.prog 9 unitElem ms out.length Ds/\∀ x,zar x->Maps.has Ds (keyT x)=decide (x∈out)) (hm1:w1.ownsMap Tryz.prog 9 unitElem ms (out.length+1) (Ds.put (keyT x) (.agg []))) (hg1:Wa.grownBy w1 (some ms))
  (hown:w2.ownsRow w.heap.size 9 1 v' (out.length+1) (zbr out++[.string (za3 x)])) (hgrow:(w1.alloc tmp).grownBy w2 v.ownBlock) :
  RS w (w2.setCell ⟨bR,0,none⟩ v') mp bR bM ms Dp n v' (out++[x])/\zap (fun _=>False) W (w2.setCell ⟨bR,0,none⟩ v')/\W.heap.size<=(w2.setCell ⟨bR,0,none⟩ v').heap.size/\∀ (q:Nat) (o:Obj),q≠ms->W.heap[q]?=some o->o.isCells=false->(w2.setCell ⟨bR,0,none⟩ v').heap[q]?=some o:=by
 have ha:=h.under hba
 obtain ⟨n1,n2,n3,n4,n5⟩:=ha.ne
 have hlm:ms<Wa.heap.size:=by
  have:=hDs.1.lt
  have:=hba.size
  omega
 have hc1:∀ (b:Nat) (c:Array Value) (t:TypeId) (z:Nat × Nat),Wa.heap[b]?=some (.cells c t z)->w1.heap[b]?=some (.cells c t z):=fun b c t z hb =>
  (hg1.block b (Array.getElem?_eq_some_iff.1 hb).1 (fun e=>by
   have e:=Option.some.inj e
   subst e
   obtain ⟨_,_,hD,_⟩:=zch hDs.1 (hba.block _ hDs.1.lt)
   rw [hD] at hb
   cases hb)).trans hb
 have hw1:Below w.heap.size Wa w1:=⟨hg1.os,hg1.tape,hg1.output,by have:=hg1.size;have:=ha.bel.size;omega,fun q hq=>hg1.block q (by have:=ha.bel.size;omega) (fun e=>by have:=Option.some.inj e;omega)⟩
 have hbox1:Go.Boxed w1 bR 42 v:=hc1 _ _ _ _ ha.box
 have hrow1:w1.ownsRow w.heap.size 9 1 v out.length (zbr out):=zd6 ha.row (fun b hb=>by
  obtain ⟨cur,hcur⟩:=zbk ha.row hb
  exact (hc1 b _ _ _ hcur).trans hcur.symm)
 obtain ⟨_,hv2,hr2,hk2,hx2,hb2⟩:=zow (n₀:=w.heap.size) hbox1 (by decide) (by unfold KT;decide) (by unfold KT;decide) hrow1 hR hown hgrow
 have hmap:∀ b,b<w1.heap.size->(∀ c t z,w1.heap[b]?≠some (.cells c t z))->(w2.setCell ⟨bR,0,none⟩ v').heap[b]?=w1.heap[b]?:=fun b hb hnc=>by
  cases ho:w1.heap[b]? with
  | none=>have:=Array.getElem?_eq_none_iff.1 ho;omega
  | some o =>
   refine hk2.same b o ho ?_
   cases o<;>first | rfl | exact absurd ho (hnc _ _ _)
 have hp1:w1.ownsMap Tryz.prog 9 (plainElem Tryz.prog 3) mp n Dp:=zch ha.pl (hg1.block _ ha.pl.lt (fun e=>hpm (Option.some.inj e)))
 have hset:(w2.setCell ⟨bR,0,none⟩ v').ownsMap Tryz.prog 9 unitElem ms (out++[x]).length (Ds.put (keyT x) (.agg [])):=by
  rw [List.length_append]
  refine zch hm1 (hmap ms hm1.lt (fun c t z e=>?_))
  obtain ⟨_,_,hD,_⟩:=hm1
  rw [hD] at e
  cases e
 refine ⟨⟨zch hp1 (hmap mp hp1.lt (fun c t z e=>?_)),hv2,by simpa [zbr] using hr2,?_,⟨Ds.put (keyT x) (.agg []),hset,fun y hy=>?_⟩,fun y hy=>?_,(ha.bel.trans hw1).trans hb2⟩,?_,Nat.le_trans hba.size (Nat.le_trans hg1.size hk2.size),fun q o hq ho hoc=>?_⟩
 ·obtain ⟨_,_,hD,_⟩:=hp1
  rw [hD] at e
  cases e
 ·have hbm1:=hc1 _ _ _ _ ha.bm
  have hne:v.ownBlock≠some bM:=fun e=>by
   have:=zdr hrow1 e hbm1
   revert this
   decide
  exact (Below.heap_setCell _ _ _ _ (Ne.symm n1)).trans ((hgrow.block bM (by simp;have:=(Array.getElem?_eq_some_iff.1 hbm1).1;omega) (fun e=>hne e.symm)).trans ((Below.heap_alloc _ _ _ (Array.getElem?_eq_some_iff.1 hbm1).1).trans hbm1))
 ·by_cases e:y=x
  ·subst e
   rw [Maps.has_put_same hDs.1.isMap (zn6 _)]
   simp
  ·rw [Maps.has_put_other (fun h2=>e (zj0 hy hx h2)),hDs.2 y hy]
   simp [e]
 ·rcases List.mem_append.1 hy with hy | hy
  ·exact h.txt y hy
  ·simp at hy
   subst hy
   exact hx
 ·exact ((zap.below hba).trans ⟨hg1.size,fun b c t z _ _ hb=>hc1 b c t z hb⟩).trans hx2
 ·have e1:=(hba.block q (Array.getElem?_eq_some_iff.1 ho).1).trans ho
  have e2:=(hg1.block q (Array.getElem?_eq_some_iff.1 e1).1 (fun e=>hq (Option.some.inj e))).trans e1
  exact hk2.same q o e2 hoc
theorem RS.upd {w W w1:World} {mp bR bM ms n:Nat} {Dp:DataW Unit} {v:Value} {out:List (List Int)} (ha:RS w W mp bR bM ms Dp n v out) (hg1:W.grownBy w1 (some ms)):Go.Boxed w1 bR 42 v/\w1.ownsRow w.heap.size 9 1 v out.length (zbr out)/\w.heap.size<=w1.heap.size:=by
 obtain ⟨Ds,hD,_⟩:=ha.set
 have hc1:∀ (b:Nat) (c:Array Value) (t:TypeId) (z:Nat × Nat),W.heap[b]?=some (.cells c t z)->w1.heap[b]?=some (.cells c t z):=fun b c t z hb =>
  (hg1.block b (Array.getElem?_eq_some_iff.1 hb).1 (fun e=>by
   have e:=Option.some.inj e
   subst e
   obtain ⟨_,_,hD,_⟩:=hD
   rw [hD] at hb
   cases hb)).trans hb
 exact ⟨hc1 _ _ _ _ ha.box,zd6 ha.row (fun b hb=>by
  obtain ⟨cur,hcur⟩:=zbk ha.row hb
  exact (hc1 b _ _ _ hcur).trans hcur.symm),by have:=hg1.size;have:=ha.bel.size;omega⟩
theorem qdk {w:World} {mp bR bM ms n B:Nat} {Dp:DataW Unit} {out0:List (List Int)} (h1:mp<B) (h2:ms<B) (hB:w.heap.size<=B):OwnFrom B (fun (pre:List NX) W=>∃ v,RS w W mp bR bM ms Dp n v (addU out0 (NX.vals pre))):=by
 intro pre W W' row ⟨v,h⟩ hg hr
 refine ⟨v,h.moved (fun b c t z hc=>(hg.block b (Array.getElem?_eq_some_iff.1 hc).1 (fun e=>?_)).trans hc) (hg.block mp h.pl.lt (fun e=>by have:=(hr mp e.symm).1;omega)) (hg.block ms (by obtain ⟨_,hD,_⟩:=h.set;exact hD.lt) (fun e=>by have:=(hr ms e.symm).1;omega)) ⟨hg.os,hg.tape,hg.output,by have:=h.bel.size;have:=hg.size;omega,fun k hk=>hg.block k (by have:=h.bel.size;omega) (fun e=>by have:=(hr k e.symm).1;omega)⟩⟩
 obtain ⟨_,o,ho,hoc⟩:=hr b e.symm
 rw [hc] at ho
 have:=Option.some.inj ho
 subst this
 cases hoc
theorem zwq (out xs:List (List Int)) (x:List Int):addU out (xs++[x])=if x∈addU out xs then addU out xs else addU out xs++[x]:=by
 rw [zkd]
 rfl
theorem zrx:∀ (xs out:List (List Int)),(addU out xs).length<=out.length+xs.length
 | [],out=>by simp [addU]
 | x::xs,out=>by
  have h:=zrx xs (if x∈out then out else out++[x])
  have h2:(if x∈out then out else out++[x]).length<=out.length+1:=by split<;>simp
  show (addU (if x∈out then out else out++[x]) xs).length<=_
  simp only [List.length_cons]
  omega
theorem Reaches.at {g:List GR} {n i:Nat} {x:List Int} {out R:List (List Int)} (h:Reaches g n i out R) (hx:out[i]?=some x):∃ n',n=n'+1/\Reaches g n' (i+1) (addU out (zgn g x)) R:=by
 cases h with
 | done h=>have:=(List.getElem?_eq_some_iff.1 hx).1;omega
 | step h1 h2 =>
  rw [hx] at h1
  have e:=Option.some.inj h1
  subst e
  exact ⟨_,rfl,h2⟩
def zm4 (g:List GR) (x:List Int) (w:World) (e:Ending) (w':World):Prop :=
 ∃ (v:Value) (R:List (List Int)),e=.returned v/\zg4 g x R/\w'.ownsRow w.heap.size 9 1 v R.length (zbr R)/\(∀ y∈R,zar y)/\Below w.heap.size w w'
theorem zzt {x:List Int} {S:ByteArray} (hx:zar x) (hS:S=za3 x):keyOf Tryz.prog 9 (.string S)=some (keyT x):=by
 subst hS
 exact zgd hx
theorem RS.start {w w1 w2:World} {Dp:DataW Unit} {x:List Int} {S:ByteArray} {n:Nat} (hx:zar x) (hS:S=za3 x) (hDp:w1.ownsMap Tryz.prog 9 (plainElem Tryz.prog 3) w.heap.size n Dp) (hb1:Below w.heap.size w w1)
  (hD2:w2.ownsMap Tryz.prog 9 unitElem (w1.heap.size+1+1) (0+1) ((DataW.map []:DataW Unit).put (keyT x) (.agg []))) (hg2:(((w1.alloc (.cells #[.string S] 9)).alloc (.cells #[.slice (some ⟨w1.heap.size,0,none⟩) 1 1] 42)).alloc (.map #[] 0)).grownBy w2 (some (w1.heap.size+1+1))) :
  RS w (w2.alloc (.cells #[.map (some (w1.heap.size+1+1))] 67)) w.heap.size (w1.heap.size+1) w2.heap.size (w1.heap.size+1+1) Dp n (.slice (some ⟨w1.heap.size,0,none⟩) 1 1) [x]:=by
 subst hS
 have hs3:(((w1.alloc (.cells #[.string (za3 x)] 9)).alloc (.cells #[.slice (some ⟨w1.heap.size,0,none⟩) 1 1] 42)).alloc (.map #[] 0)).heap.size=w1.heap.size+3:=by simp
 have hs2:=hg2.size
 rw [hs3] at hs2
 have hw1:=hb1.size
 have hb3:Below w1.heap.size w1 (((w1.alloc (.cells #[.string (za3 x)] 9)).alloc (.cells #[.slice (some ⟨w1.heap.size,0,none⟩) 1 1] 42)).alloc (.map #[] 0)):=(((Below.refl _ _).alloc (Nat.le_refl _) _).alloc (by simp) _).alloc (by simp;omega) _
 have keep:∀ b,b<w1.heap.size+3->b≠w1.heap.size+1+1->(w2.alloc (.cells #[.map (some (w1.heap.size+1+1))] 67)).heap[b]?=(((w1.alloc (.cells #[.string (za3 x)] 9)).alloc (.cells #[.slice (some ⟨w1.heap.size,0,none⟩) 1 1] 42)).alloc (.map #[] 0)).heap[b]?:=fun b hb hne =>
  (Below.heap_alloc _ _ _ (by omega)).trans (hg2.block b (by rw [hs3];exact hb) (fun e=>hne (Option.some.inj e)))
 have bS:(((w1.alloc (.cells #[.string (za3 x)] 9)).alloc (.cells #[.slice (some ⟨w1.heap.size,0,none⟩) 1 1] 42)).alloc (.map #[] 0)).heap[w1.heap.size]?=some (.cells #[.string (za3 x)] 9 (0,0)):=zfv _ _ (zfv _ _ (heap_alloc_new w1 _))
 have bB:=(Boxed.new (w1.alloc (.cells #[.string (za3 x)] 9)) 42 (.slice (some ⟨w1.heap.size,0,none⟩) 1 1)).alloc (.map #[] 0)
 rw [World.size_alloc] at bB
 have hmap2:=zch hD2 (W':=w2.alloc (.cells #[.map (some (w1.heap.size+1+1))] 67)) (Below.heap_alloc _ _ _ hD2.lt)
 refine ⟨zch hDp ((keep _ (by have:=hDp.lt;omega) (by have:=hDp.lt;omega)).trans (hb3.block _ hDp.lt)),(keep _ (by omega) (by omega)).trans bB,?_,Boxed.new w2 _ _,⟨_,hmap2,fun y hy=>?_⟩,fun y hy=>?_,?_⟩
 ·exact zcx (row_of_block (size:=1) (n:=1) (Nat.le_refl _) ((keep _ (by omega) (by omega)).trans bS) (by unfold maxLen;omega) rfl) hw1
 ·by_cases e:y=x
  ·subst e
   rw [Maps.has_put_same ⟨[],rfl⟩ (zn6 _)]
   simp
  ·rw [Maps.has_put_other (fun h2=>e (zj0 hy hx h2))]
   simp [e]
   rfl
 ·simp at hy
  subst hy
  exact hx
 ·have h4:Below w.heap.size (((w1.alloc (.cells #[.string (za3 x)] 9)).alloc (.cells #[.slice (some ⟨w1.heap.size,0,none⟩) 1 1] 42)).alloc (.map #[] 0)) w2:=⟨hg2.os,hg2.tape,hg2.output,by rw [hs3] at *;omega,fun q hq=>hg2.block q (by rw [hs3];omega) (fun e=>by have:=Option.some.inj e;omega)⟩
  exact ((hb1.trans (hb3.mono hw1)).trans h4).alloc (by omega) _
theorem zry (w:World):(zeroValue 66).run Tryz.prog w=.ok (.agg #[]) w:=by kernel_rfl
theorem zzu {w:World} {v:Value} {ys:List RV} {g:List GR} {x:List Int} (h:zd0 w v ys g) (hx:zar x) (hg6:g.length<=1000000) (hsm:∀ r∈g,dep r.expr<=9000/\(zai r.expr).length<=1000000) (hun:(zbo g).length<=1000000) :
  CallsIn Fence.wide 6 Tryz.prog 11 #[v,.string (za3 x)] w (zm4 g x w):=by
 have hto:∀ r∈g,zar r.name:=fun r hr=>by
  obtain ⟨i,hi⟩:=List.getElem?_of_mem hr
  have hl:=(List.getElem?_eq_some_iff.1 hi).1
  exact (h.2.2 i (ys[i]'(by rw [h.2.1];exact hl)) r (List.getElem?_eq_getElem _) hi).2.1
 have HPL:=hh9 (zth h.rules hg6 hto)
 obtain ⟨a,n,c,rfl,hn⟩:∃ a n c,v=.slice a n c/\n=g.length:=by
  obtain ⟨a,c,h,_⟩:=h.1.slice
  exact ⟨a,_,c,h,rfl⟩
 have HH:=hh9 h
 have HN:=hh9 hn
 have HX:=hh9 hx
 have HSM:=hh9 hsm
 have HUN:=hh9 hun
 have hn6:n<=1000000:=by omega
 obtain ⟨S,hS⟩:∃ S,S=za3 x:=⟨_,rfl⟩
 have HS:=hh9 hS
 have HLK:=hh9 (fun (W:World) (D:DataW Unit) (hD:W.ownsMap Tryz.prog 9 (plainElem Tryz.prog 3) w.heap.size g.length D) (hMG:MapG D g)=>zhg hD hMG hx hS)
 rw [<- hS]
 clear h hn hx hsm hto hun hS hg6
 have hmk:∀ u:World,(Instr.makeMap 67 none).run Tryz.prog u=.ok (.map (some u.heap.size)) (u.alloc (.map #[] 0)):=fun u=>run_makeMap _ u
 have hkey:=zzt HX.out HS.out
 cases hf:zay g x with
 | none =>
  rw [hf] at HLK
  have HF:=hh9 hf
  refine callsIn_of_wp_marks Tryz.func11 rfl trivial ?_ rfl
  simp only [Tryz.ntmps11,List.size_toArray,List.length_cons,List.length_nil,Nat.reduceAdd,Nat.reduceSub,Array.replicate_succ,Array.replicate_zero,List.push_toArray,List.append_toArray,List.nil_append,List.cons_append]
  gi_wp2_with (refine ⟨trivial,?_⟩;gi_at_call 26;refine (callsIn_wide.2 HPL.out).mono ?_;rintro e w1 ⟨Dp,rfl,hDp,hMG,hb1⟩;have HB1:=hh9 hb1;obtain ⟨c1,hrun,hc1⟩:=HLK.out w1 Dp hDp hMG;change _=Result.ok (Value.tuple #[.int .i64 c1,.bool false]) _ at hrun;clear hDp hMG hb1)
  exact ⟨_,results_tmp rfl _ _ _,_,[],rfl,.inl ⟨HF.out,rfl⟩,World.ownsRow_nil _ _ _ _,(fun y hy=>by cases hy),HB1.out⟩
 | some j0 =>
  rw [hf] at HLK
  have HF:=hh9 (show zay g x≠none by rw [hf];simp)
  clear hf
  refine callsIn_of_wp_marks Tryz.func11 rfl trivial ?_ rfl
  simp only [Tryz.ntmps11,List.size_toArray,List.length_cons,List.length_nil,Nat.reduceAdd,Nat.reduceSub,Array.replicate_succ,Array.replicate_zero,List.push_toArray,List.append_toArray,List.nil_append,List.cons_append]
  gi_wp2
  refine ⟨trivial,?_⟩
  gi_at_call 26
  refine (callsIn_wide.2 HPL.out).mono ?_
  rintro e w1 ⟨Dp,rfl,hDp,hMG,hb1⟩
  obtain ⟨c1,hrun,hc1⟩:=HLK.out w1 Dp hDp hMG
  change _=Result.ok (Value.tuple #[.int .i64 c1,.bool true]) _ at hrun
  obtain ⟨w2,hrun2,hD2,hg2⟩:=(World.ownsMap_made (H:=Unit) ((w1.alloc (.cells #[.string S] 9)).alloc (.cells #[.slice (some ⟨w1.heap.size,0,none⟩) 1 1] 42)) Tryz.prog 9 unitElem).update zfx Tryz.underlying67 (by unfold maxLen;omega) hkey unitElem_mk
  have hsz2:((w1.alloc (.cells #[.string S] 9)).alloc (.cells #[.slice (some ⟨w1.heap.size,0,none⟩) 1 1] 42)).heap.size=w1.heap.size+1+1:=by simp
  rw [hsz2] at hrun2 hD2 hg2
  have HST:=hh9 (RS.start (n:=g.length) HX.out HS.out hDp hb1 hD2 hg2)
  have HMG:=hh9 hMG
  have HB1:=hh9 hb1
  have HG2:=hh9 hg2
  have HD2:=hh9 hD2
  clear hDp hMG hb1 hD2 hg2 hsz2
  gi_wp2
  obtain ⟨nt,Rr,hRe⟩:=Reaches.is g ([x].length+zir (zbo g) [x]) 0 [x] (by omega)
  have HRE:=hh9 hRe
  have hlk:[x].length+zir (zbo g) [x]<=1000001:=by
   have h1:=List.length_filter_le (fun y=>decide (y ∉ [x])) (zbo g)
   have h2:=HUN.out
   unfold zir
   simp only [List.length_cons,List.length_nil]
   omega
  have hwb:=HB1.out.size
  have hg2s:=HG2.out.size
  have hs3:(((w1.alloc (.cells #[.string S] 9)).alloc (.cells #[.slice (some ⟨w1.heap.size,0,none⟩) 1 1] 42)).alloc (.map #[] 0)).heap.size=w1.heap.size+3:=by simp
  rw [hs3] at hg2s
  have hmpl:w.heap.size<w1.heap.size:=by
   have h:=HST.out.pl.lt
   have h2:=HST.out.ne
   rcases Nat.lt_or_ge w.heap.size w1.heap.size with h3 | h3
   ·exact h3
   ·have h4:w1.heap.size=w.heap.size:=by omega
    exfalso
    obtain ⟨_,_,hP,_⟩:=HST.out.pl
    obtain ⟨cur,hcur⟩:=zbk HST.out.row (b:=w1.heap.size) rfl
    rw [<- h4] at hP
    rw [hP] at hcur
    cases hcur
  clear hRe hs3
  refine wpIn_loop (fun a' wr=>∃ (u10 u11 u12 u32 u33 u34 u35 u36 u37 u38 u39 u40 u41 u42 u43 u44 u45 u46 u47 u48 u49 u50 u51 u52 u53 u54:Value) (Ds:List Nat) (i nl:Nat) (vo:Value) (out:List (List Int)),(u10=.int .i64 i/\nl+i=nt/\i<=1000001/\Hid (Reaches g nl i out Rr)/\out.length+zir (zbo g) out<=1000001/\Hid (RS w wr w.heap.size (w1.heap.size+1) w2.heap.size (w1.heap.size+1+1) Dp g.length vo out)/\Hid (zbd w.heap.size Ds wr)) /\
   a'={ tmps:=#[.slice a n c,.string S,undef,undef,.slice none 0 0,.map (some w.heap.size),.int .i64 j0,.bool true,.pointer (some ⟨w1.heap.size+1,0,none⟩),.pointer (some ⟨w2.heap.size,0,none⟩),u10,u11,u12,undef,undef,undef,.slice a n c,.map (some w.heap.size),.tuple #[.int .i64 j0,.bool true],.map (some w.heap.size),.string S,.tuple #[.int .i64 j0,.bool true],.int .i64 j0,.bool true,.bool true,.bool false,.string S,.slice (some ⟨w1.heap.size,0,none⟩) 1 1,.map (some (w1.heap.size+1+1)),.string S,.agg #[],.map (some (w1.heap.size+1+1)),
    u32,u33,u34,u35,u36,u37,u38,u39,u40,u41,u42,u43,u44,u45,u46,u47,u48,u49,u50,u51,u52,u53,u54,undef,undef,undef,undef,undef,undef,undef,undef,undef,undef,undef,undef,undef,undef,undef,undef,undef],defers:=zn4 Ds }) (fun a' _=>nt-(intOf (a'.tmps.getD 10 undef)).toNat) ?_ ?_
  ·exact ⟨.int .i64 0,undef,undef,undef,undef,undef,undef,undef,undef,undef,undef,undef,undef,undef,undef,undef,undef,undef,undef,undef,undef,undef,undef,undef,undef,undef,[],0,nt,_,[x],⟨rfl,by omega,by omega,HRE,hlk,HST,zbd.nil _ _⟩,rfl⟩
  ·rintro a' wr ⟨u10,u11,u12,u32,u33,u34,u35,u36,u37,u38,u39,u40,u41,u42,u43,u44,u45,u46,u47,u48,u49,u50,u51,u52,u53,u54,Ds,i,nl,vo,out,⟨rfl,hnl,hi6,HRX,hbd,HRS,HM⟩,rfl⟩
   have p1:=HRS.out.box.cell
   have p2:=HRS.out.bm.cell
   by_cases hlt:i<out.length
   ·have q1:decide ((i:Int)<(out.length:Int))=true:=decide_eq_true (by omega)
    obtain ⟨y,hy⟩:∃ y,out[i]?=some y:=⟨_,List.getElem?_eq_getElem hlt⟩
    have hyt:=HRS.out.txt y (List.mem_of_getElem? hy)
    obtain ⟨go,capo,rfl⟩:∃ g cap,vo=.slice (some ⟨g,0,none⟩) out.length cap:=by
     rcases zan HRS.out.row with ⟨_,h0⟩ | ⟨g1,cap1,h1⟩
     ·omega
     ·exact ⟨_,_,h1⟩
    have hcy:wr.cell? ⟨go,i,none⟩=some (.string (za3 y)):=zaq HRS.out.row (by unfold zbr;rw [List.getElem?_map,hy];rfl)
    obtain ⟨c2,hrun2,hc2⟩:=zhg HRS.out.pl HMG.out hyt rfl
    obtain ⟨n',rfl,hRE'⟩:=HRX.out.at hy
    have HRE2:=hh9 hRE'
    obtain ⟨SY,hSY⟩:∃ SY,SY=za3 y:=⟨_,rfl⟩
    rw [<- hSY] at hcy hrun2
    have HSY:=hh9 hSY
    clear hRE' hSY
    cases hfy:zay g y with
    | none =>
     rw [hfy] at hrun2
     change _=Result.ok (Value.tuple #[.int .i64 c2,.bool false]) _ at hrun2
     have hne:zgn g y=[]:=by unfold zgn;rw [hfy]
     rw [hne] at HRE2
     change Hid (Reaches g n' (i+1) out Rr) at HRE2
     clear hc2
     gi_wp2
     refine ⟨⟨_,_,_,_,_,_,_,_,_,_,_,_,_,_,_,_,_,_,_,_,_,_,_,_,_,_,Ds,i+1,n',_,out,⟨by go_num,by omega,by omega,HRE2,hbd,HRS,HM⟩,rfl⟩,?_⟩
     simp [intOf]
     omega
    | some p =>
     obtain rfl:=hc2 p hfy
     rw [hfy] at hrun2
     change _=Result.ok (Value.tuple #[.int .i64 (p:Int),.bool true]) _ at hrun2
     obtain ⟨⟨r,hr,hrn⟩,_⟩:=zbv.1 hfy
     have hpl:=zmg hfy
     have hne:zgn g y=zai r.expr:=by unfold zgn;rw [hfy];simp only [hr]
     rw [hne] at HRE2
     obtain ⟨Y,hY⟩:∃ Y,ys[p]?=some Y:=⟨_,List.getElem?_eq_getElem (by rw [HH.out.2.1];exact hpl)⟩
     have hE:=(HH.out.2.2 p Y r hY hr).2.2.kept (M:=fun _=>False) (P':=fun _=>True) (zap.below HRS.out.bel) (fun b _ _=>⟨id,trivial⟩)
     have hsm:=HSM.out r (List.mem_of_getElem? hr)
     obtain ⟨gb,off,ha,hb3,hcs⟩:∃ b off,a=some ⟨b,off,none⟩/\b<w.heap.size/\∀ (j:Nat) (u:Value),(ys.flatMap RV.cells)[j]?=some u->w.cell? ⟨b,off+j,none⟩=some u:=by
      rcases HH.out.1 with ⟨h0,_⟩ | ⟨b,off,cap,h1,_,_,h3,h4⟩
      ·omega
      ·injection h1 with h1
       exact ⟨b,off,h1,h3,h4⟩
     subst ha
     have CX:∀ (j:Nat) (u:Value),j<7->Y.cells[j]?=some u->wr.cell? ⟨gb,off+(p*7+j),none⟩=some u:=fun j u hj hu =>
      (HRS.out.bel.cell (p:=⟨gb,off+(p*7+j),none⟩) hb3).trans (hcs _ u ((zct ys p j Y hY hj).trans hu))
     obtain ⟨nm,⟨k,tx,nv,lo,hi,kv⟩⟩:=Y
     obtain ⟨⟨na,nn,nc,hns⟩,ka,kn,kc,hks⟩:=hE.slices
     simp only [] at hns hks
     subst hns hks
     have e1:=CX 1 _ (by omega) rfl
     have e2:=CX 2 _ (by omega) rfl
     have e3:=CX 3 _ (by omega) rfl
     have e4:=CX 4 _ (by omega) rfl
     have e5:=CX 5 _ (by omega) rfl
     have e6:=CX 6 _ (by omega) rfl
     rw [<- Nat.add_assoc] at e1 e2 e3 e4 e5 e6
     simp only [] at e1 e2 e3 e4 e5 e6
     have hpn:p<n:=by have:=HN.out;omega
     have q2:decide ((p:Int)<(n:Int))=true:=decide_eq_true (by omega)
     have HX3:=hh9 (fun W=>zjr (w:=W) ⟨k,tx,.slice na nn nc,lo,hi,.slice ka kn kc⟩ rfl rfl)
     have hba:Below wr.heap.size wr (wr.alloc (xobj k lo hi tx (.slice na nn nc) (.slice ka kn kc))):=(Below.refl _ _).alloc (Nat.le_refl _) _
     have bX:BoxX (wr.alloc (xobj k lo hi tx (.slice na nn nc) (.slice ka kn kc))) wr.heap.size ⟨k,tx,.slice na nn nc,lo,hi,.slice ka kn kc⟩:=heap_alloc_new wr (xobj k lo hi tx (.slice na nn nc) (.slice ka kn kc))
     have hstop:=zfw (Bs:=wr.heap.size) (M:=fun _=>False) (P:=fun _=>True) (fun _ h=>h.elim) (fun _ _ h=>h) (fun h=>h) (hE.kept (P':=fun _=>True) (zap.below (M:=fun _=>False) hba) (fun b hb _=>⟨fun h=>h,trivial⟩)) bX (by omega)
     obtain ⟨NM,hNM⟩:∃ NM,NM=zai r.expr:=⟨_,rfl⟩
     have hnl6:=hsm.2
     rw [<- hNM] at hstop hnl6 HRE2 hne
     have HST2:=hh9 hstop
     have HNE:=hh9 hne
     have HBA:=hh9 hba
     have hwr:=HRS.out.bel.size
     obtain ⟨Ds0,hDs0,_⟩:=HRS.out.set
     have hmsl:=hDs0.lt
     have hmpl2:=HRS.out.pl.lt
     unfold xobj at HX3 HST2 HBA
     clear CX hcs bX hE hba hY hr hstop hNM hne hDs0 hsm hfy hc2
     gi_wp2_with (refine ⟨trivial,?_⟩;gi_at_call 27;refine (callsIn_wide.2 (HX3.out _)).mono ?_;rintro e w' ⟨rfl,rfl⟩)
     refine wpIn_rangeFunc_ownG rfl (by omega) (gf:=46) (lb:=#[.pointer (some ⟨wr.heap.size,0,none⟩)]) rfl trivial (enters_of Tryz.func46 (by kernel_rfl) rfl)
      HST2.out zmq (fun W l o o' _ h ho _=>zap.put W l o o' h ho) (Below.refl _ _) (fun _=>rfl)
      (fun pre W=>(∃ v,RS w W w.heap.size (w1.heap.size+1) w2.heap.size (w1.heap.size+1+1) Dp g.length v (addU out (NX.vals pre)))/\zbd w.heap.size Ds W)
      (fun _ _ _=>False)
      (OwnFrom.and (qdk (by simp;omega) (by simp;omega) (by have:=HBA.out.size;omega)) (zbd.own (fun D hD=>by have:=HM.out.lt hD;simp;omega)))
      (fun _ _ _ _ _ hs _ _=>hs)
      ⟨⟨_,HRS.out.under HBA.out⟩,HM.out.below HBA.out⟩
      ?a1 ?assign ?body ?done ?stop
     case assign =>
      intro l x W K hK
      gi_wp2
      exact hK
     case body =>
      rintro l pre ⟨x2,hx2⟩ W ⟨⟨v2,hRS2⟩,hM2⟩ hlt2
      have b1:=hRS2.box.cell
      have b2:=hRS2.bm.cell
      obtain ⟨Ds2,hD2,hS2⟩:=hRS2.set
      have hkey2:=zgd hx2
      have hRSH:=hh9 hRS2
      have hMH:=hh9 hM2
      have hlen2:=zrx (NX.vals pre) out
      have hpre:(NX.vals pre).length=pre.length:=by simp [NX.vals]
      obtain ⟨out2,hout2⟩:∃ o,o=addU out (NX.vals pre):=⟨_,rfl⟩
      have hsn:addU out (NX.vals (pre++[(⟨x2,hx2⟩:NX)]))=if x2∈out2 then out2 else out2++[x2]:=by
       rw [zoj,zwq,hout2]
      have HSN:=hh9 hsn
      have hge:0<out2.length:=by
       obtain ⟨t,ht,_⟩:=zhe (NX.vals pre) out
       rw [hout2,ht,List.length_append]
       omega
      rw [<- hout2] at hD2 hS2 hRSH hlen2
      have HO2:=hh9 hout2
      obtain ⟨SX,hSX⟩:∃ SX,SX=za3 x2:=⟨_,rfl⟩
      have HSX:=hh9 hSX
      have HD2:=hh9 hD2
      have HS2:=hh9 hS2
      clear hRS2 hM2 hsn hout2
      by_cases hmem:x2∈out2
      ·have hs:Maps.has Ds2 (keyT x2)=true:=by rw [hS2 x2 hx2];exact decide_eq_true hmem
       clear hS2 hSX
       gi_wp2_with (gi_at_lookup;refine wpListIn_lookup_own_unit _ rfl _ _ 67 rfl 9 66 zfx Tryz.underlying67 (zry _) (w1.heap.size+1+1) out2.length Ds2 rfl hD2 _ _ rfl hkey2 ?_;rw [hs])
       have hb:Below W.heap.size W (W.alloc (.cells #[] 66)):=(Below.refl _ _).alloc (Nat.le_refl _) _
       refine ⟨zep hb,zap.below hb,⟨v2,?_⟩,hMH.out.below hb⟩
       rw [HSN.out,if_pos hmem]
       exact hRSH.out.under hb
      ·have hs:Maps.has Ds2 (keyT x2)=false:=by rw [hS2 x2 hx2];exact decide_eq_false hmem
       obtain ⟨g2,cap2,rfl⟩:∃ g cap,v2=.slice (some ⟨g,0,none⟩) out2.length cap:=by
        rcases zan hRSH.out.row with ⟨_,h0⟩ | ⟨g1,cap1,h1⟩
        ·omega
        ·exact ⟨_,_,h1⟩
       obtain ⟨i0,hi0,hz0,hz1,hz2⟩:=info_parts zhu
       have hb:Below W.heap.size W (W.alloc (.cells #[] 66)):=(Below.refl _ _).alloc (Nat.le_refl _) _
       have HBB:=hh9 hb
       have hD3:=zch hD2 (hb.block _ hD2.lt)
       have b3:=zbi b1 (.cells #[] 66)
       have b4:=zbi b2 (.cells #[] 66)
       have HRA:=hh9 (hRSH.out.under hb)
       have hwW:=hRSH.out.bel.size
       clear hS2 hSX hb
       gi_wp2_with (first
        | (gi_at_lookup;refine wpListIn_lookup_own_unit _ rfl _ _ 67 rfl 9 66 zfx Tryz.underlying67 (zry _) (w1.heap.size+1+1) out2.length Ds2 rfl hD2 _ _ rfl hkey2 ?_;rw [hs])
        | (gi_at_mapUpdate;refine wpListIn_mapUpdate_own _ rfl _ _ _ 67 rfl 9 66 zfx Tryz.underlying67 unitElem (w1.heap.size+1+1) out2.length Ds2 rfl hD3 (by unfold maxLen;omega) _ _ (keyT x2) rfl rfl hkey2 (.agg []) [] unitElem_mk ?_;intro w3 hm3 hg3;obtain ⟨bb,rr,hsz3⟩:=HRA.out.upd hg3;have HM3:=hh9 hm3;have HG3:=hh9 hg3;have HBX:=hh9 bb;have HRR:=hh9 rr;have b5:=bb.cell;have b6:=bb.frozen;clear hm3 hg3 bb rr)
        | (gi_at_builtin;refine wpListIn_append_own _ rfl _ _ 42 rfl w.heap.size 9 i0 (.string ⟨#[]⟩) 1 16 Tryz.underlying42 hi0 hz0 hz1 hz2 rfl (by decide) _ _ _ rfl (HRR.out.alloc _) ⟨w3.heap.size,0,none⟩ 1 1 [.string (za3 x2)] rfl rfl (cell_one_new _ _ _) (by simp [Value.oneCell']) (by unfold maxLen;omega) (by omega) (by simp;omega) ?_;intro v' w4 hown' hgrow _;obtain ⟨g',cap',rfl⟩:=ownsRow_succ hown';have hcol:=zow (n₀:=w.heap.size) HBX.out (by decide) (by unfold KT;decide) (by unfold KT;decide) HRR.out (by omega) hown' hgrow;have b7:=hcol.1.cell;have b8:=hcol.1.frozen;have HOWN4:=hh9 hown';have HGR4:=hh9 hgrow;clear hcol hown' hgrow))
       obtain ⟨h1,h2,h3,h4⟩:=hRSH.out.added HBB.out (by omega) (by omega) (by omega) hx2 hmem ⟨HD2.out,HS2.out⟩ HM3.out HG3.out HOWN4.out HGR4.out
       refine ⟨⟨h3,fun q o hq ho hoc=>h4 q o (fun e=>by subst e;simp at hq;omega) ho hoc⟩,h2,⟨_,by rw [HSN.out,if_neg hmem];exact h1⟩,hMH.out.kept (fun D hDl h0 hDD=>(h4 D _ (fun e=>?_) hDD rfl).trans hDD.symm)⟩
       subst e
       obtain ⟨_,_,hD,_⟩:=HD2.out
       rw [hD] at hDD
       cases hDD
     case done =>
      rintro D xs W hD hxs ⟨⟨v2,hRS2⟩,hM2⟩ hK
      rw [hxs] at hRS2
      have hM3:=hM2.push (D:=D) (fun E hE=>by have:=HM.out.lt hE;simp at hD;omega) (by have:=HBA.out.size;simp at hD;omega) hK
      have hbd2:=zi8 (zbo g) NM out (fun z hz=>zrn (x:=y) (by rw [HNE.out];exact hz))
      gi_wp2
      refine ⟨⟨_,_,_,_,_,_,_,_,_,_,_,_,_,_,_,_,_,_,_,_,_,_,_,_,_,_,D::Ds,i+1,n',v2,_,⟨by go_num,by omega,by omega,HRE2,by omega,hh9 hRS2,hh9 hM3⟩,rfl⟩,?_⟩
      simp [intOf]
      omega
     case stop =>
      rintro D c pre W _ _ h _
      exact h.elim
   ·have hfin:nl=0/\out=Rr:=by
     cases HRX.out with
     | done h=>exact ⟨rfl,rfl⟩
     | step h1=>have:=(List.getElem?_eq_some_iff.1 h1).1;omega
    have q1:decide ((i:Int)<(out.length:Int))=false:=decide_eq_false (by omega)
    obtain ⟨va,vcc,rfl⟩:=zbj HRS.out.row
    have hRT:Hid (Reaches g 0 i Rr Rr/\zg4 g x Rr):=by
     refine ⟨?_,.inr ⟨HF.out,nt,HRE.out⟩⟩
     have h:=HRX.out
     rw [hfin.1,hfin.2] at h
     exact h
    have HFIN:=hh9 hfin
    clear hfin
    gi_wp2
    refine zio Ds wr HM.out.1 (fun D hD=>(HM.out.2 D hD).2) (fun W' h1 h2 h3 h4 h5=>⟨_,results_tmp rfl _ _ _,?_⟩)
    refine ⟨_,Rr,rfl,hRT.out.2,?_,?_,?_⟩
    ·rw [<- HFIN.out.2]
     exact zd6 HRS.out.row (fun b hb=>by
      obtain ⟨cur,hcur⟩:=zbk HRS.out.row hb
      exact zi5 HM.out h5 hcur)
    ·rw [<- HFIN.out.2]
     exact HRS.out.txt
    ·exact HRS.out.bel.trans (zi6 HM.out h1 h2 h3 h4 h5 (Nat.le_refl _))
theorem zwr {w:World} {v:Value} {ys:List RV} {g:List GR} {x:List Int} (h:zd0 w v ys g) (hx:zar x) (hg6:g.length<=1000000) (hsm:∀ r∈g,dep r.expr<=9000/\(zai r.expr).length<=1000000) (hun:(zbo g).length<=1000000) :
  Calls Tryz.prog 11 #[v,.string (za3 x)] w (zm4 g x w):=(callsIn_wide (n:=6)).1 (zzu h hx hg6 hsm hun)
end Go.Proofs.YtekjnfldgjcgeaaGreatDoor
namespace Go.Proofs.YtekjnfldgjcgeaaGreatDoor
def reT (lo hi:Int) (t:Tree):Tree:=.mk 3 [] [] lo hi [t]
def zzv:List Int:=[119,111,114,100]
def zws:List Int:=[110,111,98,111,100,121]
def zl3:Nat->Rule
 | 0=>⟨[97],false,foT [120]⟩
 | 1=>⟨[98],false,alT [rfT [97],rfT znn]⟩
 | 2=>⟨[97],true,rfT zbb⟩
 | 3=>⟨[99],false,seT [reT 1 (-1) (rfT [98]),reT 0 1 (rfT zgm)]⟩
 | 4=>⟨[98],true,alT [nuT 65,nuT 66]⟩
 | 5=>⟨zzv,false,seT [reT 0 (-1) (rfT zub),rfT zje]⟩
 | 6=>⟨[99],false,rfT zws⟩
 | 7=>⟨[97],false,seT [rfT [98],rfT [98]]⟩
 | 8=>⟨[120],true,rfT [97]⟩
 | 9=>⟨[100],false,alT [rfT [99],rfT zzv,rfT [97]]⟩
 | _=>⟨zzv,true,rfT nCtl⟩
def zzw:Nat->List Int
 | 0=>[97,32,61,32,34,120,34]
 | 1=>[98,32,61,32,97,32,47,32,97,108,112,104,97]
 | 2=>[97,32,61,47,32,100,105,103,105,116]
 | 3=>[99,32,61,32,49,42,98,32,91,99,114,108,102,93]
 | 4=>[98,32,61,47,32,37,120,52,49,32,47,32,37,120,52,50]
 | 5=>[119,111,114,100,32,61,32,42,108,119,115,112,32,104,101,120,100,105,103]
 | 6=>[99,32,61,32,110,111,98,111,100,121]
 | 7=>[97,32,61,32,98,32,98]
 | 8=>[120,32,61,47,32,97]
 | 9=>[100,32,61,32,99,32,47,32,119,111,114,100,32,47,32,97]
 | _=>[119,111,114,100,32,61,47,32,99,116,108]
theorem ztp:∀ n,n<11->zb9 (zl3 n)=zzw n++[10]:=by decide +kernel
theorem zn9:∀ n,n<11->(zdc (zl3 n).name&&zax 50 (zl3 n).expr&&fitB 49 (zl3 n).expr&&decide ((zzw n).length<=30)&&(zzw n).all (fun c=>decide (0<=c)&&decide (c<=255)))=true:=by decide +kernel
theorem zzx:∀ n,n<11->(zl3 n).expr.tw<=30:=by
 intro n hn
 have h:n=0\/n=1\/n=2\/n=3\/n=4\/n=5\/n=6\/n=7\/n=8\/n=9\/n=10:=by omega
 rcases h with rfl | rfl | rfl | rfl | rfl | rfl | rfl | rfl | rfl | rfl | rfl<;>simp [zl3,foT,alT,rfT,seT,reT,nuT,Tree.tw,znn,zbb,zgm,zzv,zub,zje,zws,nCtl]
def zfc (p:List Nat):List Rule:=p.map fun n=>zl3 (n%11)
def zhh (p:List Nat):List Int:=(p.map fun n=>zzw (n%11)++[10]).flatten
theorem zwt (p:List Nat):((zfc p).map zb9).flatten=zhh p:=by
 unfold zfc zhh
 rw [List.map_map]
 congr 1
 apply List.map_congr_left
 intro n _
 exact ztp _ (Nat.mod_lt _ (by omega))
theorem zm5:∀ (p:List Nat),(zhh p).length<=31*p.length
 | []=>by simp [zhh]
 | n::p=>by
  have h:=zm5 p
  have h2:=zn9 (n%11) (Nat.mod_lt _ (by omega))
  simp only [Bool.and_eq_true,decide_eq_true_eq] at h2
  have h3:=h2.1.2
  simp only [zhh,List.map_cons,List.flatten_cons,List.length_append,List.length_cons,List.length_nil] at h ⊢
  omega
theorem zox (p:List Nat):InB8 (zhh p):=by
 intro c hc
 unfold zhh at hc
 obtain ⟨x,hx,hcx⟩:=List.mem_flatten.1 hc
 obtain ⟨n,hn,rfl⟩:=List.mem_map.1 hx
 have h2:=zn9 (n%11) (Nat.mod_lt _ (by omega))
 simp only [Bool.and_eq_true,List.all_eq_true,decide_eq_true_eq] at h2
 rcases List.mem_append.1 hcx with h | h
 ·exact h2.2 c h
 ·simp at h
  omega
theorem zoy (p:List Nat):zl4 (zfc p)=true:=by
 unfold zl4 zfc
 rw [List.all_eq_true]
 intro r hr
 obtain ⟨n,hn,rfl⟩:=List.mem_map.1 hr
 have h2:=zn9 (n%11) (Nat.mod_lt _ (by omega))
 simp only [Bool.and_eq_true,decide_eq_true_eq] at h2
 rw [Bool.and_eq_true]
 exact ⟨h2.1.1.1.1,h2.1.1.1.2⟩
theorem zoz:∀ (p:List Nat),twl (zfc p)<=31*p.length
 | []=>by simp [twl,zfc]
 | n::p=>by
  have h:=zoz p
  have h3:=zzx (n%11) (Nat.mod_lt _ (by omega))
  simp only [twl,zfc,List.map_cons,List.sum_cons,List.length_cons] at h ⊢
  omega
theorem zp0 {p:List Nat} (hp:p.length<=400) {r:Got (List Rule)} (ha:zeo (za3 (zhh p)) r):∃ q,r=.ok (zfc p) q:=by
 have h1:=zoy p
 have h2:=zm5 p
 have h3:=zox p
 have h4:(zfc p).length<=500:=by unfold zfc;simp;omega
 rw [<- zwt] at h2 h3 ha
 exact zk7 h1 h4 h3 (by omega) ha
def awkL:List Rule:=[⟨[97],false,foT [120]⟩,⟨[97],true,rfT zbb⟩]
def awkG:List GR:=[⟨[97],alT [foT [120],rfT zbb]⟩,⟨zbb,spT 48 57⟩]
def qc7:List GR:=[⟨[97],alT [foT [120],rfT zbb]⟩]
theorem zwu:zbf [] awkL=some qc7:=by kernel_rfl
theorem zzy (x:List Int):zai (foT x)=[]:=by
 unfold foT
 rw [zdt,if_neg (by decide)]
 rfl
theorem zrz (x:List Int):zai (rfT x)=[x]:=by
 unfold rfT
 rw [zdt,if_pos rfl]
 rfl
theorem zs0 (a b:Int):zai (spT a b)=[]:=by
 unfold spT
 rw [zdt,if_neg (by decide)]
 rfl
theorem zkk:zai (alT [foT [120],rfT zbb])=[zbb]:=by
 unfold alT
 rw [zdt,if_neg (by decide)]
 simp [zzy,zrz]
theorem zp1:zcm awkL awkG 0:=by
 refine .inr ⟨by decide +kernel,.inr ⟨qc7,2,some awkG,zwu,?_,.inr ⟨rfl,rfl⟩⟩⟩
 refine .step (r:=⟨[97],alT [foT [120],rfT zbb]⟩) (g':=awkG) rfl ?_ (.step (r:=⟨zbb,spT 48 57⟩) (g':=awkG) rfl ?_ (.done (by decide)))
 ·show zbn qc7 (zai (alT [foT [120],rfT zbb]))=_
  rw [zkk]
  kernel_rfl
 ·show zbn awkG (zai (spT 48 57))=_
  rw [zs0]
  rfl
def zwv:List Rule:=[⟨[97],false,rfT [98]⟩]
theorem ztq:zcm zwv [] 40:=by
 refine .inr ⟨by decide +kernel,.inr ⟨[⟨[97],rfT [98]⟩],1,none,by kernel_rfl,.fail (r:=⟨[97],rfT [98]⟩) rfl ?_,.inl ⟨rfl,rfl,rfl⟩⟩⟩
 show zbn _ (zai (rfT [98]))=_
 rw [zrz]
 kernel_rfl
theorem zs1:zay awkG [97]=some 0:=by kernel_rfl
theorem zp2:zay awkG zbb=some 1:=by kernel_rfl
theorem zww:zg4 awkG [97] [[97],zbb]:=by
 have e1:zgn awkG [97]=[zbb]:=by
  unfold zgn
  rw [zs1]
  exact zkk
 have e2:zgn awkG zbb=[]:=by
  unfold zgn
  rw [zp2]
  exact zs0 _ _
 refine .inr ⟨by rw [zs1];simp,2,.step (x:=[97]) rfl ?_⟩
 rw [e1,show addU [[97]] [zbb]=[[97],zbb] by kernel_rfl]
 refine .step (x:=zbb) rfl ?_
 rw [e2]
 exact .done (by decide)
def awkT:List Int:=[97,32,61,32,34,120,34,10,97,32,61,47,32,100,105,103,105,116,10]
theorem zzz:zhh [0,2]=awkT:=by decide +kernel
theorem zkl:zfc [0,2]=awkL:=by kernel_rfl
end Go.Proofs.YtekjnfldgjcgeaaGreatDoor
namespace Go.Proofs.YtekjnfldgjcgeaaGreatDoor
open Go.RowKit
def AtY (w:World) (R:Nat) (s:ByteArray) (p:Nat) (c:Int):Prop:=w.heap[R]?=some (.cells #[.string s,.int .i64 p,.int .i64 c] 49 (0,0))
theorem AtY.lt {w:World} {R:Nat} {s:ByteArray} {p:Nat} {c:Int} (h:AtY w R s p c):R<w.heap.size:=(Array.getElem?_eq_some_iff.1 h).1
theorem AtY.cells {w:World} {R:Nat} {s:ByteArray} {p:Nat} {c:Int} (h:AtY w R s p c):w.cell? ⟨R,0,none⟩=some (.string s)/\w.cell? ⟨R,1,none⟩=some (.int .i64 p)/\w.cell? ⟨R,2,none⟩=some (.int .i64 c) /\
  w.frozen? ⟨R,0,none⟩=false/\w.frozen? ⟨R,1,none⟩=false/\w.frozen? ⟨R,2,none⟩=false:=by
 unfold AtY at h
 simp [World.cell?,World.frozen?,h]
theorem AtY.drew {w:World} {R:Nat} {s:ByteArray} {p:Nat} {c:Int} (h:AtY w R s p c) (n:Nat):AtY (w.drewN n) R s p c:=h
theorem AtY.kept {w w':World} {R:Nat} {row:Option Nat} {s:ByteArray} {p:Nat} {c:Int} (h:AtY w R s p c) (hg:w.grownBy w' row) (hr:some R≠row):AtY w' R s p c:=(hg.block R h.lt hr).trans h
theorem AtY.below {w w':World} {R:Nat} {s:ByteArray} {p:Nat} {c:Int} (h:AtY w R s p c) (hb:Below w.heap.size w w'):AtY w' R s p c:=(hb.block R h.lt).trans h
theorem AtY.alloc {w:World} {R:Nat} {s:ByteArray} {p:Nat} {c:Int} (h:AtY w R s p c) (o:Obj):AtY (w.alloc o) R s p c:=h.kept (World.grownBy_alloc w o none) (by simp)
theorem AtY.put {w:World} {R:Nat} {s:ByteArray} {p:Nat} {c:Int} (h:AtY w R s p c) {x:Int} {q:Nat} (hx:x=q):AtY (w.setCell ⟨R,1,none⟩ (.int .i64 x)) R s q c:=by
 subst hx
 unfold AtY at h ⊢
 unfold World.setCell
 simp only [Array.getElem?_modify,h]
 simp
theorem AtY.step {w:World} {R:Nat} {s:ByteArray} {p:Nat} {c:Int} (h:AtY w R s p c):AtY (w.setCell ⟨R,1,none⟩ (.int .i64 ((p:Int)+1))) R s (p+1) c:=h.put (by omega)
theorem AtY.sete {w:World} {R:Nat} {s:ByteArray} {p:Nat} {c:Int} (h:AtY w R s p c) (x:Int):AtY (w.setCell ⟨R,2,none⟩ (.int .i64 x)) R s p x:=by
 unfold AtY at h ⊢
 unfold World.setCell
 simp only [Array.getElem?_modify,h]
 simp
theorem AtY.pos {w:World} {R:Nat} {s:ByteArray} {p:Nat} {c:Int} (h:AtY w R s p c):zf4 R w=p:=by
 unfold zf4
 rw [h.cells.2.1]
 simp
def GivesY (R:Nat) (s:ByteArray) (v:Value) (q:Nat) (c:Int) (w:World) (e:Ending) (w':World):Prop:=e=.returned v/\AtY w' R s q c/\w.grownBy w' (some R)
theorem zc7 (c:Int) (w:World):Calls Tryz.prog 16 #[.int .i64 c] w (zd3 (isBl c) w):=by
 by_cases h1:c=32
 ·subst h1
  go_enter Tryz.func16,Tryz.ntmps16
  go_wp2
  go_ret
  exact ⟨rfl,rfl⟩
 ·have e1:(c==32)=false:=by simpa using h1
  by_cases h2:c=9
  ·subst h2
   go_enter Tryz.func16,Tryz.ntmps16
   go_wp2
   go_ret
   exact ⟨rfl,rfl⟩
  ·have e2:(c==9)=false:=by simpa using h2
   have hb:isBl c=false:=by unfold isBl;rw [e1,e2];rfl
   rw [hb]
   clear hb
   go_enter Tryz.func16,Tryz.ntmps16
   go_wp2
   go_ret
   exact ⟨rfl,rfl⟩
theorem zby (c:Int) (w:World):Calls Tryz.prog 56 #[.int .i64 c] w (zd3 (isAl c) w):=by
 have hu:isAl c=((decide (97<=c)&&decide (c<=122))||(decide (65<=c)&&decide (c<=90))):=rfl
 by_cases h1:97<=c<;>by_cases h2:c<=122<;>by_cases h3:65<=c<;>by_cases h4:c<=90
 all_goals try (exfalso;omega)
 all_goals
  simp only [h1,h2,h3,h4,decide_true,decide_false,Bool.and_true,Bool.and_false,Bool.or_true,Bool.or_false,Bool.and_self,Bool.or_self] at hu
  rw [hu]
  clear hu
  go_enter Tryz.func56,Tryz.ntmps56
  go_wp2
  go_ret
  exact ⟨rfl,rfl⟩
theorem zc8 (c:Int) (w:World):Calls Tryz.prog 57 #[.int .i64 c] w (zd3 (isDc c) w):=by
 have hu:isDc c=(decide (48<=c)&&decide (c<=57)):=rfl
 by_cases h1:48<=c<;>by_cases h2:c<=57
 all_goals try (exfalso;omega)
 all_goals
  simp only [h1,h2,decide_true,decide_false,Bool.and_true,Bool.and_false,Bool.and_self] at hu
  rw [hu]
  clear hu
  go_enter Tryz.func57,Tryz.ntmps57
  go_wp2
  go_ret
  exact ⟨rfl,rfl⟩
theorem zgi (c:Int) (h0:0<=c) (h1:c<=255) (w:World):Calls Tryz.prog 58 #[.int .u8 c] w fun e w'=>e=.returned (.int .u8 (low c))/\w=w':=by
 by_cases a:65<=c<;>by_cases b:c<=90
 ·rw [show low c=c+32 by unfold low;rw [if_pos ⟨a,b⟩]]
  go_enter Tryz.func58,Tryz.ntmps58
  go_wp2
  go_ret
  exact ⟨rfl,rfl⟩
 all_goals
  rw [show low c=c by unfold low;rw [if_neg (by omega)]]
  go_enter Tryz.func58,Tryz.ntmps58
  go_wp2
  go_ret
  exact ⟨rfl,rfl⟩
theorem qc8 {R p:Nat} {c:Int} {s:ByteArray} {w:World} (h:AtY w R s p c) (hs:s.size<=50000) (hp:p<=60000) (k:Nat) (hk:k<=60000) (x:Int) (hx:x=k) :
  Calls Tryz.prog 17 #[.pointer (some ⟨R,0,none⟩),.int .i64 x] w (zgy (rd s (p+k)) w):=by
 subst hx
 obtain ⟨c0,c1,c2,z0,z1,z2⟩:=h.cells
 clear h
 obtain ⟨m,hm⟩:∃ m,p+k=m:=⟨_,rfl⟩
 have hmi:(p:Int)+(k:Int)=(m:Int):=by omega
 rw [hm]
 by_cases hlt:m<s.size
 ·rw [zes hlt]
  have q1:decide (s.size<=m)=false:=by simp;omega
  clear hm
  go_enter Tryz.func17,Tryz.ntmps17
  go_wp2_with fail
  go_quiet (fail)
  go_wp2_with fail
  go_quiet (fail)
  go_wp2_with fail
  go_ret
  exact ⟨zbw (znj _),za7 (za7 (Below.refl _ _) _) _⟩
 ·rw [zbz hlt]
  have q1:decide (s.size<=m)=true:=by simp;omega
  clear hm
  go_enter Tryz.func17,Tryz.ntmps17
  go_wp2_with fail
  go_quiet (fail)
  go_wp2_with fail
  go_ret
  exact ⟨rfl,za7 (Below.refl _ _) _⟩
theorem zba {R p:Nat} {s:ByteArray} {w:World} (h:AtY w R s p 0) (c:Int) :
  Calls Tryz.prog 20 #[.pointer (some ⟨R,0,none⟩),.int .i64 c] w (GivesY R s (.tuple #[]) p c w):=by
 obtain ⟨c0,c1,c2,z0,z1,z2⟩:=h.cells
 have H:=hh9 h
 clear h
 go_enter Tryz.func20,Tryz.ntmps20
 go_wp2
 go_end0
 exact ⟨rfl,H.out.sete c,zah (zak _ _) _ _⟩
theorem zd8 {R p:Nat} {e:Int} {s:ByteArray} {w:World} (h:AtY w R s p e) (he:e≠0) (c:Int) :
  Calls Tryz.prog 20 #[.pointer (some ⟨R,0,none⟩),.int .i64 c] w (GivesY R s (.tuple #[]) p e w):=by
 obtain ⟨c0,c1,c2,z0,z1,z2⟩:=h.cells
 have H:=hh9 h
 have q1:(e==0)=false:=by simpa using he
 clear h
 go_enter Tryz.func20,Tryz.ntmps20
 go_wp2
 go_end0
 exact ⟨rfl,H.out,zak _ _⟩
end Go.Proofs.YtekjnfldgjcgeaaGreatDoor
