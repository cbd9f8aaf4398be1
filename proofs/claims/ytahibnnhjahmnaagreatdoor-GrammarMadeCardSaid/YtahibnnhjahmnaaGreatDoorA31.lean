/- Part 31 of what the laws of the grammar rest on. -/
import Derived.Test.YtahibnnhjahmnaaGreatDoorA27
import Derived.Test.YtahibnnhjahmnaaGreatDoorA30
set_option linter.all false
set_option maxRecDepth 100000
set_option maxHeartbeats 8000000
namespace Go.Proofs.YtahibnnhjahmnaaGreatDoor
open Go.RowKit Go.Shelf Go.Maps
attribute [local go_sem] Oper.semAt_some
structure RS (w W:World) (mp bR bM ms:Nat) (Dp:DataW Unit) (n:Nat) (v:Value) (out:List (List Int)):Prop where
 pl:W.ownsMap Tryz.prog 9 (plainElem Tryz.prog 3) mp n Dp
 box:Go.Boxed W bR 35 v
 row:W.ownsRow w.heap.size 9 1 v out.length (gy out)
 bm:Go.Boxed W bM 60 (.map (some ms))
 set:∃ Ds:DataW Unit,W.ownsMap Tryz.prog 9 unitElem ms out.length Ds/\∀ x,bJ x->Maps.has Ds (eD x)=decide (x∈out)
 txt:∀ x∈out,bJ x
 dP:Below w.heap.size w W
theorem zq7{W w1:World}{n₀ B:Nat}{t e:TypeId}{size k m:Nat}{v v':Value}{xs ys:List Value}{tmp:Obj}
  (hv:Go.Boxed W B t v) (hte:t≠e) (hkt:¬ KT t) (hke:¬ KT e) (hrow:W.ownsRow n₀ e size v k xs) (hn₀:n₀<=B)
  (hown':w1.ownsRow n₀ e size v' m ys) (hgrow:(W.alloc tmp).grownBy w1 v.ownBlock) :
  Go.Boxed w1 B t v/\Go.Boxed (w1.setCell ⟨B,0,none⟩ v') B t v'/\(w1.setCell ⟨B,0,none⟩ v').ownsRow n₀ e size v' m ys/\KeepsOthers W (w1.setCell ⟨B,0,none⟩ v')/\zap (fun _=>False) W (w1.setCell ⟨B,0,none⟩ v')/\Below n₀ W (w1.setCell ⟨B,0,none⟩ v'):=by
 have hl:=hv.lt;obtain⟨hv1,hv2,hr2,hk2,hb2⟩:=hv.appended (n₀:=n₀) hte hrow (by omega) hn₀ hown' hgrow;refine⟨hv1,hv2,hr2,hk2,⟨hk2.size,fun b c t' z _ ht hb=>?_⟩,hb2⟩
 have hne:b≠B:=fun h=>by
  subst h;have e:=zbB (hb.symm.trans hv);simp at e;exact hkt (e.2.1 ▸ ht)
 have hlt:=(zbD.1 hb).1;refine(zbQ _ _ _ _ hne).trans ((hgrow.block b (by simp;omega) ?_).trans ((zbP _ _ _ hlt).trans hb));rcases hrow.2 with ⟨rfl,_⟩|⟨g,cap,cur,rfl,hg,hgb,_⟩
 ·simp[Value.ownBlock]
 ·intro h;simp[Value.ownBlock]at h;subst h;have e:=zbB (hb.symm.trans hgb);simp at e;exact hke (e.2.1 ▸ ht)
theorem RS.moved{w W W':World}{mp bR bM ms n:Nat}{Dp:DataW Unit}{v:Value}{out:List (List Int)}(h:RS w W mp bR bM ms Dp n v out)(hc:∀ (b:Nat) (c:Array Value) (t:TypeId) (z:Nat × Nat),W.heap[b]?=some (.cells c t z)->W'.heap[b]?=some (.cells c t z))
  (h1:W'.heap[mp]?=W.heap[mp]?) (h2:W'.heap[ms]?=W.heap[ms]?) (hb:Below w.heap.size W W'):RS w W' mp bR bM ms Dp n v out:=by
 obtain⟨Ds,hD,hS⟩:=h.set
 exact⟨tQ h.pl h1,hc _ _ _ _ h.box,AY h.row (fun b hb=>by
  obtain⟨cur,hcur⟩:=ou h.row hb;exact(hc b _ _ _ hcur).trans hcur.symm),hc _ _ _ _ h.bm,⟨Ds,tQ hD h2,hS⟩,h.txt,h.dP.trans hb⟩
theorem RS.under{w W W':World}{mp bR bM ms n:Nat}{Dp:DataW Unit}{v:Value}{out:List (List Int)}(h:RS w W mp bR bM ms Dp n v out)(hb:Below W.heap.size W W'):RS w W' mp bR bM ms Dp n v out:=by
 obtain⟨Ds,hD,hS⟩:=h.set;exact h.moved (fun b c t z hc=>(hb.block b (zbD.1 hc).1).trans hc) (hb.block _ h.pl.lt) (hb.block _ hD.lt) (hb.mono h.dP.size)
theorem RS.ne{w W:World}{mp bR bM ms n:Nat}{Dp:DataW Unit}{v:Value}{out:List (List Int)}(h:RS w W mp bR bM ms Dp n v out):bR≠bM/\bR≠mp/\bR≠ms/\bM≠mp/\bM≠ms:=by
 obtain⟨Ds,⟨_,_,hD,_⟩,hS⟩:=h.set;obtain⟨_,_,hP,_⟩:=h.pl;have b1:=h.box;have b2:=h.bm;unfold Go.Boxed at b1 b2;refine⟨fun e=>?_,fun e=>?_,fun e=>?_,fun e=>?_,fun e=>?_⟩
 ·subst e;rw[b1]at b2;have e:=zbB b2;simp at e
 ·subst e;rw[b1]at hP;cases hP
 ·subst e;rw[b1]at hD;cases hD
 ·subst e;rw[b2]at hP;cases hP
 ·subst e;rw[b2]at hD;cases hD
theorem RS.added{w W Wa w1 w2:World}{mp bR bM ms n:Nat}{Dp Ds:DataW Unit}{v v':Value}{out:List (List Int)}{x:List Int}{tmp:Obj}(h:RS w W mp bR bM ms Dp n v out)(hba:Below W.heap.size W Wa)(hpm:mp≠ms)(hR:w.heap.size<=bR)(hms:w.heap.size<=ms)(hx:bJ x)(hno:x ∉ out)
  (hDs:W.ownsMap Tryz.prog 9 unitElem ms out.length Ds/\∀ x,bJ x->Maps.has Ds (eD x)=decide (x∈out)) (hm1:w1.ownsMap Tryz.prog 9 unitElem ms (out.length+1) (Ds.put (eD x) (.agg []))) (hg1:Wa.grownBy w1 (some ms))
  (hown:w2.ownsRow w.heap.size 9 1 v' (out.length+1) (gy out++[.string (ak x)])) (hgrow:(w1.alloc tmp).grownBy w2 v.ownBlock) :
  RS w (w2.setCell ⟨bR,0,none⟩ v') mp bR bM ms Dp n v' (out++[x])/\zap (fun _=>False) W (w2.setCell ⟨bR,0,none⟩ v')/\W.heap.size<=(w2.setCell ⟨bR,0,none⟩ v').heap.size/\∀ (q:Nat) (o:Obj),q≠ms->W.heap[q]?=some o->o.isCells=false->(w2.setCell ⟨bR,0,none⟩ v').heap[q]?=some o:=by
 have ha:=h.under hba;obtain⟨n1,n2,n3,n4,n5⟩:=ha.ne
 have hlm:ms<Wa.heap.size:=by
  have:=hDs.1.lt;have:=hba.size;omega
 have hc1:∀ (b:Nat) (c:Array Value) (t:TypeId) (z:Nat × Nat),Wa.heap[b]?=some (.cells c t z)->w1.heap[b]?=some (.cells c t z):=fun b c t z hb =>
  (hg1.block b (zbD.1 hb).1 (fun e=>by
   have e:=zbB e;subst e;obtain⟨_,_,hD,_⟩:=tQ hDs.1 (hba.block _ hDs.1.lt);rw[hD]at hb
   cases hb)).trans hb
 have hw1:Below w.heap.size Wa w1:=⟨hg1.os,hg1.tape,hg1.output,by have:=hg1.size;have:=ha.dP.size;omega,fun q hq=>hg1.block q (by have:=ha.dP.size;omega) (fun e=>by have:=zbB e;omega)⟩
 have LM:Go.Boxed w1 bR 35 v:=hc1 _ _ _ _ ha.box
 have kV:w1.ownsRow w.heap.size 9 1 v out.length (gy out):=AY ha.row (fun b hb=>by
  obtain⟨cur,hcur⟩:=ou ha.row hb;exact(hc1 b _ _ _ hcur).trans hcur.symm)
 obtain⟨_,hv2,hr2,hk2,hx2,hb2⟩:=zq7 (n₀:=w.heap.size) LM (by decide) (by unfold KT;decide) (by unfold KT;decide) kV hR hown hgrow
 have hmap:∀ b,b<w1.heap.size->(∀ c t z,w1.heap[b]?≠some (.cells c t z))->(w2.setCell ⟨bR,0,none⟩ v').heap[b]?=w1.heap[b]?:=fun b hb hnc=>by
  cases ho:w1.heap[b]? with
  |none=>have:=Array.getElem?_eq_none_iff.1 ho;omega
  |some o =>
   refine hk2.same b o ho ?_
   cases o<;>first|rfl|exact absurd ho (hnc _ _ _)
 have hp1:w1.ownsMap Tryz.prog 9 (plainElem Tryz.prog 3) mp n Dp:=tQ ha.pl (hg1.block _ ha.pl.lt (fun e=>hpm (zbB e)))
 have hset:(w2.setCell ⟨bR,0,none⟩ v').ownsMap Tryz.prog 9 unitElem ms (out++[x]).length (Ds.put (eD x) (.agg [])):=by
  rw[zbG];refine tQ hm1 (hmap ms hm1.lt (fun c t z e=>?_));obtain⟨_,_,hD,_⟩:=hm1;rw[hD]at e
  cases e
 refine⟨⟨tQ hp1 (hmap mp hp1.lt (fun c t z e=>?_)),hv2,by simpa[gy]using hr2,?_,⟨Ds.put (eD x) (.agg []),hset,fun y hy=>?_⟩,fun y hy=>?_,(ha.dP.trans hw1).trans hb2⟩,?_,zbH hba.size (zbH hg1.size hk2.size),fun q o hq ho hoc=>?_⟩
 ·obtain⟨_,_,hD,_⟩:=hp1;rw[hD]at e
  cases e
 ·have Cy:=hc1 _ _ _ _ ha.bm
  have hne:v.ownBlock≠some bM:=fun e=>by
   have:=AB kV e Cy;revert this
   decide
  exact(zbQ _ _ _ _ (Ne.symm n1)).trans ((hgrow.block bM (by simp;have:=(zbD.1 Cy).1;omega) (fun e=>hne e.symm)).trans ((zbP _ _ _ (zbD.1 Cy).1).trans Cy))
 ·by_cases e:y=x
  ·subst e;rw[Maps.has_put_same hDs.1.isMap (Pb _)];simp
  ·rw[Maps.has_put_other (fun h2=>e (NY hy hx h2)),hDs.2 y hy];simp[e]
 ·rcases List.mem_append.1 hy with hy|hy
  ·exact h.txt y hy
  ·simp at hy;subst hy;exact hx
 ·exact((zap.below hba).trans ⟨hg1.size,fun b c t z _ _ hb=>hc1 b c t z hb⟩).trans hx2
 ·have e1:=(hba.block q (zbD.1 ho).1).trans ho;have e2:=(hg1.block q (zbD.1 e1).1 (fun e=>hq (zbB e))).trans e1;exact hk2.same q o e2 hoc
theorem RS.upd{w W w1:World}{mp bR bM ms n:Nat}{Dp:DataW Unit}{v:Value}{out:List (List Int)}(ha:RS w W mp bR bM ms Dp n v out)(hg1:W.grownBy w1 (some ms)):Go.Boxed w1 bR 35 v/\w1.ownsRow w.heap.size 9 1 v out.length (gy out)/\w.heap.size<=w1.heap.size:=by
 obtain⟨Ds,hD,_⟩:=ha.set
 have hc1:∀ (b:Nat) (c:Array Value) (t:TypeId) (z:Nat × Nat),W.heap[b]?=some (.cells c t z)->w1.heap[b]?=some (.cells c t z):=fun b c t z hb =>
  (hg1.block b (zbD.1 hb).1 (fun e=>by
   have e:=zbB e;subst e;obtain⟨_,_,hD,_⟩:=hD;rw[hD]at hb
   cases hb)).trans hb
 exact⟨hc1 _ _ _ _ ha.box,AY ha.row (fun b hb=>by
  obtain⟨cur,hcur⟩:=ou ha.row hb;exact(hc1 b _ _ _ hcur).trans hcur.symm),by have:=hg1.size;have:=ha.dP.size;omega⟩
theorem qf1{w:World}{mp bR bM ms n B:Nat}{Dp:DataW Unit}{Us:List (List Int)}(h1:mp<B)(h2:ms<B)(hB:w.heap.size<=B):OwnFrom B (fun (pre:List NX) W=>∃ v,RS w W mp bR bM ms Dp n v (dh Us (NX.vals pre))):=by
 intro pre W W' row ⟨v,h⟩ hg hr;refine⟨v,h.moved (fun b c t z hc=>(hg.block b (zbD.1 hc).1 (fun e=>?_)).trans hc) (hg.block mp h.pl.lt (fun e=>by have:=(hr mp e.symm).1;omega)) (hg.block ms (by obtain⟨_,hD,_⟩:=h.set;exact hD.lt) (fun e=>by have:=(hr ms e.symm).1;omega)) ⟨hg.os,hg.tape,hg.output,by have:=h.dP.size;have:=hg.size;omega,fun k hk=>hg.block k (by have:=h.dP.size;omega) (fun e=>by have:=(hr k e.symm).1;omega)⟩⟩;obtain⟨_,o,ho,hoc⟩:=hr b e.symm;rw[hc]at ho;have:=zbB ho;subst this
 cases hoc
theorem zyi(out xs:List (List Int))(x:List Int):dh out (xs++[x])=if x∈dh out xs then dh out xs else dh out xs++[x]:=by
 rw[Ur];rfl
theorem ztb:∀ (xs out:List (List Int)),(dh out xs).length<=out.length+xs.length
 |[],out=>by simp[dh]
 |x::xs,out=>by
  have h:=ztb xs (if x∈out then out else out++[x]);have h2:(if x∈out then out else out++[x]).length<=out.length+1:=by split<;>simp
  show (dh (if x∈out then out else out++[x]) xs).length<=_
  simp only[List.length_cons];omega
theorem Reaches.at{g:List GR}{n i:Nat}{x:List Int}{out R:List (List Int)}(h:Reaches g n i out R)(hx:out[i]?=some x):∃ n',n=n'+1/\Reaches g n' (i+1) (dh out (rW g x)) R:=by
 cases h with
 |done h=>have:=(zbF.1 hx).1;omega
 |step h1 h2 =>
  rw[hx]at h1;have e:=zbB h1;subst e;exact⟨_,rfl,h2⟩
def Ut(g:List GR)(x:List Int)(w:World)(e:Ending)(w':World):Prop :=
 ∃ (v:Value) (R:List (List Int)),e=.returned v/\Ec g x R/\w'.ownsRow w.heap.size 9 1 v R.length (gy R)/\(∀ y∈R,bJ y)/\Below w.heap.size w w'
theorem qbh{x:List Int}{S:ByteArray}(hx:bJ x)(hS:S=ak x):keyOf Tryz.prog 9 (.string S)=some (eD x):=by
 subst hS;exact Hw hx
theorem RS.start{w w1 w2:World}{Dp:DataW Unit}{x:List Int}{S:ByteArray}{n:Nat}(hx:bJ x)(hS:S=ak x)(zQ:w1.ownsMap Tryz.prog 9 (plainElem Tryz.prog 3) w.heap.size n Dp)(hb1:Below w.heap.size w w1)
  (hD2:w2.ownsMap Tryz.prog 9 unitElem (w1.heap.size+1+1) (0+1) ((DataW.map []:DataW Unit).put (eD x) (.agg []))) (hg2:(((w1.alloc (.cells #[.string S] 9)).alloc (.cells #[.slice (some ⟨w1.heap.size,0,none⟩) 1 1] 35)).alloc (.map #[] 0)).grownBy w2 (some (w1.heap.size+1+1))) :
  RS w (w2.alloc (.cells #[.map (some (w1.heap.size+1+1))] 60)) w.heap.size (w1.heap.size+1) w2.heap.size (w1.heap.size+1+1) Dp n (.slice (some ⟨w1.heap.size,0,none⟩) 1 1) [x]:=by
 subst hS;have hs3:(((w1.alloc (.cells #[.string (ak x)] 9)).alloc (.cells #[.slice (some ⟨w1.heap.size,0,none⟩) 1 1] 35)).alloc (.map #[] 0)).heap.size=w1.heap.size+3:=by simp
 have hs2:=hg2.size;rw[hs3]at hs2;have hw1:=hb1.size;have hb3:Below w1.heap.size w1 (((w1.alloc (.cells #[.string (ak x)] 9)).alloc (.cells #[.slice (some ⟨w1.heap.size,0,none⟩) 1 1] 35)).alloc (.map #[] 0)):=(((zbE _ _).alloc (zbA _) _).alloc (by simp) _).alloc (by simp;omega) _
 have keep:∀ b,b<w1.heap.size+3->b≠w1.heap.size+1+1->(w2.alloc (.cells #[.map (some (w1.heap.size+1+1))] 60)).heap[b]?=(((w1.alloc (.cells #[.string (ak x)] 9)).alloc (.cells #[.slice (some ⟨w1.heap.size,0,none⟩) 1 1] 35)).alloc (.map #[] 0)).heap[b]?:=fun b hb hne =>
  (zbP _ _ _ (by omega)).trans (hg2.block b (by rw[hs3];exact hb) (fun e=>hne (zbB e)))
 have bS:(((w1.alloc (.cells #[.string (ak x)] 9)).alloc (.cells #[.slice (some ⟨w1.heap.size,0,none⟩) 1 1] 35)).alloc (.map #[] 0)).heap[w1.heap.size]?=some (.cells #[.string (ak x)] 9 (0,0)):=J2 _ _ (J2 _ _ (zbO w1 _));have bB:=(Boxed.new (w1.alloc (.cells #[.string (ak x)] 9)) 35 (.slice (some ⟨w1.heap.size,0,none⟩) 1 1)).alloc (.map #[] 0);rw[World.size_alloc]at bB;have hmap2:=tQ hD2 (W':=w2.alloc (.cells #[.map (some (w1.heap.size+1+1))] 60)) (zbP _ _ _ hD2.lt);refine⟨tQ zQ ((keep _ (by have:=zQ.lt;omega) (by have:=zQ.lt;omega)).trans (hb3.block _ zQ.lt)),(keep _ (by omega) (by omega)).trans bB,?_,Boxed.new w2 _ _,⟨_,hmap2,fun y hy=>?_⟩,fun y hy=>?_,?_⟩
 ·exact wQ (bq (size:=1) (n:=1) (zbA _) ((keep _ (by omega) (by omega)).trans bS) (by unfold maxLen;omega) rfl) hw1
 ·by_cases e:y=x
  ·subst e;rw[Maps.has_put_same ⟨[],rfl⟩ (Pb _)];simp
  ·rw[Maps.has_put_other (fun h2=>e (NY hy hx h2))];simp[e];rfl
 ·simp at hy;subst hy;exact hx
 ·have h4:Below w.heap.size (((w1.alloc (.cells #[.string (ak x)] 9)).alloc (.cells #[.slice (some ⟨w1.heap.size,0,none⟩) 1 1] 35)).alloc (.map #[] 0)) w2:=⟨hg2.os,hg2.tape,hg2.output,by rw[hs3]at *;omega,fun q hq=>hg2.block q (by rw[hs3];omega) (fun e=>by have:=zbB e;omega)⟩
  exact((hb1.trans (hb3.mono hw1)).trans h4).alloc (by omega) _
theorem ztc(w:World):(zeroValue 59).run Tryz.prog w=.ok (.agg #[]) w:=by kernel_rfl
theorem qbi{w:World}{v:Value}{ys:List RV}{g:List GR}{x:List Int}(h:oV w v ys g)(hx:bJ x)(xI:g.length<=1000000)(hsm:∀ r∈g,dep r.expr<=9000/\(bn r.expr).length<=1000000)(hun:(lZ g).length<=1000000) :
  CallsIn Fence.wide 6 Tryz.prog 10 #[v,.string (ak x)] w (Ut g x w):=by
 have hto:∀ r∈g,bJ r.name:=fun r hr=>by
  obtain⟨i,hi⟩:=List.getElem?_of_mem hr;have hl:=(zbF.1 hi).1;exact(h.2.2 i (ys[i]'(by rw[h.2.1];exact hl)) r (zbC _) hi).2.1
 have HPL:=hh9 (zv4 h.rules xI hto)
 obtain⟨a,n,c,rfl,hn⟩:∃ a n c,v=.slice a n c/\n=g.length:=by
  obtain⟨a,c,h,_⟩:=h.1.slice;exact⟨a,_,c,h,rfl⟩
 have HH:=hh9 h;have HN:=hh9 hn;have HX:=hh9 hx;have oH:=hh9 hsm;have Uu:=hh9 hun;have hn6:n<=1000000:=by omega
 obtain⟨S,hS⟩:∃ S,S=ak x:=⟨_,rfl⟩
 have HS:=hh9 hS;have Pk:=hh9 (fun (W:World) (D:DataW Unit) (hD:W.ownsMap Tryz.prog 9 (plainElem Tryz.prog 3) w.heap.size g.length D) (kU:p8 D g)=>K7 hD kU hx hS);rw[<- hS];clear h hn hx hsm hto hun hS xI;have hmk:∀ u:World,(Instr.makeMap 60 none).run Tryz.prog u=.ok (.map (some u.heap.size)) (u.alloc (.map #[] 0)):=fun u=>run_makeMap _ u
 have hkey:=qbh HX.out HS.out
 cases hf:bI g x with
 |none =>
  rw[hf]at Pk;have HF:=hh9 hf;refine callsIn_of_wp_marks Tryz.func10 rfl trivial ?_ rfl;simp only[Tryz.ntmps10,List.size_toArray,List.length_cons,List.length_nil,Nat.reduceAdd,Nat.reduceSub,Array.replicate_succ,Array.replicate_zero,List.push_toArray,List.append_toArray,List.nil_append,List.cons_append]
  gi_wp2_with (refine⟨trivial,?_⟩;gi_at_call 20;refine(callsIn_wide.2 HPL.out).mono ?_;rintro e w1 ⟨Dp,rfl,zQ,kU,hb1⟩;have HB1:=hh9 hb1;obtain⟨c1,hrun,hc1⟩:=Pk.out w1 Dp zQ kU;change _=Result.ok (Value.tuple #[.int .i64 c1,.bool false]) _ at hrun;clear zQ kU hb1)
  exact⟨_,results_tmp rfl _ _ _,_,[],rfl,.inl ⟨HF.out,rfl⟩,World.ownsRow_nil _ _ _ _,(fun y hy=>by cases hy),HB1.out⟩
 |some j0 =>
  rw[hf]at Pk;have HF:=hh9 (show bI g x≠none by rw[hf];simp);clear hf;refine callsIn_of_wp_marks Tryz.func10 rfl trivial ?_ rfl;simp only[Tryz.ntmps10,List.size_toArray,List.length_cons,List.length_nil,Nat.reduceAdd,Nat.reduceSub,Array.replicate_succ,Array.replicate_zero,List.push_toArray,List.append_toArray,List.nil_append,List.cons_append];gi_wp2;refine⟨trivial,?_⟩
  gi_at_call 20
  refine(callsIn_wide.2 HPL.out).mono ?_;rintro e w1 ⟨Dp,rfl,zQ,kU,hb1⟩;obtain⟨c1,hrun,hc1⟩:=Pk.out w1 Dp zQ kU;change _=Result.ok (Value.tuple #[.int .i64 c1,.bool true]) _ at hrun;obtain⟨w2,oZ,hD2,hg2⟩:=(World.ownsMap_made (H:=Unit) ((w1.alloc (.cells #[.string S] 9)).alloc (.cells #[.slice (some ⟨w1.heap.size,0,none⟩) 1 1] 35)) Tryz.prog 9 unitElem).update yP Tryz.underlying60 (by unfold maxLen;omega) hkey unitElem_mk;have hsz2:((w1.alloc (.cells #[.string S] 9)).alloc (.cells #[.slice (some ⟨w1.heap.size,0,none⟩) 1 1] 35)).heap.size=w1.heap.size+1+1:=by simp
  rw[hsz2]at oZ hD2 hg2;have HST:=hh9 (RS.start (n:=g.length) HX.out HS.out zQ hb1 hD2 hg2);have RL:=hh9 kU;have HB1:=hh9 hb1;have HG2:=hh9 hg2;have HD2:=hh9 hD2;clear zQ kU hb1 hD2 hg2 hsz2;gi_wp2;obtain⟨nt,Rr,hRe⟩:=Reaches.is g ([x].length+rX (lZ g) [x]) 0 [x] (by omega);have jq:=hh9 hRe
  have hlk:[x].length+rX (lZ g) [x]<=1000001:=by
   have h1:=List.length_filter_le (fun y=>decide (y ∉ [x])) (lZ g);have h2:=Uu.out;unfold rX;simp only[List.length_cons,List.length_nil];omega
  have hwb:=HB1.out.size;have Uv:=HG2.out.size;have hs3:(((w1.alloc (.cells #[.string S] 9)).alloc (.cells #[.slice (some ⟨w1.heap.size,0,none⟩) 1 1] 35)).alloc (.map #[] 0)).heap.size=w1.heap.size+3:=by simp
  rw[hs3]at Uv
  have zaL:w.heap.size<w1.heap.size:=by
   have h:=HST.out.pl.lt;have h2:=HST.out.ne;rcases Nat.lt_or_ge w.heap.size w1.heap.size with h3|h3
   ·exact h3
   ·have h4:w1.heap.size=w.heap.size:=by omega
    exfalso;obtain⟨_,_,hP,_⟩:=HST.out.pl;obtain⟨cur,hcur⟩:=ou HST.out.row (b:=w1.heap.size) rfl;rw[<- h4]at hP;rw[hP]at hcur
    cases hcur
  clear hRe hs3
  refine wpIn_loop (fun a' wr=>∃ (Ip KQ KR u32 u33 u34 u35 u36 u37 u38 u39 u40 u41 u42 u43 u44 u45 u46 u47 u48 u49 u50 u51 u52 u53 u54:Value) (Ds:List Nat) (i nl:Nat) (vo:Value) (out:List (List Int)),(Ip=.int .i64 i/\nl+i=nt/\i<=1000001/\Hid (Reaches g nl i out Rr)/\out.length+rX (lZ g) out<=1000001/\Hid (RS w wr w.heap.size (w1.heap.size+1) w2.heap.size (w1.heap.size+1+1) Dp g.length vo out)/\Hid (kX w.heap.size Ds wr)) /\
   a'={ tmps:=#[.slice a n c,.string S,undef,undef,.slice none 0 0,.map (some w.heap.size),.int .i64 j0,.bool true,.pointer (some ⟨w1.heap.size+1,0,none⟩),.pointer (some ⟨w2.heap.size,0,none⟩),Ip,KQ,KR,undef,undef,undef,.slice a n c,.map (some w.heap.size),.tuple #[.int .i64 j0,.bool true],.map (some w.heap.size),.string S,.tuple #[.int .i64 j0,.bool true],.int .i64 j0,.bool true,.bool true,.bool false,.string S,.slice (some ⟨w1.heap.size,0,none⟩) 1 1,.map (some (w1.heap.size+1+1)),.string S,.agg #[],.map (some (w1.heap.size+1+1)),
    u32,u33,u34,u35,u36,u37,u38,u39,u40,u41,u42,u43,u44,u45,u46,u47,u48,u49,u50,u51,u52,u53,u54,undef,undef,undef,undef,undef,undef,undef,undef,undef,undef,undef,undef,undef,undef,undef,undef,undef],defers:=OG Ds }) (fun a' _=>nt-(intOf (a'.tmps.getD 10 undef)).toNat) ?_ ?_
  ·exact⟨.int .i64 0,undef,undef,undef,undef,undef,undef,undef,undef,undef,undef,undef,undef,undef,undef,undef,undef,undef,undef,undef,undef,undef,undef,undef,undef,undef,[],0,nt,_,[x],⟨rfl,by omega,by omega,jq,hlk,HST,kX.nil _ _⟩,rfl⟩
  ·rintro a' wr ⟨Ip,KQ,KR,u32,u33,u34,u35,u36,u37,u38,u39,u40,u41,u42,u43,u44,u45,u46,u47,u48,u49,u50,u51,u52,u53,u54,Ds,i,nl,vo,out,⟨rfl,hnl,Zo,Cz,hbd,jR,HM⟩,rfl⟩;have p1:=jR.out.box.cell;have p2:=jR.out.bm.cell;by_cases hlt:i<out.length
   ·have q1:decide ((i:Int)<(out.length:Int))=true:=zbN (by omega);obtain⟨y,hy⟩:∃ y,out[i]?=some y:=⟨_,zbC hlt⟩
    have hyt:=jR.out.txt y (zbI hy)
    obtain⟨go,zaM,rfl⟩:∃ g cap,vo=.slice (some ⟨g,0,none⟩) out.length cap:=by
     rcases fB jR.out.row with ⟨_,h0⟩|⟨g1,Fx,h1⟩
     ·omega
     ·exact⟨_,_,h1⟩
    have hcy:wr.cell? ⟨go,i,none⟩=some (.string (ak y)):=eZ jR.out.row (by unfold gy;rw[List.getElem?_map,hy];rfl);obtain⟨c2,oZ,hc2⟩:=K7 jR.out.pl RL.out hyt rfl;obtain⟨n',rfl,LP⟩:=Cz.out.at hy;have xJ:=hh9 LP;obtain⟨SY,Uw⟩:∃ SY,SY=ak y:=⟨_,rfl⟩
    rw[<- Uw]at hcy oZ;have HSY:=hh9 Uw;clear LP Uw
    cases Ed:bI g y with
    |none =>
     rw[Ed]at oZ;change _=Result.ok (Value.tuple #[.int .i64 c2,.bool false]) _ at oZ;have hne:rW g y=[]:=by unfold rW;rw[Ed]
     rw[hne]at xJ;change Hid (Reaches g n' (i+1) out Rr) at xJ;clear hc2;gi_wp2;refine⟨⟨_,_,_,_,_,_,_,_,_,_,_,_,_,_,_,_,_,_,_,_,_,_,_,_,_,_,Ds,i+1,n',_,out,⟨by go_num,by omega,by omega,xJ,hbd,jR,HM⟩,rfl⟩,?_⟩;simp[intOf];omega
    |some p =>
     obtain rfl:=hc2 p Ed;rw[Ed]at oZ;change _=Result.ok (Value.tuple #[.int .i64 (p:Int),.bool true]) _ at oZ;obtain⟨⟨r,hr,hrn⟩,_⟩:=tN.1 Ed;have hpl:=Qn Ed;have hne:rW g y=bn r.expr:=by unfold rW;rw[Ed];simp only[hr]
     rw[hne]at xJ;obtain⟨Y,hY⟩:∃ Y,ys[p]?=some Y:=⟨_,zbC (by rw[HH.out.2.1];exact hpl)⟩
     have hE:=(HH.out.2.2 p Y r hY hr).2.2.kept (M:=fun _=>False) (P':=fun _=>True) (zap.below jR.out.dP) (fun b _ _=>⟨id,trivial⟩);have hsm:=oH.out r (zbI hr)
     obtain⟨gb,off,ha,hb3,hcs⟩:∃ b off,a=some ⟨b,off,none⟩/\b<w.heap.size/\∀ (j:Nat) (u:Value),(ys.flatMap RV.cells)[j]?=some u->w.cell? ⟨b,off+j,none⟩=some u:=by
      rcases HH.out.1 with ⟨h0,_⟩|⟨b,off,cap,h1,_,_,h3,h4⟩
      ·omega
      ·injection h1 with h1
       exact⟨b,off,h1,h3,h4⟩
     subst ha
     have CX:∀ (j:Nat) (u:Value),j<7->Y.cells[j]?=some u->wr.cell? ⟨gb,off+(p*7+j),none⟩=some u:=fun j u hj hu =>
      (jR.out.dP.cell (p:=⟨gb,off+(p*7+j),none⟩) hb3).trans (hcs _ u ((uI ys p j Y hY hj).trans hu))
     obtain⟨nm,⟨k,tx,nv,lo,hi,kv⟩⟩:=Y;obtain⟨⟨na,nn,nc,hns⟩,ka,kn,kc,hks⟩:=hE.slices;simp only[]at hns hks;subst hns hks;have e1:=CX 1 _ (by omega) rfl;have e2:=CX 2 _ (by omega) rfl;have e3:=CX 3 _ (by omega) rfl;have e4:=CX 4 _ (by omega) rfl;have e5:=CX 5 _ (by omega) rfl;have e6:=CX 6 _ (by omega) rfl;rw[<- Nat.add_assoc]at e1 e2 e3 e4 e5 e6;simp only[]at e1 e2 e3 e4 e5 e6;have hpn:p<n:=by have:=HN.out;omega
     have q2:decide ((p:Int)<(n:Int))=true:=zbN (by omega);have ND:=hh9 (fun W=>Rv (w:=W) ⟨k,tx,.slice na nn nc,lo,hi,.slice ka kn kc⟩ rfl rfl);have hba:Below wr.heap.size wr (wr.alloc (aB k lo hi tx (.slice na nn nc) (.slice ka kn kc))):=(zbE _ _).alloc (zbA _) _;have bX:gK (wr.alloc (aB k lo hi tx (.slice na nn nc) (.slice ka kn kc))) wr.heap.size ⟨k,tx,.slice na nn nc,lo,hi,.slice ka kn kc⟩:=zbO wr (aB k lo hi tx (.slice na nn nc) (.slice ka kn kc));have hstop:=Ru (Bs:=wr.heap.size) (M:=fun _=>False) (P:=fun _=>True) (fun _ h=>h.elim) (fun _ _ h=>h) (fun h=>h) (hE.kept (P':=fun _=>True) (zap.below (M:=fun _=>False) hba) (fun b hb _=>⟨fun h=>h,trivial⟩)) bX (by omega);obtain⟨NM,hNM⟩:∃ NM,NM=bn r.expr:=⟨_,rfl⟩
     have Fw:=hsm.2;rw[<- hNM]at hstop Fw xJ hne;have LQ:=hh9 hstop;have Ux:=hh9 hne;have ow:=hh9 hba;have hwr:=jR.out.dP.size;obtain⟨Ds0,LU,_⟩:=jR.out.set;have zaN:=LU.lt;have zaA:=jR.out.pl.lt;unfold aB at ND LQ ow;clear CX hcs bX hE hba hY hr hstop hNM hne LU hsm Ed hc2
     gi_wp2_with (refine⟨trivial,?_⟩;gi_at_call 14;refine(callsIn_wide.2 (ND.out _)).mono ?_;rintro e w' ⟨rfl,rfl⟩)
     refine wpIn_rangeFunc_ownG rfl (by omega) (gf:=22) (lb:=#[.pointer (some ⟨wr.heap.size,0,none⟩)]) rfl trivial (enters_of Tryz.func22 (by kernel_rfl) rfl)
      LQ.out Rw (fun W l o o' _ h ho _=>zap.put W l o o' h ho) (zbE _ _) (fun _=>rfl)
      (fun pre W=>(∃ v,RS w W w.heap.size (w1.heap.size+1) w2.heap.size (w1.heap.size+1+1) Dp g.length v (dh out (NX.vals pre)))/\kX w.heap.size Ds W)
      (fun _ _ _=>False)
      (OwnFrom.and (qf1 (by simp;omega) (by simp;omega) (by have:=ow.out.size;omega)) (kX.own (fun D hD=>by have:=HM.out.lt hD;simp;omega)))
      (fun _ _ _ _ _ hs _ _=>hs)
      ⟨⟨_,jR.out.under ow.out⟩,HM.out.below ow.out⟩
      ?a1 ?assign ?body ?done ?stop
     case assign =>
      intro l x W K hK;gi_wp2;exact hK
     case body =>
      rintro l pre ⟨x2,hx2⟩ W ⟨⟨v2,sW⟩,hM2⟩ hlt2;have b1:=sW.box.cell;have b2:=sW.bm.cell;obtain⟨LW,hD2,hS2⟩:=sW.set;have zR:=Hw hx2;have xK:=hh9 sW;have hMH:=hh9 hM2;have LX:=ztb (NX.vals pre) out;have hpre:(NX.vals pre).length=pre.length:=by simp[NX.vals]
      obtain⟨rH,hout2⟩:∃ o,o=dh out (NX.vals pre):=⟨_,rfl⟩
      have hsn:dh out (NX.vals (pre++[(⟨x2,hx2⟩:NX)]))=if x2∈rH then rH else rH++[x2]:=by
       rw[Zh,zyi,hout2]
      have nU:=hh9 hsn
      have hge:0<rH.length:=by
       obtain⟨t,ht,_⟩:=Ph (NX.vals pre) out;rw[hout2,ht,zbG];omega
      rw[<- hout2]at hD2 hS2 xK LX;have Aj:=hh9 hout2;obtain⟨SX,Uy⟩:∃ SX,SX=ak x2:=⟨_,rfl⟩
      have Xv:=hh9 Uy;have HD2:=hh9 hD2;have HS2:=hh9 hS2;clear sW hM2 hsn hout2;by_cases hmem:x2∈rH
      ·have hs:Maps.has LW (eD x2)=true:=by rw[hS2 x2 hx2];exact zbN hmem
       clear hS2 Uy
       gi_wp2_with (gi_at_lookup;refine wpListIn_lookup_own_unit _ rfl _ _ 60 rfl 9 59 yP Tryz.underlying60 (ztc _) (w1.heap.size+1+1) rH.length LW rfl hD2 _ _ rfl zR ?_;rw[hs])
       have hb:Below W.heap.size W (W.alloc (.cells #[] 59)):=(zbE _ _).alloc (zbA _) _;refine⟨Tn hb,zap.below hb,⟨v2,?_⟩,hMH.out.below hb⟩;rw[nU.out,if_pos hmem];exact xK.out.under hb
      ·have hs:Maps.has LW (eD x2)=false:=by rw[hS2 x2 hx2];exact zbM hmem
       obtain⟨g2,cap2,rfl⟩:∃ g cap,v2=.slice (some ⟨g,0,none⟩) rH.length cap:=by
        rcases fB xK.out.row with ⟨_,h0⟩|⟨g1,Fx,h1⟩
        ·omega
        ·exact⟨_,_,h1⟩
       obtain⟨i0,hi0,hz0,hz1,hz2⟩:=info_parts NV;have hb:Below W.heap.size W (W.alloc (.cells #[] 59)):=(zbE _ _).alloc (zbA _) _;have jX:=hh9 hb;have hD3:=tQ hD2 (hb.block _ hD2.lt);have b3:=jr b1 (.cells #[] 59);have b4:=jr b2 (.cells #[] 59);have zx:=hh9 (xK.out.under hb);have hwW:=xK.out.dP.size;clear hS2 Uy hb
       gi_wp2_with (first
        |(gi_at_lookup;refine wpListIn_lookup_own_unit _ rfl _ _ 60 rfl 9 59 yP Tryz.underlying60 (ztc _) (w1.heap.size+1+1) rH.length LW rfl hD2 _ _ rfl zR ?_;rw[hs])
        |(gi_at_mapUpdate;refine wpListIn_mapUpdate_own _ rfl _ _ _ 60 rfl 9 59 yP Tryz.underlying60 unitElem (w1.heap.size+1+1) rH.length LW rfl hD3 (by unfold maxLen;omega) _ _ (eD x2) rfl rfl zR (.agg []) [] unitElem_mk ?_;intro w3 Tt hg3;obtain⟨bb,rr,Uz⟩:=zx.out.upd hg3;have UA:=hh9 Tt;have aG:=hh9 hg3;have gL:=hh9 bb;have HRR:=hh9 rr;have b5:=bb.cell;have b6:=bb.frozen;clear Tt hg3 bb rr)
        |(gi_at_builtin;refine wpListIn_append_own _ rfl _ _ 35 rfl w.heap.size 9 i0 (.string ⟨#[]⟩) 1 16 Tryz.underlying35 hi0 hz0 hz1 hz2 rfl (by decide) _ _ _ rfl (HRR.out.alloc _) ⟨w3.heap.size,0,none⟩ 1 1 [.string (ak x2)] rfl rfl (cell_one_new _ _ _) (by simp[Value.oneCell']) (by unfold maxLen;omega) (by omega) (by simp;omega) ?_;intro v' w4 hown' hgrow _;obtain⟨g',cap',rfl⟩:=ownsRow_succ hown';have FP:=zq7 (n₀:=w.heap.size) gL.out (by decide) (by unfold KT;decide) (by unfold KT;decide) HRR.out (by omega) hown' hgrow;have b7:=FP.1.cell;have b8:=FP.1.frozen;have sU:=hh9 hown';have UC:=hh9 hgrow;clear FP hown' hgrow))
       obtain⟨h1,h2,h3,h4⟩:=xK.out.added jX.out (by omega) (by omega) (by omega) hx2 hmem ⟨HD2.out,HS2.out⟩ UA.out aG.out sU.out UC.out;refine⟨⟨h3,fun q o hq ho hoc=>h4 q o (fun e=>by subst e;simp at hq;omega) ho hoc⟩,h2,⟨_,by rw[nU.out,if_neg hmem];exact h1⟩,hMH.out.kept (fun D hDl h0 Ee=>(h4 D _ (fun e=>?_) Ee rfl).trans Ee.symm)⟩;subst e;obtain⟨_,_,hD,_⟩:=HD2.out;rw[hD]at Ee
       cases Ee
     case done =>
      rintro D xs W hD hxs ⟨⟨v2,sW⟩,hM2⟩ hK;rw[hxs]at sW;have Cv:=hM2.push (D:=D) (fun E hE=>by have:=HM.out.lt hE;simp at hD;omega) (by have:=ow.out.size;simp at hD;omega) hK;have zaO:=Pj (lZ g) NM out (fun z hz=>zta (x:=y) (by rw[Ux.out];exact hz));gi_wp2;refine⟨⟨_,_,_,_,_,_,_,_,_,_,_,_,_,_,_,_,_,_,_,_,_,_,_,_,_,_,D::Ds,i+1,n',v2,_,⟨by go_num,by omega,by omega,xJ,by omega,hh9 sW,hh9 Cv⟩,rfl⟩,?_⟩;simp[intOf];omega
     case stop =>
      rintro D c pre W _ _ h _;exact h.elim
   ·have hfin:nl=0/\out=Rr:=by
     cases Cz.out with
     |done h=>exact⟨rfl,rfl⟩
     |step h1=>have:=(zbF.1 h1).1;omega
    have q1:decide ((i:Int)<(out.length:Int))=false:=zbM (by omega);obtain⟨va,vcc,rfl⟩:=qG jR.out.row
    have hRT:Hid (Reaches g 0 i Rr Rr/\Ec g x Rr):=by
     refine⟨?_,.inr ⟨HF.out,nt,jq.out⟩⟩;have h:=Cz.out;rw[hfin.1,hfin.2]at h;exact h
    have ay:=hh9 hfin;clear hfin;gi_wp2;refine Ze Ds wr HM.out.1 (fun D hD=>(HM.out.2 D hD).2) (fun W' h1 h2 h3 h4 h5=>⟨_,results_tmp rfl _ _ _,?_⟩);refine⟨_,Rr,rfl,hRT.out.2,?_,?_,?_⟩
    ·rw[<- ay.out.2]
     exact AY jR.out.row (fun b hb=>by
      obtain⟨cur,hcur⟩:=ou jR.out.row hb;exact Tj HM.out h5 hcur)
    ·rw[<- ay.out.2];exact jR.out.txt
    ·exact jR.out.dP.trans (Tm HM.out h1 h2 h3 h4 h5 (zbA _))
theorem zq8{w:World}{v:Value}{ys:List RV}{g:List GR}{x:List Int}(h:oV w v ys g)(hx:bJ x)(xI:g.length<=1000000)(hsm:∀ r∈g,dep r.expr<=9000/\(bn r.expr).length<=1000000)(hun:(lZ g).length<=1000000) :
  Calls Tryz.prog 10 #[v,.string (ak x)] w (Ut g x w):=(callsIn_wide (n:=6)).1 (qbi h hx xI hsm hun)
end Go.Proofs.YtahibnnhjahmnaaGreatDoor
namespace Go.Proofs.YtahibnnhjahmnaaGreatDoor
open Go.RowKit
theorem zyj{w:World}{ops:Array Oper}{rest:List Oper}{o:Oper}{a:Act}{Q:Exit->Act->World->Prop}(hgd:o.guard=none)(sx xx:Operand)
  (ho:o.op=.call { callee:=.builtin .append,args:=#[sx,xx],argTypes:=#[35,35] }) (base g cap:Nat) (v:Value) (L:List (List Int)) (x:List Int) (hs:a.eval sx=v) (hx:a.eval xx=.slice (some ⟨g,0,none⟩) 1 cap)
  (h:w.ownsRow base 9 1 v L.length (gy L)) (h2:w.cell? ⟨g,0,none⟩=some (.string (ak x))) (hle:L.length<=100000000) (hbase:base<=w.heap.size)
  (K:∀ v' w',w'.ownsRow base 9 1 v' (L++[x]).length (gy (L++[x]))->w.grownBy w' v.ownBlock->(v'.ownBlock=v.ownBlock\/v'.ownBlock=some w.heap.size)->wpList Tryz.prog ops Q rest (a.put o.dst v') w'):wpList Tryz.prog ops Q (o::rest) a w:=by
 obtain⟨i0,hi0,hz0,hz1,hz2⟩:=info_parts NV;refine wpList_append_own_at _ hgd sx xx 35 ho base 9 i0 _ 1 16 Tryz.underlying35 hi0 hz0 hz1 hz2 rfl (by decide) v L.length (gy L) hs h ⟨g,0,none⟩ 1 cap (gy [x]) hx (by rw[XJ];rfl) (fun j u hj=>?_) ?_ (by unfold maxLen;omega) (by omega) hbase ?_
 ·cases j with
  |zero =>
   simp[gy]at hj;subst hj;simpa[Addr.add]using h2
  |succ j=>simp[gy]at hj
 ·intro u hu;unfold gy at hu;rw[List.mem_map]at hu;obtain⟨x,_,rfl⟩:=hu;rfl
 ·intro v' w' hown hgrow _ hat;have e:gy (L++[x])=gy L++gy [x]:=by simp[gy]
  exact K v' w' (by rw[zbG,e];exact hown) hgrow hat
def vG(W:World)(a:Option Addr)(ns:List (List Int))(v:Value):Prop:=0<ns.length->∃ gN,a=some ⟨gN,0,none⟩/\gN<W.heap.size/\v.ownBlock≠some gN/\∀ (q:Nat) (u:Value),(gy ns)[q]?=some u->W.cell? ⟨gN,q,none⟩=some u
theorem vG.below{W W':World}{a:Option Addr}{ns:List (List Int)}{v:Value}(h:vG W a ns v)(hb:Below W.heap.size W W'):vG W' a ns v:=fun h0=>by
 obtain⟨g,e,h1,h2,h3⟩:=h h0;exact⟨g,e,Nat.lt_of_lt_of_le h1 hb.size,h2,fun q u hq=>(hb.cell (p:=⟨g,q,none⟩) h1).trans (h3 q u hq)⟩
theorem vG.push{W W':World}{a:Option Addr}{ns:List (List Int)}{v v':Value}(h:vG W a ns v)(hg:W.grownBy W' v.ownBlock)(hat:v'.ownBlock=v.ownBlock\/v'.ownBlock=some W.heap.size):vG W' a ns v':=fun h0=>by
 obtain⟨g,e,h1,h2,h3⟩:=h h0;refine⟨g,e,Nat.lt_of_lt_of_le h1 hg.size,fun e2=>?_,fun q u hq=>(World.cell?_of_block (a:=⟨g,q,none⟩) (hg.block g h1 (Ne.symm h2))).trans (h3 q u hq)⟩;rcases hat with e3|e3
 ·exact h2 (e3.symm.trans e2)
 ·rw[e3]at e2;have:=zbB e2;omega
theorem vG.start{W W':World}{base k:Nat}{nv v:Value}{ns:List (List Int)}{xs:List Value}(hr:W'.ownsRow W.heap.size 9 1 nv ns.length (gy ns))(hv:W.ownsRow base 9 1 v k xs):∃ a c,nv=.slice a ns.length c/\vG W' a ns v:=by
 rcases fB hr with ⟨rfl,h0⟩|⟨g,cap,rfl⟩
 ·exact⟨none,0,by rw[h0],fun h=>by omega⟩
 ·obtain⟨h1,_,_,h4⟩:=iX hr;refine⟨_,_,rfl,fun _=>⟨g,rfl,h4,fun e=>?_,fun q u hq=>by simpa using eZ hr hq⟩⟩;obtain⟨cur,hc⟩:=ou hv e;have:=(zbD.1 hc).1;omega
structure RI (w:World) (g:List GR) (wr:World) (s:Value) (out:List (List Int)):Prop where
 row:wr.ownsRow w.heap.size 9 1 s out.length (gy out)
 dP:Below w.heap.size w wr
 ok:∀ y∈out,bJ y
 few:out.length+rX (lZ g) out<=1000001
theorem RI.below{w wr W:World}{g:List GR}{s:Value}{out:List (List Int)}(h:RI w g wr s out)(hb:Below wr.heap.size wr W):RI w g W s out:=⟨mI h.row hb,aJ h.dP hb,h.ok,h.few⟩
theorem RI.len{w wr:World}{g:List GR}{s:Value}{out:List (List Int)}(h:RI w g wr s out):out.length<=1000001:=by have:=h.few;omega
theorem zv5{U out:List (List Int)}{x:List Int}(hU:x∈U)(hx:x ∉ out):(out++[x]).length+rX U (out++[x])<=out.length+rX U out:=by
 have h:=Pj U [x] out (fun y hy=>by simp at hy;subst hy;exact hU);simpa[dh,if_neg hx]using h
theorem zq9{ns out:List (List Int)}{j:Nat}{x:List Int}(h:ns[j]?=some x):dh out (ns.take (j+1))=if x∈dh out (ns.take j) then dh out (ns.take j) else dh out (ns.take j)++[x]:=by
 rw[List.take_add_one,h,Option.toList_some,Ur];rfl
theorem qbj{cur:List (List Int)}{m:Nat}{x y:List Int}(h:cur[m]?=some y):decide (x∈cur.take (m+1))=(decide (x∈cur.take m)||decide (y=x)):=by
 rw[List.take_add_one,h,Option.toList_some];rw[Bool.eq_iff_iff];simp only[List.mem_append,List.mem_singleton,decide_eq_true_eq,Bool.or_eq_true];constructor
 ·rintro(h|h)
  ·exact .inl h
  ·exact .inr h.symm
 ·rintro(h|h)
  ·exact .inl h
  ·exact .inr h.symm
theorem aM.named{W:World}{X:XV}{t:Tree}(h:aM W X t):∀ y∈bn t,bJ y:=by
 induction h with
 |@mk k lo hi ns ks tx nums kids vs h0 hl0 h1 h2 h3 h4 ih =>
  intro y hy;rw[Dr]at hy;rcases List.mem_append.1 hy with hy|hy
  ·split at hy
   ·simp at hy;subst hy;exact⟨h0,hl0⟩
   ·cases hy
  ·obtain⟨l,hl,hy⟩:=List.mem_flatten.1 hy;obtain⟨t,ht,rfl⟩:=List.mem_map.1 hl;obtain⟨i,hi⟩:=List.getElem?_of_mem ht;have hlt:=(zbF.1 hi).1;exact ih i (vs[i]'(by rw[h3];exact hlt)) t (zbC _) hi y hy
theorem zv6{w:World}{v:Value}{ys:List RV}{g:List GR}{x:List Int}(h:qF w v ys g)(hx:bJ x)(xI:g.length<=1000000)(hsm:∀ r∈g,(bn r.expr).length<=1000000)(hun:(lZ g).length<=1000000) :
  Calls Tryz.prog 11 #[v,.string (ak x)] w (Ut g x w):=by
 obtain⟨va,vc,rfl,UD,hvn,hrow⟩:=h.1.mM;obtain⟨N,hN⟩:∃ N,N=g.length:=⟨_,rfl⟩
 have HF:=hh9 (fun (W:World) (y:List Int) (hb:Below w.heap.size w W) (hy:bJ y)=>(by rw[hN];exact NR (h.below hb) hy:Calls Tryz.prog 21 #[.slice va N vc,.string (ak y)] W (JX (uz g y) W)));rw[<- hN]at hrow UD hvn;have HN:=hh9 hN;rw[<- hN];have cO:=hh9 hrow;have H2:=hh9 h.2.1;have H3:=hh9 h.2.2;have HX:=hh9 hx;have oH:=hh9 hsm;have Uu:=hh9 hun;obtain⟨S,hS⟩:∃ S,S=ak x:=⟨_,rfl⟩
 have HS:=hh9 hS;rw[<- hS];have FQ:=hh9 (HF.out w x (zbE _ _) hx);rw[<- hS]at FQ;clear h hx hsm hun hS hrow hN
 cases hf:bI g x with
 |none =>
  rw[ED hf]at FQ;have lq:=hh9 hf;clear hf;go_enter Tryz.func11,Tryz.ntmps11;go_wp2_with fail
  refine FQ.out.mono ?_;rintro e w1 ⟨rfl,hb1⟩;have HB1:=hh9 hb1;clear hb1;go_wp2_with fail
  go_ret;exact⟨_,[],rfl,.inl ⟨lq.out,rfl⟩,World.ownsRow_nil _ _ _ _,(fun y hy=>by cases hy),HB1.out⟩
 |some j0 =>
  rw[Dq hf]at FQ;have lq:=hh9 (show bI g x≠none by rw[hf];simp);have q0:decide ((j0:Int)<0)=false:=zbM (by omega);clear hf;obtain⟨nt,R,hRe⟩:=Reaches.is g ([x].length+rX (lZ g) [x]) 0 [x] (by omega);have jq:=hh9 hRe
  have UE:Hid ([x].length+rX (lZ g) [x]<=1000001):=by
   have h1:=List.length_filter_le (fun y=>decide (y ∉ [x])) (lZ g);have h2:=Uu.out;unfold Hid rX;simp only[List.length_cons,List.length_nil];omega
  clear hRe;go_enter Tryz.func11,Tryz.ntmps11;go_wp2_with fail
  refine FQ.out.mono ?_;rintro e w1 ⟨rfl,hb1⟩;have kV:=bq (base:=w.heap.size) (size:=1) (n:=1) hb1.size (zbO w1 (.cells #[.string S] 9)) (by unfold maxLen;omega) rfl;have HRI:Hid (RI w g (w1.alloc (.cells #[.string S] 9)) (.slice (some ⟨w1.heap.size,0,none⟩) 1 1) [x]):=⟨by rw[HS.out]at kV ⊢;exact kV,hb1.alloc hb1.size _,(fun y hy=>by simp at hy;subst hy;exact HX.out),UE.out⟩
  clear hb1 kV;go_wp2_with fail
  go_loopw [5,6] (fun s v wr=>∃ (i nl L og oc:Nat) (out:List (List Int)),s=.slice (some ⟨og,0,none⟩) L oc/\v=.int .i64 i/\nl+i=nt/\i<=L/\L<=1000001/\Hid (out.length=L)/\Hid (Reaches g nl i out R)/\Hid (RI w g wr (.slice (some ⟨og,0,none⟩) L oc) out)) (fun _ v _=>nt-(intOf v).toNat)
  case atStart=>exact⟨0,nt,1,_,_,[x],rfl,rfl,by omega,by omega,by omega,rfl,jq,HRI⟩
  case round =>
   obtain⟨i,nl,L,og,oc,out,rfl,rfl,hnl,hiL,hL6,HL,Cz,sZ⟩:=hrel;by_cases hlt:i<L
   ·obtain⟨xi,hxi⟩:∃ y,out[i]?=some y:=⟨_,zbC (by rw[HL.out];exact hlt)⟩
    obtain⟨n',hn',hRX⟩:=Cz.out.at hxi;subst hn';have hxo:=sZ.out.ok xi (zbI hxi)
    have p0:wr.cell? ⟨og,i,none⟩=some (.string (ak xi)):=by
     have hr:=sZ.out.row;rw[HL.out]at hr;have h:=eZ hr (j:=i) (u:=.string (ak xi)) (by unfold gy;rw[List.getElem?_map,hxi];rfl);simpa using h
    have hF1:=HF.out wr xi sZ.out.dP hxo;obtain⟨Si,hSi⟩:∃ Si,Si=ak xi:=⟨_,rfl⟩
    rw[<- hSi]at p0 hF1;have BU:=hh9 hF1;have LY:=hh9 hRX;have mY:=hh9 hxi;clear hF1 hRX hxi hxo hSi
    cases hk:bI g xi with
    |none =>
     rw[ED hk]at BU
     have FR:Hid (Reaches g n' (i+1) out R):=by
      have h:=LY.out;unfold rW at h;rw[hk]at h;exact h
     clear hk;go_wp2_with fail
     refine BU.out.mono ?_;rintro e w2 ⟨rfl,hb2⟩;have o7:=hh9 (sZ.out.below hb2);clear hb2;go_wp2_with fail
     go_roundw
     case rel=>exact⟨i+1,n',L,og,oc,out,rfl,by go_num,by omega,by omega,hL6,HL,FR,o7⟩
     case measure=>simp[intOf];omega
    |some k =>
     obtain⟨⟨r,hr,_⟩,_⟩:=tN.1 hk;rw[Dq hk]at BU;have hkN:k<N:=by rw[HN.out];exact(zbF.1 hr).1
     have q1:decide ((k:Int)<0)=false:=zbM (by omega);obtain⟨ns,hns⟩:∃ ns,ns=bn r.expr:=⟨_,rfl⟩
     have FR:Hid (Reaches g n' (i+1) (dh out ns) R):=by
      have h:=LY.out;unfold rW at h;rw[hk]at h;simp only[]at h;rw[hr]at h;rw[hns];exact h
     have Iy:=hh9 (show ns.length<=1000000 by rw[hns];exact oH.out r (zbI hr));have qw:Hid (∀ y∈ns,y∈lZ g):=fun y hy=>by rw[hns]at hy;unfold lZ;exact List.mem_flatten.2 ⟨bn r.expr,List.mem_map.2 ⟨r,zbI hr,rfl⟩,hy⟩
     obtain⟨gb,ob,rfl,hgb,hcs⟩:=cO.out (by omega);obtain⟨Y,hY⟩:∃ y,ys[k]?=some y:=⟨_,zbC (by rw[H2.out,<- HN.out];exact hkN)⟩
     have hE:=(H3.out k Y r hY hr).2.2;have IC:Hid (∀ y∈ns,bJ y):=by rw[hns];exact hE.named
     have CX:∀ (W:World),Below w.heap.size w W->∀ (j:Nat) (u:Value),j<7->Y.cells[j]?=some u->W.cell? ⟨gb,ob+(k*7+j),none⟩=some u:=fun W hb j u hj hu =>
      (hb.cell (p:=⟨gb,ob+(k*7+j),none⟩) hgb).trans (hcs _ u ((uI ys k j Y hY hj).trans hu))
     have CALL:Hid (∀ W1,Below w.heap.size w W1->Calls Tryz.prog 7 #[Y.expr.val] W1 (J3 ns W1)):=fun W1 hb1=>by
      rw[hns];exact Rz _ W1 Y.expr r.expr (hE.under hb1) (zbA _) (by have:=oH.out r (zbI hr);omega)
     clear hk hr hns hcs hY hE;go_wp2_with fail
     refine BU.out.mono ?_;rintro e w2 ⟨rfl,hb2⟩;have o7:=hh9 (sZ.out.below hb2);have e1:=CX w2 o7.out.dP 1 _ (by omega) rfl;have e2:=CX w2 o7.out.dP 2 _ (by omega) rfl;have e3:=CX w2 o7.out.dP 3 _ (by omega) rfl;have e4:=CX w2 o7.out.dP 4 _ (by omega) rfl;have e5:=CX w2 o7.out.dP 5 _ (by omega) rfl;have e6:=CX w2 o7.out.dP 6 _ (by omega) rfl;rw[<- Nat.add_assoc]at e1 e2 e3 e4 e5 e6;have lF:=hh9 CX;clear CX hb2;unfold XV.val at CALL;go_wp2_with fail
     refine(CALL.out w2 o7.out.dP).mono ?_;rintro e w3 ⟨nv,rfl,AL,hb3⟩;obtain⟨na,nc,rfl,hnk⟩:=vG.start AL o7.out.row;have UF:=hh9 hnk;have UG:=hh9 (o7.out.below hb3);obtain⟨nn,hnn⟩:∃ nn,nn=ns.length:=⟨_,rfl⟩
     rw[<- hnn];have bH:=hh9 hnn
     have zaP:nn<=1000000:=by
      rw[hnn];exact Iy.out
     clear AL hb3 hnk hnn;go_wp2_with fail
     obtain⟨wo,hwo⟩:∃ y:World,y=wr:=⟨_,rfl⟩
     subst hwo;go_loopw [5,9] (fun s v wr=>∃ (j Lc cg cc:Nat) (cur:List (List Int)),s=.slice (some ⟨cg,0,none⟩) Lc cc/\v=.int .i64 j/\j<=nn/\Lc<=1000001/\i+1<=Lc/\Hid (cur.length=Lc)/\Hid (cur=dh out (ns.take j))/\Hid (RI w g wr (.slice (some ⟨cg,0,none⟩) Lc cc) cur)/\Hid (vG wr na ns (.slice (some ⟨cg,0,none⟩) Lc cc))) (fun _ v _=>nn-(intOf v).toNat)
     case atStart=>exact⟨0,L,og,oc,out,rfl,rfl,by omega,by omega,by omega,HL,rfl,UG,UF⟩
     case round =>
      obtain⟨j,Lc,cg,cc,cur,rfl,rfl,hj,Pm,zaQ,Ef,FT,tq,FU⟩:=hrel;by_cases LZ:j<nn
      ·obtain⟨nj,L6⟩:∃ y,ns[j]?=some y:=⟨_,zbC (by rw[<- bH.out];exact LZ)⟩
       obtain⟨gN,rfl,hgN,FV,Ma⟩:=FU.out (by rw[<- bH.out];omega);have f0:wr.cell? ⟨gN,j,none⟩=some (.string (ak nj)):=Ma j _ (by unfold gy;rw[List.getElem?_map,L6];rfl);have HNJ:=hh9 L6;have UH:=hh9 (qw.out nj (zbI L6));obtain⟨Sj,hSj⟩:∃ Sj,Sj=ak nj:=⟨_,rfl⟩
       rw[<- hSj]at f0;have HSJ:=hh9 hSj;have Mc:=hh9 f0;have HTJ:=hh9 (IC.out nj (zbI L6));obtain⟨wm,Md⟩:∃ y:World,y=wr:=⟨_,rfl⟩
       subst Md;have HB0:=hh9 (zbE wm.heap.size wm);have hgc:=(iX (Ef.out ▸ tq.out.row:wm.ownsRow w.heap.size 9 1 (.slice (some ⟨cg,0,none⟩) Lc cc) Lc (gy cur))).2.2.2;have HGC:=hh9 hgc;have Pn:=hh9 hgN;clear L6 Ma FV hSj hgc hgN;go_wp2_with fail
       go_loopw [10,11] (fun hd v wr=>∃ (q:Nat) (b:Bool),hd=.bool b/\v=.int .i64 q/\q<=Lc/\Hid (b=decide (nj∈cur.take q))/\Hid (Below wm.heap.size wm wr)) (fun _ v _=>Lc-(intOf v).toNat)
       case atStart=>exact⟨0,false,rfl,rfl,by omega,by unfold Hid;simp,HB0⟩
       case round =>
        obtain⟨q,b,rfl,rfl,hq,HB,vW⟩:=hrel;by_cases UJ:q<Lc
        ·obtain⟨y,hy⟩:∃ y,cur[q]?=some y:=⟨_,zbC (by rw[Ef.out];exact UJ)⟩
         have e0:wr.cell? ⟨cg,q,none⟩=some (.string (ak y)):=by
          have hr:=tq.out.row;rw[Ef.out]at hr;have h:=eZ hr (j:=q) (u:=.string (ak y)) (by unfold gy;rw[List.getElem?_map,hy];rfl);exact(vW.out.cell (p:=⟨cg,q,none⟩) HGC.out).trans h
         have f1:wr.cell? ⟨gN,j,none⟩=some (.string Sj):=(vW.out.cell (p:=⟨gN,j,none⟩) Pn.out).trans Mc.out;have hst:=qbj (x:=nj) hy;rw[<- HB.out]at hst;have hbq:=Rh (tq.out.ok y (zbI hy)) HTJ.out;rw[<- HSJ.out]at hbq;obtain⟨bb,hbb⟩:∃ bb,bb=decide (y=nj):=⟨_,rfl⟩
         rw[<- hbb]at hst hbq;obtain⟨T,hT⟩:∃ T,T=ak y:=⟨_,rfl⟩
         rw[<- hT]at e0 hbq;have HST:=hh9 hst;clear hT hbb hst hy
         cases b with
         |true =>
          go_wp2_with fail
          go_quiet (fail)
          go_wp2_with fail
          go_roundw
          case rel=>exact⟨q+1,true,rfl,by go_num,by omega,by unfold Hid;rw[HST.out];rfl,dJ vW.out _⟩
          case measure=>simp[intOf];omega
         |false =>
          go_wp2_with fail
          go_quiet (fail)
          go_wp2_with fail
          go_roundw
          case rel=>exact⟨q+1,bb,rfl,by go_num,by omega,by unfold Hid;rw[HST.out];rfl,dJ vW.out _⟩
          case measure=>simp[intOf];omega
        ·obtain rfl:q=Lc:=by omega
         have HB2:Hid (b=decide (nj∈cur)):=by
          have h:=HB.out;rw[List.take_of_length_le (by rw[Ef.out];exact zbA _)]at h;exact h
         cases b with
         |true =>
          have sG:Hid (cur=dh out (ns.take (j+1))):=by
           unfold Hid;rw[zq9 HNJ.out,<- FT.out,if_pos (of_decide_eq_true HB2.out.symm)]
          go_wp2_with fail
          go_roundw
          case rel=>exact⟨j+1,q,cg,cc,cur,rfl,by go_num,by omega,by omega,by omega,Ef,sG,tq.out.below vW.out,FU.out.below vW.out⟩
          case measure=>simp[intOf];omega
         |false =>
          have HNI:Hid (nj ∉ cur):=of_decide_eq_false HB2.out.symm
          have sG:Hid (cur++[nj]=dh out (ns.take (j+1))):=by
           unfold Hid;rw[zq9 HNJ.out,<- FT.out,if_neg HNI.out]
          have f1:wr.cell? ⟨gN,j,none⟩=some (.string Sj):=(vW.out.cell (p:=⟨gN,j,none⟩) Pn.out).trans Mc.out;have hb5:Below wm.heap.size wm (wr.alloc (.cells #[.string Sj] 9)):=vW.out.alloc vW.out.size _;have iR:=hh9 hb5;have FW:=hh9 (tq.out.below hb5);have CB:=hh9 (FU.out.below hb5);have h5:=zbO wr (.cells #[.string Sj] 9)
          have Dz:Hid ((wr.alloc (.cells #[.string Sj] 9)).cell? ⟨wr.heap.size,0,none⟩=some (.string (ak nj))):=by
           unfold Hid World.cell?;simp only[h5];rw[HSJ.out];rfl
          have jY:Hid (cur.length<=100000000):=by unfold Hid;rw[Ef.out];omega
          have Po:Hid (w.heap.size<=(wr.alloc (.cells #[.string Sj] 9)).heap.size):=zbH FW.out.dP.size (zbA _);have Me:Hid ((wr.alloc (.cells #[.string Sj] 9)).ownsRow w.heap.size 9 1 (.slice (some ⟨cg,0,none⟩) q cc) cur.length (gy cur)):=FW.out.row;clear hb5 h5;go_wp2_with (at_builtin;go_loud (refine zyj rfl _ _ rfl w.heap.size wr.heap.size 1 _ cur nj rfl rfl Me.out Dz.out jY.out Po.out ?_);intro v' w6 hown hgrow hat;have HOWN:=hh9 hown;have bF:Hid (World.grownBy _ w6 (some cg)):=hgrow;have HAT:Hid (v'.ownBlock=some cg\/_):=hat;clear hown hgrow hat)
          have Ca:wm.heap.size<=wm.heap.size:=zbA _;have uH:(cur++[nj]).length=q+1:=by rw[zbG,Ef.out];rfl
          have hown6:=HOWN.out;rcases fB hown6 with ⟨rfl,h0⟩|⟨IE,xL,rfl⟩
          ·omega
          ·have hok:∀ y∈cur++[nj],bJ y:=fun y hy=>by
            rcases List.mem_append.1 hy with h|h
            ·exact tq.out.ok y h
            ·simp at h;subst h;exact HTJ.out
           have UK:(cur++[nj]).length+rX (lZ g) (cur++[nj])<=1000001:=zbH (zv5 UH.out HNI.out) tq.out.few;have hcg:=lD Me.out cg rfl;have hbel:Below w.heap.size w w6:=FW.out.dP.grown bF.out Po.out (fun b e=>by have:=zbB e;omega);have UL:Hid (RI w g w6 (.slice (some ⟨IE,0,none⟩) (q+1) xL) (cur++[nj])):=⟨by rw[uH]at hown6 ⊢;exact hown6,hbel,hok,UK⟩
           have FY:Hid (vG w6 (some ⟨gN,0,none⟩) ns (.slice (some ⟨IE,0,none⟩) (q+1) xL)):=CB.out.push bF.out HAT.out;have FZ:q+1<=1000001:=by omega
           refine⟨⟨j+1,q+1,IE,xL,cur++[nj],by rw[uH],by go_num,by omega,FZ,by omega,uH,sG,UL,FY⟩,?_⟩;simp[intOf];omega
      ·obtain rfl:j=nn:=by omega
       have UM:Hid (Reaches g n' (i+1) cur R):=by
        have h:=FT.out;rw[List.take_of_length_le (by rw[<- bH.out];exact zbA _)]at h;unfold Hid;rw[h];exact FR.out
       go_wp2_with fail
       go_roundw
       case rel=>exact⟨i+1,n',Lc,cg,cc,cur,rfl,by go_num,by omega,by omega,Pm,Ef,UM,tq⟩
       case measure=>simp[intOf];omega
   ·obtain rfl:i=L:=by omega
    have ay:Hid (out=R):=by
     have h:=Cz.out
     cases h with
     |done=>rfl
     |step h1=>have h2:=(zbF.1 h1).1;have:=HL.out;omega
    go_wp2_with fail
    go_ret;refine⟨_,R,rfl,.inr ⟨lq.out,nt,jq.out⟩,?_,?_,sZ.out.dP⟩
    ·rw[<- ay.out];exact sZ.out.row
    ·rw[<- ay.out];exact sZ.out.ok
end Go.Proofs.YtahibnnhjahmnaaGreatDoor
