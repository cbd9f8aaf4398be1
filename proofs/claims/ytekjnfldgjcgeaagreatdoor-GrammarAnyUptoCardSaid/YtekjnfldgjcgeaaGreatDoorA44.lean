/- Part 44 of what the laws of the grammar rest on. -/
import Derived.Test.YtekjnfldgjcgeaaGreatDoorA37
import Derived.Test.YtekjnfldgjcgeaaGreatDoorA39
import Derived.Test.YtekjnfldgjcgeaaGreatDoorA43
set_option linter.all false
set_option maxRecDepth 100000
set_option maxHeartbeats 8000000
namespace Go.Proofs.YtekjnfldgjcgeaaGreatDoor
open Go.RowKit
theorem zmd (l:List Rule):l.all rlB=true->((l.map zb9).flatten).length<=60*twl l:=by
 induction l with
 | nil=>simp
 | cons r l ih =>
  intro h
  rw [List.all_cons,Bool.and_eq_true] at h
  have h1:=ih h.2
  have h2:=h.1
  unfold rlB at h2
  rw [Bool.and_eq_true] at h2
  have h3:=zmk 50 r.expr h2.2
  have h4:r.name.length<=40:=(zf1 h2.1).1
  have h5:(zb9 r).length<=r.name.length+4+(zaf 50 r.expr).length+1:=by
   unfold zb9
   simp only [List.length_append,List.length_cons,List.length_nil]
   have:(if r.more=true then [32,61,47,32] else [32,61,32]:List Int).length<=4:=by split<;>simp
   omega
  unfold twl at h1 ⊢
  simp only [List.map_cons,List.flatten_cons,List.length_append,List.sum_cons] at h1 ⊢
  omega
def zif (l:List Rule) (w:World) (e:Ending) (w':World):Prop :=
 ∃ (v:Value) (ys:List RV) (g:List GR) (er:Int),e=.returned (.tuple #[v,.int .i64 er])/\zcm l g er/\zdg w' v ys g/\Below w.heap.size w w'
theorem zgk (W:World):zdg W (.slice none 0 0) [] []:=⟨.inl ⟨rfl,_,_,rfl⟩,rfl,fun i y r h=>by simp at h⟩
theorem zpk:(Tryz.prog.info? 39).map (fun i=>(i.zero,i.size,i.bytes))=some (some (.agg #[.string ⟨#[]⟩,.int .i64 0,.string ⟨#[]⟩,.slice none 0 0,.int .i64 0,.int .i64 0,.slice none 0 0]),7,104):=by kernel_rfl
theorem ETQ.old {w W:World} {v:Value} {X:XV} {t:Tree} (h:ETree w X t) (hb:Below w.heap.size w W) (hv:∀ b,v.ownBlock=some b->w.heap.size<=b):ETQ W (fun b=>some b≠v.ownBlock) X t :=
 (ETQ.of (P:=fun b=>b<w.heap.size) h (fun b hb=>hb)).kept ⟨hb.size,fun b hl _=>⟨hb.block b hl,fun e=>by have:=hv b e.symm;omega⟩⟩
theorem zme:∀ {ls:List Rule} {g g':List GR},zbf g ls=some g'->(∀ r∈g,0<(zbt r.expr).length)->(∀ r∈ls,0<(zbt r.expr).length)->∀ r∈g',0<(zbt r.expr).length
 | [],g,g',h,hg,_=>by
  have e:=Option.some.inj h
  subst e
  exact hg
 | l::ls,g,g',h,hg,hl=>by
  rw [zc3] at h
  cases hq:zcv g l with
  | none=>rw [hq] at h;cases h
  | some g1 =>
   rw [hq] at h
   refine zme h ?_ (fun r hr=>hl r (by simp [hr]))
   have h0:=hl l (by simp)
   unfold zcv at hq
   cases hf:zay g l.name with
   | none =>
    rw [hf] at hq
    simp only [] at hq
    split at hq
    ·cases hq
    ·have e:=Option.some.inj hq
     subst e
     intro r hr
     rcases List.mem_append.1 hr with h1 | h1
     ·exact hg r h1
     ·simp at h1
      subst h1
      exact h0
   | some i =>
    rw [hf] at hq
    simp only [] at hq
    split at hq
    ·obtain ⟨r1,h1,h2⟩:=Option.map_eq_some_iff.1 hq
     subst h2
     intro r hr
     rcases List.mem_or_eq_of_mem_set hr with h3 | h3
     ·exact hg r h3
     ·subst h3
      show 0<(zbt (zeh r1.expr l.expr)).length
      unfold zeh
      rw [zi9,if_pos rfl,List.length_append]
      omega
    ·cases hq
theorem zqo {w:World} {v:Value} {ys:List LV} {l:List Rule} (h:LinesE w v ys l) (hw:l.all rlB=false) (ht:twl l<=9000):Calls Tryz.prog 14 #[v] w (zif l w):=by
 have HT:=hh9 (zpj h (fun i hi=>by have h1:=zmd _ hi;have h2:=zj8 l i;omega))
 unfold ze1 at HT
 rw [zm3 hw] at HT
 have HJ:Hid (zcm l [] 1):=.inl ⟨hw,rfl,rfl⟩
 obtain ⟨a,c,rfl,_⟩:=h.1.slice
 clear h hw
 go_enter Tryz.func14,Tryz.ntmps14
 go_wp2_with fail
 refine HT.out.mono ?_
 rintro e w1 ⟨rfl,hb⟩
 have HB:=hh9 hb
 clear hb
 go_wp2_with fail
 refine bodyPost_ret (results_tmp2 rfl _ _ _) rfl ?_
 exact ⟨_,[],[],1,rfl,HJ.out,zgk _,HB.out⟩
structure RulesQ (W:World) (P:Nat->Prop) (v:Value) (ys:List RV) (g:List GR):Prop where
 row:RowQ W P v g.length (ys.flatMap RV.cells)
 len:ys.length=g.length
 each:∀ (i:Nat) (y:RV) (r:GR),ys[i]?=some y->g[i]?=some r->y.name=za3 r.name/\zar r.name/\ETQ W P y.expr r.expr
theorem RulesQ.rules {W:World} {P:Nat->Prop} {v:Value} {ys:List RV} {g:List GR} (h:RulesQ W P v ys g):zdg W v ys g:=⟨h.row.any,h.len,fun i y r hy hr=>⟨(h.each i y r hy hr).1,(h.each i y r hy hr).2.1,(h.each i y r hy hr).2.2.any⟩⟩
theorem RulesQ.kept {W W':World} {P P':Nat->Prop} {v:Value} {ys:List RV} {g:List GR} (h:RulesQ W P v ys g) (hk:ziq W W' P P'):RulesQ W' P' v ys g:=⟨h.row.kept hk,h.len,fun i y r hy hr=>⟨(h.each i y r hy hr).1,(h.each i y r hy hr).2.1,(h.each i y r hy hr).2.2.kept hk⟩⟩
theorem zev {W W':World} {P:Nat->Prop} (hb:Below W.heap.size W W'):ziq W W' P P:=⟨hb.size,fun b hp hl=>⟨hb.block b hl,hp⟩⟩
theorem zqp {W w':World} {v v':Value} (hg:W.grownBy w' v.ownBlock) (hat:v'.ownBlock=v.ownBlock\/v'.ownBlock=some W.heap.size):ziq W w' (fun b=>some b≠v.ownBlock) (fun b=>some b≠v'.ownBlock):=⟨hg.size,fun b hp hl=>⟨hg.block b hl hp,fun e=>by
 rcases hat with h1 | h1
 ·exact hp (e.trans h1)
 ·have:=Option.some.inj (e.trans h1)
  omega⟩⟩
theorem RowP.q {W:World} {P P':Nat->Prop} {v:Value} {n:Nat} {xs:List Value} (h:RowP W P v n xs) (hP:∀ b,zf2 W b->P' b):RowQ W P' v n xs:=by
 rcases h with h | ⟨g,off,cap,h1,h2,h3,h4,_,h5⟩
 ·exact .inl h
 ·exact .inr ⟨g,off,cap,h1,h2,h3,h4.lt,hP g h4,h5⟩
theorem ETP.q {W:World} {P P':Nat->Prop} {X:XV} {t:Tree} (h:ETP W P X t) (hP:∀ b,zf2 W b->P' b):ETQ W P' X t:=by
 induction h with
 | mk vs h0 hl h1 h2 h3 _ ih=>exact .mk vs h0 hl (h1.q hP) (h2.q hP) h3 ih
theorem RulesQ.start {W:World} {gc c base n:Nat} {vg:Value} {xs:List Value} {ys:List RV} {g:List GR} {m:Nat} (hm:m=g.length) (hX:zd0 W (.slice (some ⟨gc,0,none⟩) m c) ys g) (ho:W.ownsRow base 39 7 vg n xs) (hne:some gc≠vg.ownBlock):RulesQ W (fun b=>some b≠vg.ownBlock) (.slice (some ⟨gc,0,none⟩) m c) ys g:=by
 refine ⟨?_,hX.2.1,fun i y r hy hr=>⟨(hX.2.2 i y r hy hr).1,(hX.2.2 i y r hy hr).2.1,(hX.2.2 i y r hy hr).2.2.q fun b hb e=>?_⟩⟩
 ·rcases hX.1 with h | ⟨g1,off,cap,e,h2,h3,h4,h5⟩
  ·exact .inl h
  ·refine .inr ⟨g1,off,cap,e,h2,h3,h4,?_,h5⟩
   injection e with e
   injection e with e
   injection e with e
   subst e
   exact hne
 ·obtain ⟨cs,t,ht,hblk⟩:=hb
  have:=zdr ho e.symm hblk
  subst this
  revert ht
  unfold KT
  decide
theorem zit.start5 {W W':World} {base k size:Nat} {e:TypeId} {nv v:Value} {ns:List (List Int)} {xs:List Value} (hr:W'.ownsRow W.heap.size 9 1 nv ns.length (zbr ns)) (hv:W.ownsRow base e size v k xs):∃ a c,nv=.slice a ns.length c/\zit W' a ns v:=by
 rcases zan hr with ⟨rfl,h0⟩ | ⟨g,cap,rfl⟩
 ·exact ⟨none,0,by rw [h0],fun h=>by omega⟩
 ·obtain ⟨h1,_,_,h4⟩:=zb0 hr
  refine ⟨_,_,rfl,fun _=>⟨g,rfl,h4,fun e=>?_,fun q u hq=>by simpa using zaq hr hq⟩⟩
  obtain ⟨cur,hc⟩:=zbk hv e
  have:=(Array.getElem?_eq_some_iff.1 hc).1
  omega
theorem zqq {g g3:List GR} {ns:List (List Int)} {q:Nat} {x:List Int} (h:zbn g (ns.take q)=some g3) (hx:ns[q]?=some x):zbn g (ns.take (q+1))=addM g3 x:=by
 rw [List.take_add_one,hx,Option.toList_some,ze5,h]
 show (addM g3 x).bind (fun g'=>zbn g' [])=_
 cases addM g3 x<;>rfl
theorem zy0 {w:World}:Calls Tryz.prog 31 #[] w (fun e w'=>∃ g c ys,e=.returned (.slice (some ⟨g,0,none⟩) 16 c)/\w.heap.size<=g/\zd0 w' (.slice (some ⟨g,0,none⟩) 16 c) ys zbs/\Below w.heap.size w w') :=
 zxy.mono fun e w' ⟨v,ys,he,hX,⟨g,c,hv,hg⟩,hb⟩=>by
  have hl:zbs.length=16:=by decide +kernel
  rw [hl] at hv
  subst hv
  exact ⟨g,c,ys,he,hg,hX,hb⟩
theorem zy1 {w:World} {ops:Array Oper} {rest:List Oper} {o:Oper} {a:Act} {Q:Exit->Act->World->Prop} (hgd:o.guard=none) (sx xx:Operand)
  (ho:o.op=.call { callee:=.builtin .append,args:=#[sx,xx],argTypes:=#[29,29] }) (base g cap n:Nat) (v:Value) (ys:List RV) (y:RV) (hs:a.eval sx=v) (hx:a.eval xx=.slice (some ⟨g,0,none⟩) 1 cap)
  (h:w.ownsRow base 39 7 v n (ys.flatMap RV.cells)) (h2:w.heap[g]?=some (.cells y.arr 39 (0,0))) (h1:∀ u∈y.cells,u.oneCell'=true) (hle:n<=100000000) (hbase:base<=w.heap.size)
  (K:∀ v' w',w'.ownsRow base 39 7 v' (n+1) ((ys++[y]).flatMap RV.cells)->w.grownBy w' v.ownBlock->(v'.ownBlock=v.ownBlock\/v'.ownBlock=some w.heap.size)->wpList Tryz.prog ops Q rest (a.put o.dst v') w'):wpList Tryz.prog ops Q (o::rest) a w:=by
 obtain ⟨i0,hi0,hz0,hz1,hz2⟩:=info_parts zpk
 refine wpList_append_own_at _ hgd sx xx 29 ho base 39 i0 _ 7 104 Tryz.underlying29 hi0 hz0 hz1 hz2 rfl (by decide) v n (ys.flatMap RV.cells) hs h ⟨g,0,none⟩ 1 cap y.cells hx rfl (World.news_of_block h2) h1 (by unfold maxLen;omega) (by omega) hbase ?_
 intro v' w' hown hgrow _ hat
 have e:(ys++[y]).flatMap RV.cells=ys.flatMap RV.cells++y.cells:=by simp
 exact K v' w' (by rw [e];exact hown) hgrow hat
theorem zqr {w:World} {v:Value} {ys:List LV} {l:List Rule} (h:LinesE w v ys l) (hw:l.all rlB=true) (ht:twl l<=9000):Calls Tryz.prog 14 #[v] w (zif l w):=by
 have HT:=hh9 (zpj h (fun i hi=>by have h1:=zmd _ hi;have h2:=zj8 l i;omega))
 unfold ze1 at HT
 rw [zm2 hw] at HT
 have HH:=hh9 h
 have HW:=hh9 hw
 obtain ⟨a,n,c,rfl,hn⟩:∃ a n c,v=.slice a n c/\n=l.length:=by
  obtain ⟨a,c,h,_⟩:=h.1.slice
  exact ⟨a,_,c,h,rfl⟩
 have HN:=hh9 hn
 have hl9:=zkj l
 have hn9:n<=9000:=by omega
 have HTW:=hh9 ht
 obtain ⟨TX,hTX⟩:∃ TX,TX=za3 ((l.map zb9).flatten):=⟨_,rfl⟩
 rw [<- hTX] at HT
 clear h hw hn hTX ht hl9
 go_enter Tryz.func14,Tryz.ntmps14
 go_wp2_with fail
 refine HT.out.mono ?_
 rintro e w1 ⟨rfl,hb⟩
 have HB:=hh9 hb
 have HD0:=hh9 ((D5.start w).below hb)
 clear hb
 go_wp2_with fail
 go_loopw [6,7] (fun s v wr=>∃ (i N c:Nat) (a:Option Addr) (ys':List RV) (g':List GR),s=.slice a N c/\v=.int .i64 i/\i<=n/\N<=9000/\Hid (N=g'.length)/\Hid (zbf [] (l.take i)=some g')/\Hid (D5 w wr (.slice a N c) ys' g')) (fun _ v _=>n-(intOf v).toNat)
 case atStart=>exact ⟨0,0,0,none,[],[],rfl,rfl,by omega,by omega,rfl,rfl,HD0⟩
 case round =>
  obtain ⟨i,N,cg,ag,ys',g',rfl,rfl,hi,hN9,HNG,HTA,HD⟩:=hrel
  by_cases hlt:i<n
  ·obtain ⟨b,off,ha,hb3,hcs⟩:∃ b off,a=some ⟨b,off,none⟩/\b<w.heap.size/\∀ (j:Nat) (u:Value),(ys.flatMap LV.cells)[j]?=some u->w.cell? ⟨b,off+j,none⟩=some u:=by
    rcases HH.out.1 with ⟨h0,_⟩ | ⟨b,off,cap,h1,_,_,h3,h4⟩
    ·have:=HN.out
     omega
    ·injection h1 with h1
     exact ⟨b,off,h1,h3,h4⟩
   subst ha
   obtain ⟨Y,hY⟩:∃ y,ys[i]?=some y:=⟨_,List.getElem?_eq_getElem (by rw [HH.out.2.1,<- HN.out];exact hlt)⟩
   obtain ⟨r,hr⟩:∃ y,l[i]?=some y:=⟨_,List.getElem?_eq_getElem (by rw [<- HN.out];exact hlt)⟩
   have hLE:=HH.out.2.2 i Y r hY hr
   have hmem:=List.mem_of_getElem? hr
   have hrr:zax 50 r.expr=true:=by
    have:=List.all_eq_true.1 HW.out r hmem
    unfold rlB at this
    rw [Bool.and_eq_true] at this
    exact this.2
   have hrt:=zwp hmem
   obtain ⟨hsm,hgl⟩:=ze2 HTA.out HTW.out
   have hstep:=zip HTA.out hr
   have hgl2:∀ g2,zcv g' r=some g2->g2.length<=9000:=fun g2 h2=>(ze2 (hstep.trans h2) HTW.out).2
   have CX:∀ (W:World),Below w.heap.size w W->∀ (j:Nat) (u:Value),j<8->Y.cells[j]?=some u->W.cell? ⟨b,off+(i*8+j),none⟩=some u:=fun W hb j u hj hu =>
    (hb.cell (p:=⟨b,off+(i*8+j),none⟩) hb3).trans (hcs _ u ((zdy ys i j Y hY hj).trans hu))
   obtain ⟨hnm,hto0,hto1,hmo,hEX⟩:=hLE
   have hto:zar r.name:=⟨hto0,hto1⟩
   have hq0:=(ETQ.of (P:=fun _=>True) hEX (fun _ _=>trivial)).forms
   obtain ⟨nm,mo,XX⟩:=Y
   simp only [] at hnm hmo hEX hq0
   obtain ⟨k,tx,lo,hi2,a1,n1,c1,a2,n2,c2,rfl⟩:=hq0
   have hF:=zjp HD.out.rules hto
   rw [<- hnm] at hF
   have HF:=hh9 hF
   have f0:=CX wr HD.out.bel 0 _ (by omega) rfl
   rw [Nat.add_zero] at f0
   simp only [] at f0
   have HCX:=hh9 CX
   have HTO:=hh9 hto
   have HNM:=hh9 hnm
   have HEX:=hh9 hEX
   have HSTEP:=hh9 hstep
   have HGL2:=hh9 hgl2
   have HALT:=hh9 (zib hrr)
   have HTL:=hh9 (zj7 r.expr)
   have HRT:=hh9 (Nat.le_trans hrt HTW.out)
   have HSM:=hh9 hsm
   have q1:decide ((i:Int)<(n:Int))=true:=decide_eq_true (by omega)
   clear CX hcs hY hr hmem hstep hgl2 hrr hrt hF hnm hto hto0 hto1 hEX hsm hgl
   cases hf:zay g' r.name with
   | none =>
    rw [zey hf] at HF
    have HNF:=hh9 hf
    clear hf
    cases mo with
    | true =>
     have HFAIL:Hid (zbf [] l=none):=by
      refine zfk (i:=i+1) (HSTEP.out.trans ?_)
      unfold zcv
      rw [HNF.out]
      simp only []
      rw [if_pos hmo.symm]
     clear hmo
     go_wp2_with fail
     refine HF.out.mono ?_
     rintro e w2 ⟨rfl,hb2⟩
     have HD2:=hh9 (HD.out.below hb2)
     have f1:=HCX.out w2 HD2.out.bel 1 _ (by omega) rfl
     rw [<- Nat.add_assoc] at f1
     simp only [] at f1
     clear hb2
     go_wp2_with fail
     refine bodyPost_ret (results_tmp2 rfl _ _ _) rfl ?_
     exact ⟨_,[],[],41,rfl,.inr ⟨HW.out,.inl ⟨HFAIL.out,rfl,rfl⟩⟩,zgk _,HD2.out.bel⟩
    | false =>
     have HTM:Hid (zcv g' r=some (g'++[⟨r.name,r.expr⟩])):=by
      unfold Hid zcv
      rw [HNF.out]
      simp only []
      rw [if_neg (by rw [<- hmo];simp)]
     clear hmo
     go_wp2_with fail
     refine HF.out.mono ?_
     rintro e w2 ⟨rfl,hb2⟩
     have HD2:=hh9 (HD.out.below hb2)
     have f0:=HCX.out w2 HD2.out.bel 0 _ (by omega) rfl
     have f1:=HCX.out w2 HD2.out.bel 1 _ (by omega) rfl
     have f2:=HCX.out w2 HD2.out.bel 2 _ (by omega) rfl
     have f3:=HCX.out w2 HD2.out.bel 3 _ (by omega) rfl
     have f4:=HCX.out w2 HD2.out.bel 4 _ (by omega) rfl
     have f5:=HCX.out w2 HD2.out.bel 5 _ (by omega) rfl
     have f6:=HCX.out w2 HD2.out.bel 6 _ (by omega) rfl
     have f7:=HCX.out w2 HD2.out.bel 7 _ (by omega) rfl
     rw [<- Nat.add_assoc] at f0 f1 f2 f3 f4 f5 f6 f7
     rw [Nat.add_zero] at f0
     simp only [] at f0 f1 f2 f3 f4 f5 f6 f7
     clear hb2
     have hbd:Below w2.heap.size w2 ((w2.drew).alloc (.cells #[.string nm,.int .i64 k,.string tx,.slice a1 n1 c1,.int .i64 lo,.int .i64 hi2,.slice a2 n2 c2] 39)):=(show Below w2.heap.size w2 w2.drew from za7 (Below.refl _ _) 1).alloc (Nat.le_refl _) _
     have HDA:=hh9 (HD2.out.below hbd)
     have HROWA:Hid (((w2.drew).alloc (.cells #[.string nm,.int .i64 k,.string tx,.slice a1 n1 c1,.int .i64 lo,.int .i64 hi2,.slice a2 n2 c2] 39)).ownsRow w.heap.size 39 7 (.slice ag N cg) N (ys'.flatMap RV.cells)):=by
      have h:=HDA.out.row
      rw [<- HNG.out] at h
      exact h
     have hwb:=HD2.out.bel.size
     obtain ⟨i0,hi0,hz0,hz1,hz2⟩:=info_parts zpk
     clear hbd
     go_wp2_with fail
     go_region_law (refine step_append_lies _ (by rfl) _ _ _ (by rfl) w.heap.size 39 i0 _ 7 104 Tryz.underlying29 hi0 hz0 hz1 hz2 rfl (by omega) (.slice ag N cg) N (ys'.flatMap RV.cells) (by rfl) HROWA.out ⟨w2.heap.size,0,none⟩ 1 1 [.string nm,.int .i64 k,.string tx,.slice a1 n1 c1,.int .i64 lo,.int .i64 hi2,.slice a2 n2 c2] (by rfl) (by rfl) (zli _ _ _ _ rfl) (by intro u hu;simp at hu;rcases hu with rfl | rfl | rfl | rfl | rfl | rfl | rfl<;>rfl) (by omega) (by unfold maxLen;omega) (by omega) (by simp;omega) (w2.heap.size+1) (by simp) ?_;intro gb cap w7 hown hgrow hat hlt7;have HOWN:=hh9 hown;have HGROW:=hh9 hgrow;have HAT:=hh9 hat;clear hown hgrow hat)
     all_goals
      have hlen:(g'++[(⟨r.name,r.expr⟩:GR)]).length=N+1:=by rw [List.length_append,HNG.out];rfl
      have hown:w7.ownsRow w.heap.size 39 7 (.slice (some ⟨gb,0,none⟩) (N+1) cap) (g'++[(⟨r.name,r.expr⟩:GR)]).length ((ys'++[(⟨nm,⟨k,tx,.slice a1 n1 c1,lo,hi2,.slice a2 n2 c2⟩⟩:RV)]).flatMap RV.cells):=by
       rw [hlen]
       simpa [RV.cells] using HOWN.out
      have hsz7:((w2.drew).alloc (.cells #[.string nm,.int .i64 k,.string tx,.slice a1 n1 c1,.int .i64 lo,.int .i64 hi2,.slice a2 n2 c2] 39)).heap.size=w2.heap.size+1:=by simp
      have hD7:=HDA.out.push (v':=.slice (some ⟨gb,0,none⟩) (N+1) cap) (y:=⟨nm,⟨k,tx,.slice a1 n1 c1,lo,hi2,.slice a2 n2 c2⟩⟩) hown HGROW.out (HAT.out.elim (fun e=>.inl e.symm) (fun e=>.inr (by rw [hsz7,e];rfl))) (r:=(⟨r.name,r.expr⟩:GR)) HNM.out HTO.out (ETQ.old HEX.out HDA.out.bel (zcd HDA.out.row))
      have HD7:=hh9 hD7
      have h90:=HGL2.out _ HTM.out
      rw [hlen] at h90
      have HL7:=hh9 hlen.symm
      have HTA7:=hh9 (HSTEP.out.trans HTM.out)
      clear hD7 hown hlen hsz7
      go_wp2_with fail
      go_roundw
      case rel=>exact ⟨i+1,N+1,cap,_,_,_,rfl,by go_num,by omega,h90,HL7,HTA7,HD7⟩
      case measure=>(simp [intOf]<;>omega)
   | some kk =>
    obtain ⟨⟨r0,hr0,hrn⟩,_⟩:=zbv.1 hf
    rw [zeb hf] at HF
    have HNF:=hh9 hf
    have HR0:=hh9 hr0
    have hk9:kk<N:=by rw [HNG.out];exact (List.getElem?_eq_some_iff.1 hr0).1
    have q2:decide ((kk:Int) ≥ 0)=true:=decide_eq_true (by omega)
    have q3:decide ((kk:Int)<0)=false:=decide_eq_false (by omega)
    clear hf hr0 hrn
    cases mo with
    | false =>
     have HFAIL:Hid (zbf [] l=none):=by
      refine zfk (i:=i+1) (HSTEP.out.trans ?_)
      unfold zcv
      rw [HNF.out]
      simp only []
      rw [if_neg (by rw [<- hmo];simp)]
     clear hmo
     go_wp2_with fail
     refine HF.out.mono ?_
     rintro e w2 ⟨rfl,hb2⟩
     have HD2:=hh9 (HD.out.below hb2)
     have f1:=HCX.out w2 HD2.out.bel 1 _ (by omega) rfl
     rw [<- Nat.add_assoc] at f1
     simp only [] at f1
     clear hb2
     go_wp2_with fail
     refine bodyPost_ret (results_tmp2 rfl _ _ _) rfl ?_
     exact ⟨_,[],[],41,rfl,.inr ⟨HW.out,.inl ⟨HFAIL.out,rfl,rfl⟩⟩,zgk _,HD2.out.bel⟩
    | true =>
     have hTM:zcv g' r=some (g'.set kk ⟨r0.name,zeh r0.expr r.expr⟩):=by
      unfold zcv
      rw [HNF.out]
      simp only []
      rw [if_pos hmo.symm,HR0.out]
      rfl
     have HTM:=hh9 hTM
     clear hmo hTM
     go_wp2_with fail
     refine HF.out.mono ?_
     rintro e w2 ⟨rfl,hb2⟩
     have HD2:=hh9 (HD.out.below hb2)
     have f1:=HCX.out w2 HD2.out.bel 1 _ (by omega) rfl
     have f2:=HCX.out w2 HD2.out.bel 2 _ (by omega) rfl
     have f3:=HCX.out w2 HD2.out.bel 3 _ (by omega) rfl
     have f4:=HCX.out w2 HD2.out.bel 4 _ (by omega) rfl
     have f5:=HCX.out w2 HD2.out.bel 5 _ (by omega) rfl
     have f6:=HCX.out w2 HD2.out.bel 6 _ (by omega) rfl
     have f7:=HCX.out w2 HD2.out.bel 7 _ (by omega) rfl
     rw [<- Nat.add_assoc] at f1 f2 f3 f4 f5 f6 f7
     simp only [] at f1 f2 f3 f4 f5 f6 f7
     obtain ⟨Z,hZ⟩:∃ y,ys'[kk]?=some y:=⟨_,List.getElem?_eq_getElem (by rw [HD2.out.len,<- HNG.out];exact hk9)⟩
     obtain ⟨gr,hag⟩:∃ gr,ag=some ⟨gr,0,none⟩:=by
      rcases zan HD2.out.row with ⟨h0,_⟩ | ⟨g1,c1,h1⟩
      ·injection h0 with _ h0
       omega
      ·injection h1 with h1
       exact ⟨g1,h1⟩
     subst hag
     obtain ⟨hzn,hzt,hzE⟩:=HD2.out.each kk Z r0 hZ HR0.out
     obtain ⟨zk,ztx,zlo,zhi,za1,zn1,zc1,za2,zn2,zc2,hZX⟩:=hzE.forms
     obtain ⟨znm,ZX⟩:=Z
     simp only [] at hZX hzE hzn
     subst hZX
     have hrow2:w2.ownsRow w.heap.size 39 7 (.slice (some ⟨gr,0,none⟩) N cg) N (ys'.flatMap RV.cells):=by
      have h:=HD2.out.row
      rw [<- HNG.out] at h
      exact h
     have GX:∀ (j:Nat) (u:Value),j<7->(RV.cells ⟨znm,⟨zk,ztx,.slice za1 zn1 zc1,zlo,zhi,.slice za2 zn2 zc2⟩⟩)[j]?=some u->w2.cell? ⟨gr,kk*7+j,none⟩=some u:=fun j u hj hu=>zaq hrow2 ((zct ys' kk j _ hZ hj).trans hu)
     have hgr2:=(zb0 hrow2).2.2.2
     have y1:=GX 1 _ (by omega) rfl
     have y2:=GX 2 _ (by omega) rfl
     have y3:=GX 3 _ (by omega) rfl
     have y4:=GX 4 _ (by omega) rfl
     have y5:=GX 5 _ (by omega) rfl
     have y6:=GX 6 _ (by omega) rfl
     have hbd:Below w2.heap.size w2 w2.drew:=za7 (Below.refl _ _) 1
     have hEL:ETQ w2.drew (fun b=>some b≠(Value.slice (some ⟨gr,0,none⟩) N cg).ownBlock) ⟨k,tx,.slice a1 n1 c1,lo,hi2,.slice a2 n2 c2⟩ r.expr:=ETQ.old HEX.out (za0 HD2.out.bel hbd) (zcd HD2.out.row)
     have hEZ:ETQ w2.drew (fun b=>some b≠(Value.slice (some ⟨gr,0,none⟩) N cg).ownBlock) ⟨zk,ztx,.slice za1 zn1 zc1,zlo,zhi,.slice za2 zn2 zc2⟩ r0.expr:=hzE.kept ⟨hbd.size,fun b hp hl=>⟨hbd.block b hl,hp⟩⟩
     have hap:0<(zbt r0.expr).length:=zme HTA.out (fun r h=>by cases h) (fun r h=>by
      have:=List.all_eq_true.1 HW.out r (List.mem_of_mem_take h)
      unfold rlB at this
      rw [Bool.and_eq_true] at this
      exact zib this.2) r0 (List.mem_of_getElem? HR0.out)
     obtain ⟨vsZ,hlZ,heZ,hcZ⟩:=hEZ.alts hap
     obtain ⟨vsL,hlL,heL,hcL⟩:=hEL.alts HALT.out
     have hCALL:=zwe (w:=w2.drew) (k1:=zk) (l1:=zlo) (h1:=zhi) (k2:=k) (l2:=lo) (h2:=hi2) (t1:=ztx) (t2:=tx) (a1:=za1) (a2:=a1) (b1:=za2) (b2:=a2) (m1:=zn1) (m2:=n1) (d1:=zc1) (d2:=c1) (n1:=zn2) (n2:=n2) (e1:=zc2) (e2:=c2) (vs1:=vsZ) (vs2:=vsL) (by omega) (by rw [hlL];exact HALT.out) hcZ hcL (zxz hlZ heZ) (zxz hlL heL) (by
      have h1:=HTL.out
      have h2:=HRT.out
      have h3:=zj7 r0.expr
      have h4:=HSM.out r0 (List.mem_of_getElem? HR0.out)
      omega)
     have HCALL:=hh9 hCALL
     have HHZ:=hh9 hZ
     have HROW2:=hh9 hrow2
     have HGX:=hh9 GX
     have HMERGE:=hh9 (fun (w3:World) (va:Value) (hb3:Below w2.drew.heap.size w2.drew w3) (ho:w3.ownsRow w2.drew.heap.size 35 6 va (vsZ++vsL).length ((vsZ++vsL).flatMap XV.cells))=>ETQ.merged (n:=0) (P:=fun b=>some b≠some gr) (W:=w2.drew) (base:=w2.drew.heap.size) (fun b hb e=>by have h1:=Option.some.inj e;have h2:w2.drew.heap.size=w2.heap.size:=rfl;omega) hlZ hlL ⟨hb3.size,fun b hp hl=>⟨hb3.block b hl,hp⟩⟩ heZ heL ho)
     have HFR:=hh9 (zcy hrow2)
     have HHD:=hh9 hgr2
     have q5:decide ((kk:Int)<(N:Int))=true:=decide_eq_true (by omega)
     clear hZ hrow2 GX hzn hzt hzE hbd hEL hEZ hap hlZ heZ hcZ hlL heL hcL hCALL hgr2
     go_wp2_with fail
     go_region_law (first
      | ((try go_simp);go_at_call 30;(with_reducible (refine HCALL.out.mono ?_));rintro e w3 ⟨ja,jn,jc,rfl,hj,hb3⟩;have HB3:=hh9 hb3;have HJ:=hh9 hj;have HJX:=hh9 (HMERGE.out _ _ hb3 hj);have hkb:=(show Below w2.heap.size w2 w3 from (show Below w2.heap.size w2 w2.drew from za7 (Below.refl _ _) 1).trans hb3);have x1:=(hkb.cell (p:=⟨gr,kk*7+1,none⟩) HHD.out).trans (HGX.out 1 _ (by omega) rfl);have x2:=(hkb.cell (p:=⟨gr,kk*7+2,none⟩) HHD.out).trans (HGX.out 2 _ (by omega) rfl);have x3:=(hkb.cell (p:=⟨gr,kk*7+3,none⟩) HHD.out).trans (HGX.out 3 _ (by omega) rfl);have x4:=(hkb.cell (p:=⟨gr,kk*7+4,none⟩) HHD.out).trans (HGX.out 4 _ (by omega) rfl);have x5:=(hkb.cell (p:=⟨gr,kk*7+5,none⟩) HHD.out).trans (HGX.out 5 _ (by omega) rfl);have x6:=(hkb.cell (p:=⟨gr,kk*7+6,none⟩) HHD.out).trans (HGX.out 6 _ (by omega) rfl);have z1:=(hkb.frozen (p:=⟨gr,kk*7+1,none⟩) HHD.out).trans (HFR.out (kk*7+1));have z2:=(hkb.frozen (p:=⟨gr,kk*7+2,none⟩) HHD.out).trans (HFR.out (kk*7+2));have z3:=(hkb.frozen (p:=⟨gr,kk*7+3,none⟩) HHD.out).trans (HFR.out (kk*7+3));have z4:=(hkb.frozen (p:=⟨gr,kk*7+4,none⟩) HHD.out).trans (HFR.out (kk*7+4));have z5:=(hkb.frozen (p:=⟨gr,kk*7+5,none⟩) HHD.out).trans (HFR.out (kk*7+5));have z6:=(hkb.frozen (p:=⟨gr,kk*7+6,none⟩) HHD.out).trans (HFR.out (kk*7+6));have HKB:=hh9 hkb;clear hb3 hj hkb)
      | fail)
     all_goals
      have hD3:=(HD2.out.below HKB.out).store (i:=kk) HNG.out HHZ.out HR0.out HJX.out
      unfold set6 at hD3
      simp only [] at hD3
      have HD3:=hh9 hD3
      have HL3:Hid (N=(g'.set kk ⟨r0.name,zeh r0.expr r.expr⟩).length):=by unfold Hid;rw [List.length_set];exact HNG.out
      have HTA3:=hh9 (HSTEP.out.trans HTM.out)
      clear hD3 x1 x2 x3 x4 x5 x6 z1 z2 z3 z4 z5 z6
      go_wp2_with fail
      go_roundw
      case rel=>exact ⟨i+1,N,cg,_,_,_,rfl,by go_num,by omega,hN9,HL3,HTA3,HD3⟩
      case measure=>(simp [intOf]<;>omega)
  ·obtain rfl:i=n:=by omega
   have HALL:Hid (zbf [] l=some g'):=by
    have h:=HTA.out
    rwa [List.take_of_length_le (by rw [<- HN.out];exact Nat.le_refl _)] at h
   obtain ⟨hsm,hgl⟩:=ze2 HTA.out HTW.out
   obtain ⟨nt,R,hC⟩:=Compl.is (g'.length+zce g') 0 g' (by omega)
   have HC:=hh9 hC
   have HSML:Hid (∀ r∈g',(zai r.expr).length<=1000000):=fun r hr=>(hsm r hr).2.2
   have HBND:Hid (g'.length+zce g'<=9016):=by unfold Hid;have:=zic g';omega
   clear hC hsm hgl
   go_wp2_with fail
   refine zy0.mono ?_
   rintro e w2 ⟨gc,cc,yc,rfl,hge,hX,hb2⟩
   have hDD:=HD.out.below hb2
   have hQ:=RulesQ.start (by decide +kernel) hX hDD.row (fun e=>by
    obtain ⟨cur,hcur⟩:=zbk HD.out.row e.symm
    have:=(Array.getElem?_eq_some_iff.1 hcur).1
    omega)
   have HQ:=hh9 hQ
   have HDD:=hh9 hDD
   clear hge hX hb2 hDD hQ
   go_wp2_with fail
   go_loopw [6,10] (fun s v wr=>∃ (p m N cg:Nat) (ag:Option Addr) (ys2:List RV) (g2:List GR),s=.slice ag N cg/\v=.int .i64 p/\m+p=nt/\p<=N/\N<=9016/\Hid (N=g2.length)/\Hid (Compl m p g2 R)/\Hid (D5 w wr (.slice ag N cg) ys2 g2)/\Hid (RulesQ wr (fun b=>some b≠(Value.slice ag N cg).ownBlock) (.slice (some ⟨gc,0,none⟩) 16 cc) yc zbs)/\Hid (∀ r∈g2,(zai r.expr).length<=1000000)/\Hid (g2.length+zce g2<=9016)) (fun _ v _=>nt+1-(intOf v).toNat)
   case atStart=>exact ⟨0,nt,N,cg,ag,ys',g',rfl,rfl,by omega,by omega,by omega,HNG,HC,HDD,HQ,HSML,HBND⟩
   case round =>
    obtain ⟨p,m,N2,cg2,ag2,ys2,g2,rfl,rfl,hmp,hp,hN2,HNG2,HC2,HD2,HQ2,HSM2,HBN2⟩:=hrel
    by_cases hlp:p<N2
    ·obtain ⟨r,hr⟩:∃ y,g2[p]?=some y:=⟨_,List.getElem?_eq_getElem (by rw [<- HNG2.out];exact hlp)⟩
     obtain ⟨Z,hZ⟩:∃ y,ys2[p]?=some y:=⟨_,List.getElem?_eq_getElem (by rw [HD2.out.len,<- HNG2.out];exact hlp)⟩
     obtain ⟨gr,hag⟩:∃ gr,ag2=some ⟨gr,0,none⟩:=by
      rcases zan HD2.out.row with ⟨h0,_⟩ | ⟨g1,c1,h1⟩
      ·injection h0 with _ h0
       omega
      ·injection h1 with h1
       exact ⟨g1,h1⟩
     subst hag
     obtain ⟨hzn,hzt,hzE⟩:=HD2.out.each p Z r hZ hr
     obtain ⟨zk,ztx,zlo,zhi,za1,zn1,zc1,za2,zn2,zc2,hZX⟩:=hzE.forms
     obtain ⟨znm,ZX⟩:=Z
     simp only [] at hZX hzE hzn
     subst hZX
     have hrow2:wr.ownsRow w.heap.size 39 7 (.slice (some ⟨gr,0,none⟩) N2 cg2) N2 (ys2.flatMap RV.cells):=by
      have h:=HD2.out.row
      rw [<- HNG2.out] at h
      exact h
     have GX:∀ (j:Nat) (u:Value),j<7->(RV.cells ⟨znm,⟨zk,ztx,.slice za1 zn1 zc1,zlo,zhi,.slice za2 zn2 zc2⟩⟩)[j]?=some u->wr.cell? ⟨gr,p*7+j,none⟩=some u:=fun j u hj hu=>zaq hrow2 ((zct ys2 p j _ hZ hj).trans hu)
     have y1:=GX 1 _ (by omega) rfl
     have y2:=GX 2 _ (by omega) rfl
     have y3:=GX 3 _ (by omega) rfl
     have y4:=GX 4 _ (by omega) rfl
     have y5:=GX 5 _ (by omega) rfl
     have y6:=GX 6 _ (by omega) rfl
     obtain ⟨ns,hns⟩:∃ ns,ns=zai r.expr:=⟨_,rfl⟩
     have hLN:ns.length<=1000000:=by rw [hns];exact HSM2.out r (List.mem_of_getElem? hr)
     have HTN:Hid (∀ y∈ns,zar y):=by rw [hns];exact hzE.any.named
     have HCAT:=hh9 (HC2.out.at hr)
     rw [<- hns] at HCAT
     have hCALL:=qbt _ wr ⟨zk,ztx,.slice za1 zn1 zc1,zlo,zhi,.slice za2 zn2 zc2⟩ r.expr hzE.any (Nat.le_refl _) (by rw [<- hns];omega)
     rw [<- hns] at hCALL
     unfold XV.val at hCALL
     simp only [] at hCALL
     have HCALL:=hh9 hCALL
     have q1:decide ((p:Int)<(N2:Int))=true:=decide_eq_true (by omega)
     clear hr hZ hzn hzt hzE hrow2 GX hns hCALL
     go_wp2_with fail
     refine HCALL.out.mono ?_
     rintro e w3 ⟨nv,rfl,hnv,hb3⟩
     obtain ⟨na,nc,rfl,hnk⟩:=zit.start5 hnv HD2.out.row
     have HNK:=hh9 hnk
     have HD3:=hh9 (HD2.out.below hb3)
     have HQ3:=hh9 (HQ2.out.kept (zev hb3))
     obtain ⟨nn,hnn⟩:∃ nn,nn=ns.length:=⟨_,rfl⟩
     rw [<- hnn] at hLN ⊢
     have HNN:=hh9 hnn
     clear hnv hb3 hnk hnn
     obtain ⟨wo,hwo⟩:∃ y:World,y=wr:=⟨_,rfl⟩
     subst hwo
     go_wp2_with fail
     go_loopw [6,12] (fun s v wr=>∃ (q N3 c3:Nat) (a3:Option Addr) (ys3:List RV) (g3:List GR),s=.slice a3 N3 c3/\v=.int .i64 q/\q<=nn/\p+1<=N3/\N3<=9016/\Hid (N3=g3.length)/\Hid (zbn g2 (ns.take q)=some g3)/\Hid (D5 w wr (.slice a3 N3 c3) ys3 g3)/\Hid (RulesQ wr (fun b=>some b≠(Value.slice a3 N3 c3).ownBlock) (.slice (some ⟨gc,0,none⟩) 16 cc) yc zbs)/\Hid (zit wr na ns (.slice a3 N3 c3))/\Hid (∀ r∈g3,(zai r.expr).length<=1000000)/\Hid (g3.length+zce g3<=9016)) (fun _ v _=>nn-(intOf v).toNat)
     case atStart=>exact ⟨0,N2,cg2,_,ys2,g2,rfl,rfl,by omega,by omega,hN2,HNG2,rfl,HD3,HQ3,HNK,HSM2,HBN2⟩
     case round =>
      obtain ⟨q,N3,c3,a3,ys3,g3,rfl,rfl,hq,hpN,hN3,HNG3,HAA,HD4,HQ4,HNK4,HSM4,HBN4⟩:=hrel
      by_cases hlq:q<nn
      ·obtain ⟨x,hx⟩:∃ y,ns[q]?=some y:=⟨_,List.getElem?_eq_getElem (by rw [<- HNN.out];exact hlq)⟩
       obtain ⟨gN,rfl,hgN,hneN,hcN⟩:=HNK4.out (by rw [<- HNN.out];omega)
       have f0:wr.cell? ⟨gN,q,none⟩=some (.string (za3 x)):=hcN q _ (by unfold zbr;rw [List.getElem?_map,hx];rfl)
       have htx:=HTN.out x (List.mem_of_getElem? hx)
       have hF1:=zjp HQ4.out.rules htx
       have hstep:=zqq HAA.out hx
       have hpre:zbn g2 (ns.take (q+1))=none->zbn g2 ns=none:=fun h=>zhb (List.take_prefix _ _) h
       have hL16:zbs.length=16:=by decide +kernel
       obtain ⟨Sx,hSx⟩:∃ Sx,Sx=za3 x:=⟨_,rfl⟩
       have HF2:=hh9 (fun (W:World) (hb:Below wr.heap.size wr W)=>(by rw [hSx];exact zjp (HD4.out.below hb).rules htx:Calls Tryz.prog 29 #[.slice a3 N3 c3,.string Sx] W (zyx (zh0 g3 x) W)))
       rw [<- hSx] at f0 hF1
       have HF1:=hh9 hF1
       have HF0:=hh9 f0
       have HST:=hh9 hstep
       have HPRE:=hh9 hpre
       have HGN:=hh9 hgN
       have q2:decide ((q:Int)<(nn:Int))=true:=decide_eq_true (by omega)
       clear hx htx hcN hneN hF1 hstep hpre hSx hgN hL16
       obtain ⟨wm,hwm⟩:∃ y:World,y=wr:=⟨_,rfl⟩
       subst hwm
       go_wp2_with fail
       refine HF1.out.mono ?_
       rintro e w4 ⟨rfl,hb4⟩
       have g0:=(hb4.cell (p:=⟨gN,q,none⟩) HGN.out).trans HF0.out
       have HB4:=hh9 hb4
       obtain ⟨ci,hci⟩:∃ ci,ci=zh0 zbs x:=⟨_,rfl⟩
       rw [<- hci]
       have HCI:=hh9 hci
       clear hb4 hci
       go_wp2_with fail
       refine (HF2.out w4 HB4.out).mono ?_
       rintro e w5 ⟨rfl,hb5⟩
       have hbb:=za0 HB4.out hb5
       have HD5:=hh9 (HD4.out.below hbb)
       have HQ5:=hh9 (HQ4.out.kept (zev hbb))
       have HNK5:=hh9 (HNK4.out.below hbb)
       clear hb5 hbb
       cases hf:zay g3 x with
       | some j =>
        rw [zeb hf]
        have HAA5:Hid (zbn g2 (ns.take (q+1))=some g3):=by
         unfold Hid
         rw [HST.out]
         unfold addM
         rw [hf]
        have q3:decide ((j:Int) ≥ 0)=true:=decide_eq_true (by omega)
        clear hf
        go_wp2_with fail
        go_roundw
        case rel=>exact ⟨q+1,N3,c3,a3,ys3,g3,rfl,by go_num,by omega,hpN,hN3,HNG3,HAA5,HD5,HQ5,HNK5,HSM4,HBN4⟩
        case measure=>(simp [intOf]<;>omega)
       | none =>
        rw [zey hf]
        cases hc:zay zbs x with
        | none =>
         have hci:ci=-1:=by rw [HCI.out,zey hc]
         subst hci
         have HNO:Hid (zbn g2 ns=none):=HPRE.out (by
          rw [HST.out]
          unfold addM
          rw [hf]
          simp only []
          rw [hc])
         have HRN:Hid (R=none):=by
          rcases HCAT.out with ⟨_,h⟩ | ⟨_,_,_,h,_⟩
          ·exact h
          ·rw [HNO.out] at h
           cases h
         clear hf hc
         go_wp2_with fail
         refine bodyPost_ret (results_tmp2 rfl _ _ _) rfl ?_
         exact ⟨_,[],[],40,rfl,.inr ⟨HW.out,.inr ⟨g',nt,R,HALL.out,HC.out,.inl ⟨HRN.out,rfl,rfl⟩⟩⟩,zgk _,HD5.out.bel⟩
        | some cx =>
         have hci:ci=(cx:Int):=by rw [HCI.out,zeb hc]
         subst hci
         obtain ⟨⟨rc,hrc,hrcn⟩,_⟩:=zbv.1 hc
         have hc16:cx<16:=by
          have h:=(List.getElem?_eq_some_iff.1 hrc).1
          rwa [show zbs.length=16 by decide +kernel] at h
         have hAM:addM g3 x=some (g3++[rc]):=by
          unfold addM
          rw [hf]
          simp only []
          rw [hc]
          simp only []
          rw [hrc]
          rfl
         have HAA5:=hh9 (HST.out.trans hAM)
         have HBN5:=hh9 (Nat.le_trans (zl5 hAM).1 HBN4.out)
         have HSM5:Hid (∀ r∈g3++[rc],(zai r.expr).length<=1000000):=fun r hr=>by
          rcases List.mem_append.1 hr with h | h
          ·exact HSM4.out r h
          ·simp at h
           subst h
           exact (zi7 cx _ hrc).2
         obtain ⟨Zc,hZc⟩:∃ y,yc[cx]?=some y:=⟨_,List.getElem?_eq_getElem (by rw [HQ5.out.len];exact (List.getElem?_eq_some_iff.1 hrc).1)⟩
         obtain ⟨czn,czt,czE⟩:=HQ5.out.each cx Zc rc hZc hrc
         obtain ⟨ck,ctx,clo,chi,ca1,cn1,cc1,ca2,cn2,cc2,hCX⟩:=czE.forms
         obtain ⟨cnm,CXV⟩:=Zc
         simp only [] at hCX czE czn
         subst hCX
         have hCC:∀ (j:Nat) (u:Value),j<7->(RV.cells ⟨cnm,⟨ck,ctx,.slice ca1 cn1 cc1,clo,chi,.slice ca2 cn2 cc2⟩⟩)[j]?=some u->w5.cell? ⟨gc,cx*7+j,none⟩=some u:=fun j u hj hu=>by
          rcases HQ5.out.row with ⟨h0,_⟩ | ⟨g1,off,cap,e,_,_,_,_,h5⟩
          ·rw [show zbs.length=16 by decide +kernel] at h0
           omega
          ·injection e with e
           injection e with e
           injection e with e e2
           subst e e2
           have:=h5 _ u ((zct yc cx j _ hZc hj).trans hu)
           rwa [Nat.zero_add] at this
         have k0:=hCC 0 _ (by omega) rfl
         have k1:=hCC 1 _ (by omega) rfl
         have k2:=hCC 2 _ (by omega) rfl
         have k3:=hCC 3 _ (by omega) rfl
         have k4:=hCC 4 _ (by omega) rfl
         have k5:=hCC 5 _ (by omega) rfl
         have k6:=hCC 6 _ (by omega) rfl
         rw [Nat.add_zero] at k0
         have hba:Below w5.heap.size w5 (w5.alloc (.cells #[.string cnm,.int .i64 ck,.string ctx,.slice ca1 cn1 cc1,.int .i64 clo,.int .i64 chi,.slice ca2 cn2 cc2] 39)):=(Below.refl _ _).alloc (Nat.le_refl _) _
         have HD6:=hh9 (HD5.out.below hba)
         have HQ6:=hh9 (HQ5.out.kept (zev hba))
         have HNK6:=hh9 (HNK5.out.below hba)
         have HCE:=hh9 (czE.kept (zev hba))
         have HCN:=hh9 czn
         have HCT:=hh9 czt
         have HRW6:Hid ((w5.alloc (.cells #[.string cnm,.int .i64 ck,.string ctx,.slice ca1 cn1 cc1,.int .i64 clo,.int .i64 chi,.slice ca2 cn2 cc2] 39)).ownsRow w.heap.size 39 7 (.slice a3 N3 c3) N3 (ys3.flatMap RV.cells)):=by
          have h:=HD6.out.row
          rw [<- HNG3.out] at h
          exact h
         have HNB:Hid ((w5.alloc (.cells #[.string cnm,.int .i64 ck,.string ctx,.slice ca1 cn1 cc1,.int .i64 clo,.int .i64 chi,.slice ca2 cn2 cc2] 39)).heap[w5.heap.size]?=some (.cells (RV.arr ⟨cnm,⟨ck,ctx,.slice ca1 cn1 cc1,clo,chi,.slice ca2 cn2 cc2⟩⟩) 39 (0,0))):=heap_alloc_new w5 _
         have HONE:Hid (∀ u∈RV.cells ⟨cnm,⟨ck,ctx,.slice ca1 cn1 cc1,clo,chi,.slice ca2 cn2 cc2⟩⟩,u.oneCell'=true):=fun u hu=>by
          simp [RV.cells] at hu
          rcases hu with rfl | rfl | rfl | rfl | rfl | rfl | rfl<;>rfl
         have HBS:=hh9 HD6.out.bel.size
         have HL3:Hid (N3<=100000000):=by unfold Hid;omega
         have q4:decide ((cx:Int)<0)=false:=decide_eq_false (by omega)
         have q5:decide ((cx:Int)<16)=true:=decide_eq_true (by omega)
         clear hf hc hrc hrcn hAM hZc czn czt czE hCC hba
         go_wp2_with (at_builtin;go_loud (refine zy1 rfl _ _ rfl w.heap.size w5.heap.size 1 N3 _ ys3 ⟨cnm,⟨ck,ctx,.slice ca1 cn1 cc1,clo,chi,.slice ca2 cn2 cc2⟩⟩ rfl rfl HRW6.out HNB.out HONE.out HL3.out HBS.out ?_);intro v' w7 hown hgrow hat;have HOWN:=hh9 hown;have HGROW:Hid (World.grownBy _ w7 (Value.slice a3 N3 c3).ownBlock):=hgrow;have HAT:Hid (v'.ownBlock=(Value.slice a3 N3 c3).ownBlock\/_):=hat;clear hown hgrow hat)
         have hlen:(g3++[rc]).length=N3+1:=by rw [List.length_append,HNG3.out];rfl
         have hown:=HOWN.out
         rcases zan hown with ⟨_,h0⟩ | ⟨gb,cap,hv'⟩
         ·omega
         ·subst hv'
          have hown2:w7.ownsRow w.heap.size 39 7 (.slice (some ⟨gb,0,none⟩) (N3+1) cap) (g3++[rc]).length ((ys3++[(⟨cnm,⟨ck,ctx,.slice ca1 cn1 cc1,clo,chi,.slice ca2 cn2 cc2⟩⟩:RV)]).flatMap RV.cells):=by
           rw [hlen]
           exact hown
          have hD7:=HD6.out.push (v':=.slice (some ⟨gb,0,none⟩) (N3+1) cap) (y:=⟨cnm,⟨ck,ctx,.slice ca1 cn1 cc1,clo,chi,.slice ca2 cn2 cc2⟩⟩) hown2 HGROW.out HAT.out HCN.out HCT.out HCE.out
          have hQ7:=HQ6.out.kept (zqp HGROW.out HAT.out)
          have hN7:=HNK6.out.push HGROW.out HAT.out
          have h90:N3+1<=9016:=by
           have h:=HBN5.out
           rw [hlen] at h
           omega
          refine ⟨⟨q+1,N3+1,cap,_,_,g3++[rc],rfl,by go_num,by omega,by omega,h90,hlen.symm,HAA5,hD7,hQ7,hN7,HSM5,HBN5⟩,?_⟩
          simp [intOf]
          omega
      ·obtain rfl:q=nn:=by omega
       have HC3:Hid (∃ m',m=m'+1/\Compl m' (p+1) g3 R):=by
        have h:=HAA.out
        rw [List.take_of_length_le (by rw [<- HNN.out];exact Nat.le_refl _)] at h
        rcases HCAT.out with ⟨h1,_⟩ | ⟨m',g4,h1,h2,h3⟩
        ·rw [h1] at h
         cases h
        ·rw [h2] at h
         have e:=Option.some.inj h
         subst e
         exact ⟨m',h1,h3⟩
       obtain ⟨m',hm',hC3⟩:=HC3.out
       subst hm'
       have HC4:=hh9 hC3
       clear hC3
       go_wp2_with fail
       go_roundw
       case rel=>exact ⟨p+1,m',N3,c3,a3,ys3,g3,rfl,by go_num,by omega,hpN,hN3,HNG3,HC4,HD4,HQ4,HSM4,HBN4⟩
       case measure=>(simp [intOf]<;>omega)
    ·obtain rfl:p=N2:=by omega
     have HFIN:Hid (R=some g2):=by
      have h:=HC2.out
      cases h with
      | done=>rfl
      | fail h1=>have h2:=(List.getElem?_eq_some_iff.1 h1).1;have:=HNG2.out;omega
      | step h1=>have h2:=(List.getElem?_eq_some_iff.1 h1).1;have:=HNG2.out;omega
     go_wp2_with fail
     refine bodyPost_ret (results_tmp2 rfl _ _ _) rfl ?_
     exact ⟨_,ys2,g2,0,rfl,.inr ⟨HW.out,.inr ⟨g',nt,R,HALL.out,HC.out,.inr ⟨HFIN.out,rfl⟩⟩⟩,HD2.out.rules,HD2.out.bel⟩
theorem zqs {w:World} {v:Value} {ys:List LV} {l:List Rule} (h:LinesE w v ys l) (ht:twl l<=9000):Calls Tryz.prog 14 #[v] w (zif l w):=by
 cases hw:l.all rlB with
 | true=>exact zqr h hw ht
 | false=>exact zqo h hw ht
end Go.Proofs.YtekjnfldgjcgeaaGreatDoor
