/- Part 19 of what the laws of the grammar rest on. -/
import Derived.Test.YtekjnfldgjcgeaaGreatDoorA9
import Derived.Test.YtekjnfldgjcgeaaGreatDoorA12
import Derived.Test.YtekjnfldgjcgeaaGreatDoorA14
import Derived.Test.YtekjnfldgjcgeaaGreatDoorA18
import Derived.RangeFuncLeaves
import Derived.RangeFuncRecord
set_option linter.all false
set_option maxRecDepth 100000
set_option maxHeartbeats 8000000
namespace Go.Proofs.YtekjnfldgjcgeaaGreatDoor
open Go.RowKit
def okF:Nat->Tree->Bool
 | 0,_=>false
 | d+1,.mk _ x _ _ _ kids=>x.all (fun c=>decide (0<=c)&&decide (c<=255))&&decide (x.length<=1000)&&kids.all (okF d)
theorem zei.p {W:World} {P:Nat->Prop} {v:Value} {n:Nat} {xs:List Value} (h:zei W P v n xs):RowP W P v n xs:=by
 rcases h with ⟨rfl,rfl⟩ | ⟨g,cap,rfl,hc,hm,hP,hg,hb,h⟩
 ·exact .inl ⟨rfl,_,_,rfl⟩
 ·obtain ⟨c,t,ht,hb⟩:=hb
  refine .inr ⟨g,0,cap,rfl,hc,hm,⟨c,t,?_,hb⟩,hP,fun j u hj=>by rw [Nat.zero_add];exact h j u hj⟩
  rcases ht with rfl | rfl | rfl
  ·exact .inl rfl
  ·exact .inr (.inl rfl)
  ·exact .inr (.inr (.inr rfl))
theorem TreeAt.etp {W:World} {P:Nat->Prop} {X:XV} {t:Tree} (h:TreeAt W P X t):∀ (d:Nat),okF d t=true->ETP W P X t:=by
 induction h with
 | mk vs h1 h2 h3 _ ih =>
  intro d ho
  cases d with
  | zero=>cases ho
  | succ d =>
  unfold okF at ho
  simp only [Bool.and_eq_true,List.all_eq_true,decide_eq_true_eq] at ho
  obtain ⟨⟨o1,o2⟩,o3⟩:=ho
  exact .mk vs o1 (by omega) h1.p h2.p h3 (fun i y t hy ht=>ih i y t hy ht d (o3 t (List.mem_of_getElem? ht)))
def zg2 (W:World) (base:Nat) (v:Value) (ys:List RV) (g:List GR):Prop :=
 W.ownsRow base 39 7 v g.length (ys.flatMap RV.cells)/\ys.length=g.length/\∀ (i:Nat) (y:RV) (r:GR),ys[i]?=some y->g[i]?=some r->y.name=za3 r.name/\zar r.name/\ETP W (fun b=>base<=b) y.expr r.expr
theorem zg2.below {W W':World} {base:Nat} {v:Value} {ys:List RV} {g:List GR} (h:zg2 W base v ys g) (hb:Below W.heap.size W W'):zg2 W' base v ys g :=
 ⟨zb3 h.1 hb,h.2.1,fun i y r hy hr=>⟨(h.2.2 i y r hy hr).1,(h.2.2 i y r hy hr).2.1,(h.2.2 i y r hy hr).2.2.kept (M:=fun _=>False) (zap.below hb) (fun b hb _=>⟨id,hb⟩)⟩⟩
theorem zg2.rules {W:World} {base:Nat} {v:Value} {ys:List RV} {g:List GR} (h:zg2 W base v ys g):zdg W v ys g:=by
 refine ⟨?_,h.2.1,fun i y r hy hr=>⟨(h.2.2 i y r hy hr).1,(h.2.2 i y r hy hr).2.1,(h.2.2 i y r hy hr).2.2.any⟩⟩
 rcases zan h.1 with ⟨rfl,h0⟩ | ⟨b,cap,rfl⟩
 ·exact .inl ⟨h0,_,_,rfl⟩
 ·obtain ⟨h1,h2,h3,h4⟩:=zb0 h.1
  exact .inr ⟨b,0,cap,rfl,h2,h3,h4,fun j u hj=>by rw [Nat.zero_add];exact zaq h.1 hj⟩
theorem zw6 {w:World} {s:ByteArray} (hs:s=za3 zvv):Calls Tryz.prog 68 #[.string s] w (fun e w'=>∃ v,e=.returned (.tuple #[v,.int .i64 0])/\zb4 w' w.heap.size v zi1/\Below w.heap.size w w'):=by
 refine (zzg s w (by rw [hs,za9];exact Nat.le_trans zoa (by unfold maxLen;omega))).mono ?_
 rintro e w' ⟨r,ha,hb,h⟩
 rw [hs] at ha
 obtain ⟨q,rfl⟩:=zq3 ha
 obtain ⟨v,rfl,hl⟩:=h
 exact ⟨v,rfl,hl,hb⟩
theorem qc5:zbs.all (fun r=>okF 10 r.expr&&r.name.all (fun c=>decide (0<=c)&&decide (c<=255))&&decide (r.name.length<=1000))=true:=by decide +kernel
theorem zq6 {W:World} {P:Nat->Prop} {X:XV} {t:Tree} (h:TreeAt W P X t):∃ a1 n1 c1 a2 n2 c2,X.ns=.slice a1 n1 c1/\X.ks=.slice a2 n2 c2:=by
 cases h with
 | mk vs h1 h2 _ _ =>
  obtain ⟨_,_,e1,_⟩:=h1.open
  obtain ⟨_,_,e2,_⟩:=h2.open
  exact ⟨_,_,_,_,_,_,e1,e2⟩
def RV0:RV:=⟨⟨#[]⟩,⟨0,⟨#[]⟩,.slice none 0 0,0,0,.slice none 0 0⟩⟩
def toRV (y:LV):RV:=⟨y.name,y.expr⟩
theorem ztc:(madeCells #[.string ⟨#[]⟩,.int .i64 0,.string ⟨#[]⟩,.slice none 0 0,.int .i64 0,.int .i64 0,.slice none 0 0] 112).toList=(List.replicate 16 RV0).flatMap RV.cells:=by kernel_rfl
theorem zof (vs:List RV) (i:Nat) (x:RV) (h:i<vs.length) :
  (((((((vs.flatMap RV.cells).set (i*7) (.string x.name)).set (i*7+1) (.int .i64 x.expr.kind)).set (i*7+2) (.string x.expr.text)).set (i*7+3) x.expr.ns).set (i*7+4) (.int .i64 x.expr.lo)).set (i*7+5) (.int .i64 x.expr.hi)).set (i*7+6) x.expr.ks=(vs.set i x).flatMap RV.cells:=by
 induction vs generalizing i with
 | nil=>simp at h
 | cons y vs ih =>
  cases i with
  | zero=>simp [RV.cells]
  | succ i =>
   have ih:=ih i (by simpa using h)
   have e:∀ (j:Nat) (l:List Value) (u:Value),(y.cells++l).set ((i+1)*7+j) u=y.cells++l.set (i*7+j) u:=fun j l u=>by
    rw [List.set_append,if_neg (by simp [RV.cells];omega),show (i+1)*7+j-y.cells.length=i*7+j by simp [RV.cells];omega]
   have e0:=e 0
   simp only [Nat.add_zero] at e0
   simp only [List.flatMap_cons,List.set_cons_succ,e0,e]
   rw [ih]
def setR (W:World) (g o:Nat) (x:RV):World :=
 ((((((W.setCell ⟨g,o,none⟩ (.string x.name)).setCell ⟨g,o+1,none⟩ (.int .i64 x.expr.kind)).setCell ⟨g,o+2,none⟩ (.string x.expr.text)).setCell ⟨g,o+3,none⟩ x.expr.ns).setCell ⟨g,o+4,none⟩ (.int .i64 x.expr.lo)).setCell ⟨g,o+5,none⟩ (.int .i64 x.expr.hi)).setCell ⟨g,o+6,none⟩ x.expr.ks
theorem ztd (W:World) (g o:Nat) (x:RV):W.grownBy (setR W g o x) (some g) :=
 (((((((zb6 W g o _).trans (zb6 _ g _ _)).trans (zb6 _ g _ _)).trans (zb6 _ g _ _)).trans (zb6 _ g _ _)).trans (zb6 _ g _ _)).trans (zb6 _ g _ _))
theorem zog:∀ (i:Nat) (r:GR),zbs[i]?=some r->zi1[i]?=some ⟨r.name,false,r.expr⟩/\okF 10 r.expr=true/\zar r.name:=by
 intro i r hr
 refine ⟨by unfold zi1;rw [List.getElem?_map,hr];rfl,?_⟩
 have h:=List.all_eq_true.1 qc5 r (List.mem_of_getElem? hr)
 simp only [Bool.and_eq_true,List.all_eq_true,decide_eq_true_eq] at h
 exact ⟨h.1.1,h.1.2,by omega⟩
theorem zzh {w w1 wr:World} {v vl:Value} {ysl:List LV} {ysi:List RV}
  (hli:∀ (i:Nat) (y:LV) (r:Rule),ysl[i]?=some y->zi1[i]?=some r->zej w1 (fun b=>w.heap.size<=b/\some b≠vl.ownBlock) y r) (hl:ysl.length=16) (hyl:ysi.length=16)
  (hd:∀ j,j<16->ysi[j]?=(ysl[j]?).map toRV) (hr:wr.ownsRow w1.heap.size 39 7 v 16 (ysi.flatMap RV.cells)) (hb1:Below w.heap.size w w1) (hb:Below w1.heap.size w1 wr):zg2 wr w.heap.size v ysi zbs:=by
 have hc:zbs.length=16:=by decide +kernel
 refine ⟨by rw [hc];exact zcx hr hb1.size,by rw [hyl,hc],fun i y r hy hr'=>?_⟩
 obtain ⟨h1,h2,h3⟩:=zog i r hr'
 have hi:i<16:=by rw [<- hyl];exact (List.getElem?_eq_some_iff.1 hy).1
 obtain ⟨Y,hY⟩:∃ Y,ysl[i]?=some Y:=⟨_,List.getElem?_eq_getElem (by omega)⟩
 have e:=hd i hi
 rw [hy,hY] at e
 have e:=Option.some.inj e
 subst e
 obtain ⟨g1,_,g3⟩:=hli i Y _ hY h1
 exact ⟨g1,h3,((g3.etp 10 h2).kept (M:=fun _=>False) (zap.below hb) (fun b hb _=>⟨id,hb.1⟩))⟩
theorem zq7 {W:World} {base size:Nat} {e:TypeId} {v:Value} {xs:List Value} (h:W.ownsRow base e size v zi1.length xs):∃ g cap,v=.slice (some ⟨g,0,none⟩) 16 cap:=by
 have hl:zi1.length=16:=by decide +kernel
 rw [hl] at h
 rcases zan h with ⟨_,h0⟩ | ⟨g,cap,rfl⟩
 ·omega
 ·exact ⟨g,cap,rfl⟩
theorem zzi (w:World):Calls Tryz.prog 44 #[] w (fun e w'=>∃ v ys,e=.returned v/\zg2 w' w.heap.size v ys zbs/\Below w.heap.size w w'):=by
 obtain ⟨i0,hi0,hz0,hz1,hz2⟩:=info_parts zrc
 have hmk:∀ u:World,(Instr.makeSlice 29 (.int .i64 16) (.int .i64 16)).run Tryz.prog u=.ok (.slice (some ⟨u.heap.size,0,none⟩) 16 16) (u.alloc (.cells (madeCells #[.string ⟨#[]⟩,.int .i64 0,.string ⟨#[]⟩,.slice none 0 0,.int .i64 0,.int .i64 0,.slice none 0 0] 112) 39)):=fun u=>by
  have h:=run_make (P:=Tryz.prog) u 29 39 i0 (.agg #[.string ⟨#[]⟩,.int .i64 0,.string ⟨#[]⟩,.slice none 0 0,.int .i64 0,.int .i64 0,.slice none 0 0]) Tryz.underlying29 hi0 hz0 .i64 .i64 16 16 (by omega) (Int.le_refl _) (by rw [hz2];omega) (by omega)
  simpa [hz1,Value.cells] using h
 go_enter Tryz.func44,Tryz.ntmps44
 go_wp2_with (go_at_call 68;refine (zw6 (by kernel_rfl)).mono ?_;rintro e w1 ⟨v,rfl,hl,hb⟩;obtain ⟨ysl,hyl,hrow,hli⟩:=hl;obtain ⟨gv,capv,rfl⟩:∃ g cap,v=.slice (some ⟨g,0,none⟩) 16 cap:=zq7 hrow;have HLI:=hh9 hli;have HROW:=hh9 hrow;have HYL:=hh9 hyl;have HB1:=hh9 hb;clear hli hrow hyl hb)
 have hrow0:(w1.alloc (.cells (madeCells #[.string ⟨#[]⟩,.int .i64 0,.string ⟨#[]⟩,.slice none 0 0,.int .i64 0,.int .i64 0,.slice none 0 0] 112) 39)).ownsRow w1.heap.size 39 7 (.slice (some ⟨w1.heap.size,0,none⟩) 16 16) 16 ((List.replicate 16 RV0).flatMap RV.cells):=by
  have h:=row_of_block (size:=7) (n:=16) (Nat.le_refl _) (heap_alloc_new w1 (.cells (madeCells #[.string ⟨#[]⟩,.int .i64 0,.string ⟨#[]⟩,.slice none 0 0,.int .i64 0,.int .i64 0,.slice none 0 0] 112) 39)) (by unfold maxLen;omega) (by kernel_rfl)
  rw [ztc] at h
  exact h
 have HR0:=hh9 hrow0
 have HBM:Hid (Below w1.heap.size w1 (w1.alloc (.cells (madeCells #[.string ⟨#[]⟩,.int .i64 0,.string ⟨#[]⟩,.slice none 0 0,.int .i64 0,.int .i64 0,.slice none 0 0] 112) 39))):=(Below.refl _ _).alloc (Nat.le_refl _) _
 have hl16:zi1.length=16:=by decide +kernel
 have hgv:=zb0 (show w1.ownsRow w.heap.size 37 8 (.slice (some ⟨gv,0,none⟩) 16 capv) 16 (ysl.flatMap LV.cells) by have:=HROW.out;rwa [hl16] at this)
 have HYL16:Hid (ysl.length=16):=by have:=HYL.out;rwa [hl16] at this
 have HCL:Hid (∀ j u,(ysl.flatMap LV.cells)[j]?=some u->w1.cell? ⟨gv,j,none⟩=some u):=fun j u hj=>zaq (show w1.ownsRow w.heap.size 37 8 (.slice (some ⟨gv,0,none⟩) 16 capv) 16 (ysl.flatMap LV.cells) by have:=HROW.out;rwa [hl16] at this) hj
 have HL16:=hh9 hl16
 clear hrow0 hmk hl16
 go_loopw [15] (fun v wr=>∃ (i:Nat) (ysi:List RV),v=.int .i64 i/\i<=16/\ysi.length=16/\Hid (∀ j,j<i->ysi[j]?=(ysl[j]?).map toRV)/\Hid (wr.ownsRow w1.heap.size 39 7 (.slice (some ⟨w1.heap.size,0,none⟩) 16 16) 16 (ysi.flatMap RV.cells))/\Hid (Below w1.heap.size w1 wr)) (fun v _=>16-(intOf v).toNat)
 case atStart=>exact ⟨0,List.replicate 16 RV0,rfl,by omega,by simp,fun j hj=>by omega,HR0,HBM⟩
 case round =>
  obtain ⟨i,ysi,rfl,hi,hyl,HD,HR,HB⟩:=hrel
  by_cases hlt:i<16
  ·obtain ⟨Y,hY⟩:∃ y,ysl[i]?=some y:=⟨_,List.getElem?_eq_getElem (by rw [HYL16.out];exact hlt)⟩
   obtain ⟨Z,hZ⟩:∃ z,ysi[i]?=some z:=⟨_,List.getElem?_eq_getElem (by rw [hyl];exact hlt)⟩
   have CX:∀ (j:Nat) (u:Value),j<8->Y.cells[j]?=some u->wr.cell? ⟨gv,i*8+j,none⟩=some u:=fun j u hj hu =>
    (HB.out.cell (p:=⟨gv,i*8+j,none⟩) hgv.2.2.2).trans (HCL.out _ u ((zdy ysl i j Y hY hj).trans hu))
   obtain ⟨rr,hrr⟩:∃ r,zi1[i]?=some r:=⟨_,List.getElem?_eq_getElem (by rw [HL16.out];exact hlt)⟩
   obtain ⟨b1,m1,d1,b5,m5,d5,hb1,hb5⟩:=zq6 (HLI.out i Y rr hY hrr).2.2
   obtain ⟨nm,mo,⟨k,tx,nv,lo,hi2,kv⟩⟩:=Y
   simp only [] at hb1 hb5
   subst hb1 hb5
   have hwl:w1.heap.size<wr.heap.size:=(zb0 HR.out).2.2.2
   have e0:=CX 0 _ (by omega) rfl
   have e1:=CX 1 _ (by omega) rfl
   have e2:=CX 2 _ (by omega) rfl
   have e3:=CX 3 _ (by omega) rfl
   have e4:=CX 4 _ (by omega) rfl
   have e5:=CX 5 _ (by omega) rfl
   have e6:=CX 6 _ (by omega) rfl
   have e7:=CX 7 _ (by omega) rfl
   rw [Nat.add_zero] at e0
   simp only [] at e0 e1 e2 e3 e4 e5 e6 e7
   have HY:=hh9 hY
   have HZ:=hh9 hZ
   have RX:∀ (j:Nat) (u:Value),j<7->Z.cells[j]?=some u->wr.cell? ⟨w1.heap.size,i*7+j,none⟩=some u/\wr.frozen? ⟨w1.heap.size,i*7+j,none⟩=false:=fun j u hj hu=>⟨zms HR.out ((zct ysi i j Z hZ hj).trans hu),zcy HR.out _⟩
   obtain ⟨r0,q0⟩:=RX 0 _ (by omega) rfl
   obtain ⟨r1,q1⟩:=RX 1 _ (by omega) rfl
   obtain ⟨r2,q2⟩:=RX 2 _ (by omega) rfl
   obtain ⟨r3,q3⟩:=RX 3 _ (by omega) rfl
   obtain ⟨r4,q4⟩:=RX 4 _ (by omega) rfl
   obtain ⟨r5,q5⟩:=RX 5 _ (by omega) rfl
   obtain ⟨r6,q6⟩:=RX 6 _ (by omega) rfl
   rw [Nat.add_zero] at r0 q0
   have hstep:(setR wr w1.heap.size (i*7) ⟨nm,⟨k,tx,.slice b1 m1 d1,lo,hi2,.slice b5 m5 d5⟩⟩).ownsRow w1.heap.size 39 7 (.slice (some ⟨w1.heap.size,0,none⟩) 16 16) 16 ((ysi.set i ⟨nm,⟨k,tx,.slice b1 m1 d1,lo,hi2,.slice b5 m5 d5⟩⟩).flatMap RV.cells):=by
    have h7:=zbe (zbe (zbe (zbe (zbe (zbe (zbe HR.out (i*7) (.string nm)) (i*7+1) (.int .i64 k)) (i*7+2) (.string tx)) (i*7+3) (.slice b1 m1 d1)) (i*7+4) (.int .i64 lo)) (i*7+5) (.int .i64 hi2)) (i*7+6) (.slice b5 m5 d5)
    have e:=zof ysi i ⟨nm,⟨k,tx,.slice b1 m1 d1,lo,hi2,.slice b5 m5 d5⟩⟩ (by rw [hyl];exact hlt)
    simp only [] at e
    rw [e] at h7
    exact h7
   have hbel:Below w1.heap.size w1 (setR wr w1.heap.size (i*7) ⟨nm,⟨k,tx,.slice b1 m1 d1,lo,hi2,.slice b5 m5 d5⟩⟩):=HB.out.grown (ztd _ _ _ _) (by omega) (fun b e=>by have:=Option.some.inj e;omega)
   have HD2:Hid (∀ j,j<i+1->(ysi.set i ⟨nm,⟨k,tx,.slice b1 m1 d1,lo,hi2,.slice b5 m5 d5⟩⟩)[j]?=(ysl[j]?).map toRV):=fun j hj=>by
    by_cases hji:j=i
    ·subst hji
     rw [List.getElem?_set_self (by rw [hyl];exact hlt),HY.out]
     rfl
    ·rw [List.getElem?_set_ne (by omega)]
     exact HD.out j (by omega)
   have hstep:=zb3 hstep ((Below.refl _ _).alloc (Nat.le_refl _) (.cells #[.string nm,.bool mo,.int .i64 k,.string tx,.slice b1 m1 d1,.int .i64 lo,.int .i64 hi2,.slice b5 m5 d5] 37))
   have hbel:=hbel.alloc hbel.size (.cells #[.string nm,.bool mo,.int .i64 k,.string tx,.slice b1 m1 d1,.int .i64 lo,.int .i64 hi2,.slice b5 m5 d5] 37)
   unfold setR at hstep hbel
   simp only [] at hstep hbel
   have HST:=hh9 hstep
   have HBE:=hh9 hbel
   clear CX hY hZ hrr RX hstep hbel
   go_wp2_with fail
   go_roundw
   case rel=>exact ⟨i+1,ysi.set i ⟨nm,⟨k,tx,.slice b1 m1 d1,lo,hi2,.slice b5 m5 d5⟩⟩,by go_num,by omega,by rw [List.length_set];exact hyl,HD2,HST,HBE⟩
   case measure=>simp [intOf];omega
  ·obtain rfl:i=16:=by omega
   have HEND:=hh9 (zzh HLI.out HYL16.out hyl HD.out HR.out HB1.out HB.out)
   clear HR
   go_wp2_with fail
   go_ret
   exact ⟨_,ysi,rfl,HEND.out,za0 HB1.out HB.out⟩
theorem zte {w:World} {v:Value} {ys:List RV} {g:List GR} {x:List Int} {c:Nat} (h:zdg w v ys g) (hx:zar x) (hc:w.cell? ⟨c,0,none⟩=some (.string (za3 x))) (hcl:c<w.heap.size) :
  Calls Tryz.prog 24 #[v,.func (.func 25) #[] #[.pointer (some ⟨c,0,none⟩)]] w (zyx (zh0 g x) w):=by
 obtain ⟨h1,h2,h3⟩:=h
 have H2:=hh9 h2
 have H3:=hh9 h3
 have HX:=hh9 hx
 have HT:=hh9 (fun (W:World) (hb:Below w.heap.size w W) (Y:RV)=>zvb (Y:=Y) ((hb.cell (p:=⟨c,0,none⟩) hcl).trans hc) (Nat.lt_of_lt_of_le hcl hb.size))
 obtain ⟨n,hnn⟩:∃ n,n=g.length:=⟨_,rfl⟩
 obtain ⟨N,hN⟩:∃ N,N=zh0 g x:=⟨_,rfl⟩
 obtain ⟨s,hs⟩:∃ s,s=za3 x:=⟨_,rfl⟩
 rw [<- hnn] at h1
 rw [<- hs] at HT
 rw [<- hN]
 have HNN:=hh9 hnn
 have HN:=hh9 hN
 have HS:=hh9 hs
 clear h2 h3 hnn hN hs hx hc hcl
 rcases h1 with ⟨h0,a,cap,rfl⟩ | ⟨b,off,cap,rfl,g1,g2,g3,g4⟩
 ·obtain rfl:g=[]:=List.length_eq_zero_iff.1 (by rw [<- HNN.out];exact h0)
  subst h0
  obtain rfl:N=-1:=by rw [HN.out];rfl
  go_enter Tryz.func24,Tryz.ntmps24
  go_wp2_with fail
  go_loop [8] (fun v=>v=.int .i64 0) (fun _=>0)
  case atStart=>rfl
  case round =>
   subst hrel
   go_wp2_with fail
   go_ret
   exact ⟨rfl,Below.refl _ _⟩
 ·have G4:=hh9 g4
  unfold maxLen at g2
  clear g4
  have HB0:=hh9 (Below.refl w.heap.size w)
  go_enter Tryz.func24,Tryz.ntmps24
  go_wp2_with fail
  go_loopw [8] (fun v wr=>∃ i:Nat,v=.int .i64 i/\i<=n/\Hid (∀ (j:Nat) (u:GR),j<i->g[j]?=some u->u.name≠x)/\Hid (Below w.heap.size w wr)) (fun v _=>n-(intOf v).toNat)
  case atStart=>exact ⟨0,rfl,by omega,fun j u hj=>by omega,HB0⟩
  case round =>
   obtain ⟨i,rfl,hi,HNO,HBEL⟩:=hrel
   by_cases hlt:i<n
   ·obtain ⟨Y,hY⟩:∃ y,ys[i]?=some y:=⟨_,List.getElem?_eq_getElem (by rw [H2.out,<- HNN.out];exact hlt)⟩
    obtain ⟨t,ht⟩:∃ y,g[i]?=some y:=⟨_,List.getElem?_eq_getElem (by rw [<- HNN.out];exact hlt)⟩
    have CX:∀ (j:Nat) (u:Value),j<7->Y.cells[j]?=some u->wr.cell? ⟨b,off+(i*7+j),none⟩=some u:=fun j u hj hu =>
     (HBEL.out.cell (p:=⟨b,off+(i*7+j),none⟩) g3).trans (G4.out _ u ((zct ys i j Y hY hj).trans hu))
    obtain ⟨en,hto,_⟩:=H3.out i Y t hY ht
    have HTW:=hh9 (HT.out wr HBEL.out Y)
    have hq:=zr8 hto HX.out
    rw [<- HS.out,<- en] at hq
    rw [hq] at HTW
    obtain ⟨nm,⟨k,tx,nv,lo,hi',kv⟩⟩:=Y
    have e0:=CX 0 _ (by omega) rfl
    have e1:=CX 1 _ (by omega) rfl
    have e2:=CX 2 _ (by omega) rfl
    have e3:=CX 3 _ (by omega) rfl
    have e4:=CX 4 _ (by omega) rfl
    have e5:=CX 5 _ (by omega) rfl
    have e6:=CX 6 _ (by omega) rfl
    rw [<- Nat.add_assoc] at e0 e1 e2 e3 e4 e5 e6
    rw [Nat.add_zero] at e0
    simp only [] at e0 e1 e2 e3 e4 e5 e6
    unfold RV.val RV.arr at HTW
    simp only [] at HTW
    by_cases hc:t.name=x
    ·rw [decide_eq_true hc] at HTW
     have HV:=hh9 (show N=i by rw [HN.out];exact zo2 ht hc HNO.out)
     clear CX hq hY ht hto en hc
     go_wp2_with (go_at_call 25;refine HTW.out.mono ?_;rintro e w1 ⟨rfl,hb⟩;have HB1:=hh9 (za0 HBEL.out hb);clear hb)
     go_ret
     exact ⟨by rw [HV.out];rfl,HB1.out⟩
    ·rw [decide_eq_false hc] at HTW
     have HNO2:Hid (∀ (j:Nat) (u:GR),j<i+1->g[j]?=some u->u.name≠x):=fun j u hj hu=>by
      by_cases hji:j<i
      ·exact HNO.out j u hji hu
      ·obtain rfl:j=i:=by omega
       rw [ht] at hu
       rw [<- Option.some.inj hu]
       exact hc
     clear CX hq hY ht hto en hc
     go_wp2_with (go_at_call 25;refine HTW.out.mono ?_;rintro e w1 ⟨rfl,hb⟩;have HB1:=hh9 (za0 HBEL.out hb);clear hb)
     go_roundw
     case rel=>exact ⟨i+1,by go_num,by omega,HNO2,HB1⟩
     case measure=>simp [intOf];omega
   ·obtain rfl:i=n:=by omega
    obtain rfl:N=-1:=by rw [HN.out];exact zle (fun j u hj=>HNO.out j u (by rw [HNN.out];exact hj))
    go_wp2_with fail
    go_ret
    exact ⟨rfl,HBEL.out⟩
theorem zrl {w:World} {v:Value} {ys:List RV} {g:List GR} {x:List Int} (h:zdg w v ys g) (hx:zar x):Calls Tryz.prog 9 #[v,.string (za3 x)] w (zyx (zh0 g x) w):=by
 have hb0:Below w.heap.size w (w.alloc (.cells #[.string (za3 x)] 9)):=(Below.refl _ _).alloc (Nat.le_refl _) _
 have HI:=hh9 (zte (c:=w.heap.size) (h.below hb0) hx (by have hh:=heap_alloc_new w (Obj.cells #[.string (za3 x)] 9);simp only [World.cell?,hh];rfl) (by simp))
 have HB0:=hh9 hb0
 have hone:v.oneCell'=true:=h.1.one
 obtain ⟨s,hs⟩:∃ s,s=za3 x:=⟨_,rfl⟩
 rw [<- hs] at HI HB0 ⊢
 obtain ⟨N,hN⟩:∃ N,N=zh0 g x:=⟨_,rfl⟩
 rw [<- hN] at HI ⊢
 clear hb0 h hs hN hx
 go_enter Tryz.func9,Tryz.ntmps9
 go_wp2_with (go_at_call 24;refine HI.out.mono ?_;rintro e w1 ⟨rfl,hb⟩;have HB1:=hh9 (za0 HB0.out hb);clear hb)
 go_ret
 exact ⟨rfl,HB1.out⟩
end Go.Proofs.YtekjnfldgjcgeaaGreatDoor
namespace Go.Proofs.YtekjnfldgjcgeaaGreatDoor
open Go.RowKit Go.Shelf
attribute [local go_sem] Oper.semAt_some
def zfa (W:World) (ys:List RV) (g:List GR):Prop:=∀ (i:Nat) (y:RV) (r:GR),ys[i]?=some y->g[i]?=some r->ETP W (fun _=>True) y.expr r.expr/\dep r.expr<=9000/\(zai r.expr).length<=1000000
theorem zfa.kept {W W':World} {ys:List RV} {g:List GR} (h:zfa W ys g) (hk:zap (fun _=>False) W W'):zfa W' ys g:=fun i y r hy hr=>⟨(h i y r hy hr).1.kept hk (fun b _ _=>⟨id,trivial⟩),(h i y r hy hr).2⟩
theorem zfa.push {W:World} {ys:List RV} {g:List GR} (h:zfa W ys g) (hl:ys.length=g.length) {Y:RV} {r:GR} (hn:ETP W (fun _=>True) Y.expr r.expr/\dep r.expr<=9000/\(zai r.expr).length<=1000000):zfa W (ys++[Y]) (g++[r]):=by
 intro i y r' hy hr'
 by_cases hi:i<ys.length
 ·rw [List.getElem?_append_left hi] at hy
  rw [List.getElem?_append_left (by omega)] at hr'
  exact h i y r' hy hr'
 ·have e:i=ys.length:=by
   have:=(List.getElem?_eq_some_iff.1 hy).1
   simp at this
   omega
  subst e
  rw [List.getElem?_append_right (Nat.le_refl _)] at hy
  rw [List.getElem?_append_right (by omega),hl] at hr'
  simp at hy hr'
  subst hy hr'
  exact hn
structure CS (w W:World) (base R m b3 bc:Nat) (vc:Value) (ysc:List RV) (v:Value) (ys:List RV) (g:List GR):Prop where
 box:Go.Boxed W w.heap.size 81 (.pointer (some ⟨R,0,none⟩))
 res:Go.Boxed W (w.heap.size+1) 26 (.int .i64 0)
 core:Go.Boxed W b3 29 vc
 cr:zg2 W bc vc ysc zbs
 gat:GAt W base R m v ys g
 ex:zfa W ys g
 sep:∀ b,v.ownBlock=some b->vc.ownBlock≠some b
 old:∀ b,v.ownBlock=some b->b≠w.heap.size/\b≠w.heap.size+1/\b≠b3
 bel:∀ n0,n0<=R->n0<=m->n0<=base->n0<=w.heap.size->Below n0 w W
theorem ztf {W W':World} (hs:W.heap.size<=W'.heap.size) (h:∀ (b:Nat) (c:Array Value) (t:TypeId) (z:Nat × Nat),W.heap[b]?=some (.cells c t z)->W'.heap[b]?=some (.cells c t z)):zap (fun _=>False) W W':=⟨hs,fun b c t z _ _ hb=>h b c t z hb⟩
theorem zd6 {W W':World} {base size n:Nat} {e:TypeId} {v:Value} {xs:List Value} (h:W.ownsRow base e size v n xs) (hk:∀ b,v.ownBlock=some b->W'.heap[b]?=W.heap[b]?):W'.ownsRow base e size v n xs:=by
 refine ⟨h.1,?_⟩
 rcases h.2 with hn | ⟨g,cap,cur,hv,hb,hg',rest⟩
 ·exact .inl hn
 ·exact .inr ⟨g,cap,cur,hv,hb,(hk g (by rw [hv];rfl)).trans hg',rest⟩
theorem zbk {W:World} {base size n b:Nat} {e:TypeId} {v:Value} {xs:List Value} (h:W.ownsRow base e size v n xs) (hb:v.ownBlock=some b):∃ cur,W.heap[b]?=some (.cells cur e (0,0)):=by
 rcases h.2 with ⟨rfl,_⟩ | ⟨g,cap,cur,rfl,_,hg,_⟩
 ·simp [Value.ownBlock] at hb
 ·simp [Value.ownBlock] at hb
  subst hb
  exact ⟨_,hg⟩
theorem CS.moved {w W W':World} {base R m b3 bc:Nat} {vc:Value} {ysc:List RV} {v:Value} {ys:List RV} {g:List GR} (h:CS w W base R m b3 bc vc ysc v ys g) (hs:W.heap.size<=W'.heap.size)
  (hc:∀ (b:Nat) (c:Array Value) (t:TypeId) (z:Nat × Nat),W.heap[b]?=some (.cells c t z)->W'.heap[b]?=some (.cells c t z)) (hm:W'.heap[m]?=W.heap[m]?) (hb:∀ n0,n0<=R->n0<=m->n0<=base->n0<=w.heap.size->Below n0 W W'):CS w W' base R m b3 bc vc ysc v ys g:=by
 have hkc:=ztf hs hc
 have hrow:∀ {base size n:Nat} {e:TypeId} {v:Value} {xs:List Value},W.ownsRow base e size v n xs->W'.ownsRow base e size v n xs:=fun hr=>zd6 hr (fun b hb=>by
  obtain ⟨cur,hcur⟩:=zbk hr hb
  exact (hc b _ _ _ hcur).trans hcur.symm)
 refine ⟨hc _ _ _ _ h.box,hc _ _ _ _ h.res,hc _ _ _ _ h.core,⟨hrow h.cr.1,h.cr.2.1,fun i y r hy hr=>⟨(h.cr.2.2 i y r hy hr).1,(h.cr.2.2 i y r hy hr).2.1,(h.cr.2.2 i y r hy hr).2.2.kept hkc (fun b hb _=>⟨id,hb⟩)⟩⟩,?_,h.ex.kept hkc,h.sep,h.old,fun n0 h1 h2 h3 h4=>(h.bel n0 h1 h2 h3 h4).trans (hb n0 h1 h2 h3 h4)⟩
 obtain ⟨D,hD,hMG⟩:=h.gat.map
 exact ⟨hc _ _ _ _ h.gat.blk,hrow h.gat.row,h.gat.len,⟨D,zch hD hm,hMG⟩,h.gat.name⟩
theorem CS.below {w W W':World} {base R m b3 bc:Nat} {vc:Value} {ysc:List RV} {v:Value} {ys:List RV} {g:List GR} (h:CS w W base R m b3 bc vc ysc v ys g) (hb:Below W.heap.size W W'):CS w W' base R m b3 bc vc ysc v ys g:=by
 obtain ⟨D,hD,_⟩:=h.gat.map
 refine h.moved hb.size (fun b c t z hc=>(hb.block b (Array.getElem?_eq_some_iff.1 hc).1).trans hc) (hb.block m hD.lt) (fun n0 h1 h2 h3 h4=>hb.mono ?_)
 have:=(h.bel n0 h1 h2 h3 h4).size
 omega
theorem CS.added {w W W':World} {base R m b3 bc:Nat} {vc:Value} {ysc:List RV} {v v':Value} {ys:List RV} {g:List GR} {Y:RV} {r:GR} (h:CS w W base R m b3 bc vc ysc v ys g) (hR:R<w.heap.size) (hm:m<w.heap.size) (hbc:w.heap.size<=bc) (hb3:w.heap.size<=b3)
  (hex:ETP W (fun _=>True) Y.expr r.expr/\dep r.expr<=9000/\(zai r.expr).length<=1000000)
  (hg:GAt W' base R m v' (ys++[Y]) (g++[r])) (hk:zap (fun _=>False) W W') (ho:∀ b,b<W.heap.size->b≠R->b≠m->v.ownBlock≠some b->W'.heap[b]?=W.heap[b]?) (hat:v'.ownBlock=v.ownBlock\/∃ k,v'.ownBlock=some k/\W.heap.size<=k)
  (hb:∀ n0,n0<=R->n0<=m->n0<=base->Below n0 W W'):CS w W' base R m b3 bc vc ysc v' (ys++[Y]) (g++[r]):=by
 have l1:=h.box.lt
 have l2:=h.res.lt
 have l3:=h.core.lt
 have keep:∀ b,b<W.heap.size->w.heap.size<=b->v.ownBlock≠some b->W'.heap[b]?=W.heap[b]?:=fun b hl hw hv=>ho b hl (by omega) (by omega) hv
 have hrc:∀ b,vc.ownBlock=some b->w.heap.size<=b/\b<W.heap.size:=fun b hb=>by
  have h1:=zcd h.cr.1 b hb
  obtain ⟨cur,hcur⟩:=zbk h.cr.1 hb
  have:=(Array.getElem?_eq_some_iff.1 hcur).1
  omega
 refine ⟨(keep _ l1 (Nat.le_refl _) (fun e=>(h.old _ e).1 rfl)).trans h.box,(keep _ l2 (by omega) (fun e=>(h.old _ e).2.1 rfl)).trans h.res,(keep _ l3 hb3 (fun e=>(h.old _ e).2.2 rfl)).trans h.core,
  ⟨zd6 h.cr.1 (fun b hb=>keep b (hrc b hb).2 (hrc b hb).1 (fun e=>h.sep b e hb)),h.cr.2.1,fun i y r hy hr=>⟨(h.cr.2.2 i y r hy hr).1,(h.cr.2.2 i y r hy hr).2.1,(h.cr.2.2 i y r hy hr).2.2.kept hk (fun b hb _=>⟨id,hb⟩)⟩⟩,
  hg,(h.ex.push h.gat.len hex).kept hk,fun b hb hb'=>?_,fun b hb=>?_,fun n0 h1 h2 h3 h4=>(h.bel n0 h1 h2 h3 h4).trans (hb n0 h1 h2 h3)⟩
 ·rcases hat with e | ⟨k,e,hk⟩
  ·exact h.sep b (by rw [<- e];exact hb) hb'
  ·rw [e] at hb
   have:=Option.some.inj hb
   have:=hrc b hb'
   omega
 ·rcases hat with e | ⟨k,e,hk⟩
  ·exact h.old b (by rw [<- e];exact hb)
  ·rw [e] at hb
   have:=Option.some.inj hb
   omega
def AddI (w:World) (base R m b3 bc:Nat) (vc:Value) (ysc:List RV) (g0:List GR) (pre:List NX) (W:World):Prop:=∃ (v:Value) (ys:List RV) (g:List GR),zbn g0 (NX.vals pre)=some g/\CS w W base R m b3 bc vc ysc v ys g
def AddX (w:World) (R m base:Nat) (g0:List GR) (c:Code) (pre:List NX) (W:World):Prop :=
 c=.ret/\zbn g0 (NX.vals pre)=none/\Go.Boxed W (w.heap.size+1) 26 (.int .i64 40)/\∀ n0,n0<=R->n0<=m->n0<=base->n0<=w.heap.size->Below n0 w W
theorem qdi {w:World} {base R m b3 bc B:Nat} {vc:Value} {ysc:List RV} {g0:List GR} (hmB:m<B) (hB:w.heap.size<=B):OwnFrom B (AddI w base R m b3 bc vc ysc g0):=by
 intro pre W W' row ⟨v,ys,g,h1,h2⟩ hg hr
 refine ⟨v,ys,g,h1,h2.moved hg.size (fun b c t z hc=>(hg.block b (Array.getElem?_eq_some_iff.1 hc).1 (fun e=>?_)).trans hc) ?_ (fun n0 a1 a2 a3 a4=>?_)⟩
 ·obtain ⟨_,o,ho,hoc⟩:=hr b e.symm
  rw [hc] at ho
  have:=Option.some.inj ho
  subst this
  cases hoc
 ·obtain ⟨D,hD,_⟩:=h2.gat.map
  exact hg.block m hD.lt (fun e=>by have:=(hr m e.symm).1;omega)
 ·refine ⟨hg.os,hg.tape,hg.output,hg.size,fun k hk=>hg.block k ?_ (fun e=>by have:=(hr k e.symm).1;omega)⟩
  have:=(h2.bel n0 a1 a2 a3 a4).size
  omega
theorem qdj {w:World} {base R m B:Nat} {g0:List GR} (hB:w.heap.size<=B) (c:Code):OwnFrom B (AddX w R m base g0 c):=by
 intro pre W W' row ⟨h1,h2,h3,h4⟩ hg hr
 refine ⟨h1,h2,(hg.block _ h3.lt (fun e=>?_)).trans h3,fun n0 a1 a2 a3 a4=>(h4 n0 a1 a2 a3 a4).trans ⟨hg.os,hg.tape,hg.output,hg.size,fun k hk=>hg.block k ?_ (fun e=>by have:=(hr k e.symm).1;omega)⟩⟩
 ·obtain ⟨_,o,ho,hoc⟩:=hr _ e.symm
  rw [show W.heap[w.heap.size+1]?=_ from h3] at ho
  have:=Option.some.inj ho
  subst this
  cases hoc
 ·have:=(h4 n0 a1 a2 a3 a4).size
  omega
theorem zq8 {W:World} {base:Nat} {v:Value} {ys:List RV} (h:zg2 W base v ys zbs):∃ g cap,v=.slice (some ⟨g,0,none⟩) 16 cap:=by
 have hl:zbs.length=16:=by decide +kernel
 have hr:=h.1
 rw [hl] at hr
 rcases zan hr with ⟨_,h0⟩ | ⟨g,cap,rfl⟩
 ·omega
 ·exact ⟨g,cap,rfl⟩
def zoh (base R m:Nat) (Rr:Option (List GR)) (w:World) (e:Ending) (w':World):Prop :=
 (Rr=none->e=.returned (.int .i64 40))/\(∀ g',Rr=some g'->e=.returned (.int .i64 0)/\∃ v' ys',GAt w' base R m v' ys' g'/\zfa w' ys' g')/\∀ n0,n0<=R->n0<=m->n0<=base->n0<=w.heap.size->Below n0 w w'
def zn4 (Ds:List Nat):List Deferred:=Ds.map fun D=>{ target:=.collected D,args:=#[] }
theorem zio {F:Fence} {n:Nat} {P:Program} {fn:Func} {tmps:Array Value} {R:Ending->World->Prop}:∀ (Ds:List Nat) (W:World),Ds.Nodup->(∀ D∈Ds,W.heap[D]?=some (.deferred (some []))) ->
  (∀ W':World,W'.os=W.os->W'.tape=W.tape->W'.output=W.output->W'.heap.size=W.heap.size->(∀ b,b ∉ Ds->W'.heap[b]?=W.heap[b]?)->∃ v,(results fn tmps).run P W'=.ok v W'/\R (.returned v) W') ->
  LeavesInM F n P fn tmps R (zn4 Ds) .returning W:=by
 intro Ds
 induction Ds with
 | nil =>
  intro W _ _ h
  obtain ⟨v,h1,h2⟩:=h W rfl rfl rfl rfl (fun _ _=>rfl)
  exact ⟨v,h1,h2⟩
 | cons D Ds ih =>
  intro W hn hd h
  have hD:=hd D (by simp)
  rw [List.nodup_cons] at hn
  refine ⟨by simp,.inl ⟨D,W.putObj D (.deferred none),rfl,run_takeDeferred hD,?_⟩⟩
  refine ih _ hn.2 (fun E hE=>?_) (fun W' h1 h2 h3 h4 h5=>?_)
  ·rw [World.putObj_heap_other (by rintro rfl;exact hn.1 hE)]
   exact hd E (by simp [hE])
  ·refine h W' h1 h2 h3 (h4.trans (by simp [World.putObj])) (fun b hb=>?_)
   simp only [List.mem_cons,not_or] at hb
   rw [h5 b hb.2,World.putObj_heap_other (fun e=>hb.1 e)]
end Go.Proofs.YtekjnfldgjcgeaaGreatDoor
