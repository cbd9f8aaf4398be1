/- Part 19 of what the laws of the grammar rest on. -/
import Derived.Test.YtdgcmiecgnmdjaaGreatDoorA12
import Derived.Test.YtdgcmiecgnmdjaaGreatDoorA14
import Derived.Test.YtdgcmiecgnmdjaaGreatDoorA18
set_option linter.all false
set_option maxRecDepth 100000
set_option maxHeartbeats 8000000
namespace Go.Proofs.YtdgcmiecgnmdjaaGreatDoor
open Go.RowKit
def okF:Nat->Tree->Bool
 | 0,_=>false
 | d+1,.mk _ x _ _ _ kids=>x.all (fun c=>decide (0<=c)&&decide (c<=255))&&decide (x.length<=1000)&&kids.all (okF d)
theorem zeh.p {W:World} {P:Nat->Prop} {v:Value} {n:Nat} {xs:List Value} (h:zeh W P v n xs):RowP W P v n xs:=by
 rcases h with ⟨rfl,rfl⟩ | ⟨g,cap,rfl,hc,hm,hP,hg,hb,h⟩
 ·exact .inl ⟨rfl,_,_,rfl⟩
 ·obtain ⟨c,t,ht,hb⟩:=hb
  refine .inr ⟨g,0,cap,rfl,hc,hm,⟨c,t,?_,hb⟩,hP,fun j u hj=>by rw [Nat.zero_add];exact h j u hj⟩
  rcases ht with rfl | rfl | rfl
  ·exact .inl rfl
  ·exact .inr (.inl rfl)
  ·exact .inr (.inr (.inr rfl))
theorem TreeAt.etp {W:World} {P:Nat->Prop} {X:XV} {t:Tree} (h:TreeAt W P X t):∀ (d:Nat),okF d t=true->ETP W P X t:=by
 induction h with
 | mk vs h1 h2 h3 _ ih =>
  intro d ho
  cases d with
  | zero=>cases ho
  | succ d =>
  unfold okF at ho
  simp only [Bool.and_eq_true,List.all_eq_true,decide_eq_true_eq] at ho
  obtain ⟨⟨o1,o2⟩,o3⟩:=ho
  exact .mk vs o1 (by omega) h1.p h2.p h3 (fun i y t hy ht=>ih i y t hy ht d (o3 t (List.mem_of_getElem? ht)))
def zg3 (W:World) (base:Nat) (v:Value) (ys:List RV) (g:List GR):Prop :=
 W.ownsRow base 29 7 v g.length (ys.flatMap RV.cells)/\ys.length=g.length/\∀ (i:Nat) (y:RV) (r:GR),ys[i]?=some y->g[i]?=some r->y.name=za3 r.name/\zar r.name/\ETP W (fun b=>base<=b) y.expr r.expr
theorem zg3.below {W W':World} {base:Nat} {v:Value} {ys:List RV} {g:List GR} (h:zg3 W base v ys g) (hb:Below W.heap.size W W'):zg3 W' base v ys g :=
 ⟨zb3 h.1 hb,h.2.1,fun i y r hy hr=>⟨(h.2.2 i y r hy hr).1,(h.2.2 i y r hy hr).2.1,(h.2.2 i y r hy hr).2.2.kept (M:=fun _=>False) (zap.below hb) (fun b hb _=>⟨id,hb⟩)⟩⟩
theorem zg3.rules {W:World} {base:Nat} {v:Value} {ys:List RV} {g:List GR} (h:zg3 W base v ys g):zdg W v ys g:=by
 refine ⟨?_,h.2.1,fun i y r hy hr=>⟨(h.2.2 i y r hy hr).1,(h.2.2 i y r hy hr).2.1,(h.2.2 i y r hy hr).2.2.any⟩⟩
 rcases zan h.1 with ⟨rfl,h0⟩ | ⟨b,cap,rfl⟩
 ·exact .inl ⟨h0,_,_,rfl⟩
 ·obtain ⟨h1,h2,h3,h4⟩:=zb0 h.1
  exact .inr ⟨b,0,cap,rfl,h2,h3,h4,fun j u hj=>by rw [Nat.zero_add];exact zaq h.1 hj⟩
theorem zw6 {w:World} {s:ByteArray} (hs:s=za3 zvv):Calls Tryz.prog 32 #[.string s] w (fun e w'=>∃ v,e=.returned (.tuple #[v,.int .i64 0])/\zb4 w' w.heap.size v zi2/\Below w.heap.size w w'):=by
 refine (zz8 s w (by rw [hs,zab];exact Nat.le_trans zoe (by unfold maxLen;omega))).mono ?_
 rintro e w' ⟨r,ha,hb,h⟩
 rw [hs] at ha
 obtain ⟨q,rfl⟩:=zq6 ha
 obtain ⟨v,rfl,hl⟩:=h
 exact ⟨v,rfl,hl,hb⟩
theorem qbp:zbs.all (fun r=>okF 10 r.expr&&r.name.all (fun c=>decide (0<=c)&&decide (c<=255))&&decide (r.name.length<=1000))=true:=by decide +kernel
theorem zq9 {W:World} {P:Nat->Prop} {X:XV} {t:Tree} (h:TreeAt W P X t):∃ a1 n1 c1 a2 n2 c2,X.ns=.slice a1 n1 c1/\X.ks=.slice a2 n2 c2:=by
 cases h with
 | mk vs h1 h2 _ _ =>
  obtain ⟨_,_,e1,_⟩:=h1.open
  obtain ⟨_,_,e2,_⟩:=h2.open
  exact ⟨_,_,_,_,_,_,e1,e2⟩
def RV0:RV:=⟨⟨#[]⟩,⟨0,⟨#[]⟩,.slice none 0 0,0,0,.slice none 0 0⟩⟩
def toRV (y:LV):RV:=⟨y.name,y.expr⟩
theorem ztb:(madeCells #[.string ⟨#[]⟩,.int .i64 0,.string ⟨#[]⟩,.slice none 0 0,.int .i64 0,.int .i64 0,.slice none 0 0] 112).toList=(List.replicate 16 RV0).flatMap RV.cells:=by kernel_rfl
theorem zoj (vs:List RV) (i:Nat) (x:RV) (h:i<vs.length) :
  (((((((vs.flatMap RV.cells).set (i*7) (.string x.name)).set (i*7+1) (.int .i64 x.expr.kind)).set (i*7+2) (.string x.expr.text)).set (i*7+3) x.expr.ns).set (i*7+4) (.int .i64 x.expr.lo)).set (i*7+5) (.int .i64 x.expr.hi)).set (i*7+6) x.expr.ks=(vs.set i x).flatMap RV.cells:=by
 induction vs generalizing i with
 | nil=>simp at h
 | cons y vs ih =>
  cases i with
  | zero=>simp [RV.cells]
  | succ i =>
   have ih:=ih i (by simpa using h)
   have e:∀ (j:Nat) (l:List Value) (u:Value),(y.cells++l).set ((i+1)*7+j) u=y.cells++l.set (i*7+j) u:=fun j l u=>by
    rw [List.set_append,if_neg (by simp [RV.cells];omega),show (i+1)*7+j-y.cells.length=i*7+j by simp [RV.cells];omega]
   have e0:=e 0
   simp only [Nat.add_zero] at e0
   simp only [List.flatMap_cons,List.set_cons_succ,e0,e]
   rw [ih]
def setR (W:World) (g o:Nat) (x:RV):World :=
 ((((((W.setCell ⟨g,o,none⟩ (.string x.name)).setCell ⟨g,o+1,none⟩ (.int .i64 x.expr.kind)).setCell ⟨g,o+2,none⟩ (.string x.expr.text)).setCell ⟨g,o+3,none⟩ x.expr.ns).setCell ⟨g,o+4,none⟩ (.int .i64 x.expr.lo)).setCell ⟨g,o+5,none⟩ (.int .i64 x.expr.hi)).setCell ⟨g,o+6,none⟩ x.expr.ks
theorem ztc (W:World) (g o:Nat) (x:RV):W.grownBy (setR W g o x) (some g) :=
 (((((((zb6 W g o _).trans (zb6 _ g _ _)).trans (zb6 _ g _ _)).trans (zb6 _ g _ _)).trans (zb6 _ g _ _)).trans (zb6 _ g _ _)).trans (zb6 _ g _ _))
theorem zok:∀ (i:Nat) (r:GR),zbs[i]?=some r->zi2[i]?=some ⟨r.name,false,r.expr⟩/\okF 10 r.expr=true/\zar r.name:=by
 intro i r hr
 refine ⟨by unfold zi2;rw [List.getElem?_map,hr];rfl,?_⟩
 have h:=List.all_eq_true.1 qbp r (List.mem_of_getElem? hr)
 simp only [Bool.and_eq_true,List.all_eq_true,decide_eq_true_eq] at h
 exact ⟨h.1.1,h.1.2,by omega⟩
theorem zz9 {w w1 wr:World} {v vl:Value} {ysl:List LV} {ysi:List RV}
  (hli:∀ (i:Nat) (y:LV) (r:Rule),ysl[i]?=some y->zi2[i]?=some r->zei w1 (fun b=>w.heap.size<=b/\some b≠vl.ownBlock) y r) (hl:ysl.length=16) (hyl:ysi.length=16)
  (hd:∀ j,j<16->ysi[j]?=(ysl[j]?).map toRV) (hr:wr.ownsRow w1.heap.size 29 7 v 16 (ysi.flatMap RV.cells)) (hb1:Below w.heap.size w w1) (hb:Below w1.heap.size w1 wr):zg3 wr w.heap.size v ysi zbs:=by
 have hc:zbs.length=16:=by decide +kernel
 refine ⟨by rw [hc];exact zcx hr hb1.size,by rw [hyl,hc],fun i y r hy hr'=>?_⟩
 obtain ⟨h1,h2,h3⟩:=zok i r hr'
 have hi:i<16:=by rw [<- hyl];exact (List.getElem?_eq_some_iff.1 hy).1
 obtain ⟨Y,hY⟩:∃ Y,ysl[i]?=some Y:=⟨_,List.getElem?_eq_getElem (by omega)⟩
 have e:=hd i hi
 rw [hy,hY] at e
 have e:=Option.some.inj e
 subst e
 obtain ⟨g1,_,g3⟩:=hli i Y _ hY h1
 exact ⟨g1,h3,((g3.etp 10 h2).kept (M:=fun _=>False) (zap.below hb) (fun b hb _=>⟨id,hb.1⟩))⟩
theorem zqa {W:World} {base size:Nat} {e:TypeId} {v:Value} {xs:List Value} (h:W.ownsRow base e size v zi2.length xs):∃ g cap,v=.slice (some ⟨g,0,none⟩) 16 cap:=by
 have hl:zi2.length=16:=by decide +kernel
 rw [hl] at h
 rcases zan h with ⟨_,h0⟩ | ⟨g,cap,rfl⟩
 ·omega
 ·exact ⟨g,cap,rfl⟩
theorem zza (w:World):Calls Tryz.prog 13 #[] w (fun e w'=>∃ v ys,e=.returned v/\zg3 w' w.heap.size v ys zbs/\Below w.heap.size w w'):=by
 obtain ⟨i0,hi0,hz0,hz1,hz2⟩:=info_parts zrf
 have hmk:∀ u:World,(Instr.makeSlice 22 (.int .i64 16) (.int .i64 16)).run Tryz.prog u=.ok (.slice (some ⟨u.heap.size,0,none⟩) 16 16) (u.alloc (.cells (madeCells #[.string ⟨#[]⟩,.int .i64 0,.string ⟨#[]⟩,.slice none 0 0,.int .i64 0,.int .i64 0,.slice none 0 0] 112) 29)):=fun u=>by
  have h:=run_make (P:=Tryz.prog) u 22 29 i0 (.agg #[.string ⟨#[]⟩,.int .i64 0,.string ⟨#[]⟩,.slice none 0 0,.int .i64 0,.int .i64 0,.slice none 0 0]) Tryz.underlying22 hi0 hz0 .i64 .i64 16 16 (by omega) (Int.le_refl _) (by rw [hz2];omega) (by omega)
  simpa [hz1,Value.cells] using h
 go_enter Tryz.func13,Tryz.ntmps13
 go_wp2_with (go_at_call 32;refine (zw6 (by kernel_rfl)).mono ?_;rintro e w1 ⟨v,rfl,hl,hb⟩;obtain ⟨ysl,hyl,hrow,hli⟩:=hl;obtain ⟨gv,capv,rfl⟩:∃ g cap,v=.slice (some ⟨g,0,none⟩) 16 cap:=zqa hrow;have HLI:=hh9 hli;have HROW:=hh9 hrow;have HYL:=hh9 hyl;have HB1:=hh9 hb;clear hli hrow hyl hb)
 have hrow0:(w1.alloc (.cells (madeCells #[.string ⟨#[]⟩,.int .i64 0,.string ⟨#[]⟩,.slice none 0 0,.int .i64 0,.int .i64 0,.slice none 0 0] 112) 29)).ownsRow w1.heap.size 29 7 (.slice (some ⟨w1.heap.size,0,none⟩) 16 16) 16 ((List.replicate 16 RV0).flatMap RV.cells):=by
  have h:=row_of_block (size:=7) (n:=16) (Nat.le_refl _) (heap_alloc_new w1 (.cells (madeCells #[.string ⟨#[]⟩,.int .i64 0,.string ⟨#[]⟩,.slice none 0 0,.int .i64 0,.int .i64 0,.slice none 0 0] 112) 29)) (by unfold maxLen;omega) (by kernel_rfl)
  rw [ztb] at h
  exact h
 have HR0:=hh9 hrow0
 have HBM:Hid (Below w1.heap.size w1 (w1.alloc (.cells (madeCells #[.string ⟨#[]⟩,.int .i64 0,.string ⟨#[]⟩,.slice none 0 0,.int .i64 0,.int .i64 0,.slice none 0 0] 112) 29))):=(Below.refl _ _).alloc (Nat.le_refl _) _
 have hl16:zi2.length=16:=by decide +kernel
 have hgv:=zb0 (show w1.ownsRow w.heap.size 44 8 (.slice (some ⟨gv,0,none⟩) 16 capv) 16 (ysl.flatMap LV.cells) by have:=HROW.out;rwa [hl16] at this)
 have HYL16:Hid (ysl.length=16):=by have:=HYL.out;rwa [hl16] at this
 have HCL:Hid (∀ j u,(ysl.flatMap LV.cells)[j]?=some u->w1.cell? ⟨gv,j,none⟩=some u):=fun j u hj=>zaq (show w1.ownsRow w.heap.size 44 8 (.slice (some ⟨gv,0,none⟩) 16 capv) 16 (ysl.flatMap LV.cells) by have:=HROW.out;rwa [hl16] at this) hj
 have HL16:=hh9 hl16
 clear hrow0 hmk hl16
 go_loopw [15] (fun v wr=>∃ (i:Nat) (ysi:List RV),v=.int .i64 i/\i<=16/\ysi.length=16/\Hid (∀ j,j<i->ysi[j]?=(ysl[j]?).map toRV)/\Hid (wr.ownsRow w1.heap.size 29 7 (.slice (some ⟨w1.heap.size,0,none⟩) 16 16) 16 (ysi.flatMap RV.cells))/\Hid (Below w1.heap.size w1 wr)) (fun v _=>16-(intOf v).toNat)
 case atStart=>exact ⟨0,List.replicate 16 RV0,rfl,by omega,by simp,fun j hj=>by omega,HR0,HBM⟩
 case round =>
  obtain ⟨i,ysi,rfl,hi,hyl,HD,HR,HB⟩:=hrel
  by_cases hlt:i<16
  ·obtain ⟨Y,hY⟩:∃ y,ysl[i]?=some y:=⟨_,List.getElem?_eq_getElem (by rw [HYL16.out];exact hlt)⟩
   obtain ⟨Z,hZ⟩:∃ z,ysi[i]?=some z:=⟨_,List.getElem?_eq_getElem (by rw [hyl];exact hlt)⟩
   have CX:∀ (j:Nat) (u:Value),j<8->Y.cells[j]?=some u->wr.cell? ⟨gv,i*8+j,none⟩=some u:=fun j u hj hu =>
    (HB.out.cell (p:=⟨gv,i*8+j,none⟩) hgv.2.2.2).trans (HCL.out _ u ((zf3 ysl i j Y hY hj).trans hu))
   obtain ⟨rr,hrr⟩:∃ r,zi2[i]?=some r:=⟨_,List.getElem?_eq_getElem (by rw [HL16.out];exact hlt)⟩
   obtain ⟨b1,m1,d1,b5,m5,d5,hb1,hb5⟩:=zq9 (HLI.out i Y rr hY hrr).2.2
   obtain ⟨nm,mo,⟨k,tx,nv,lo,hi2,kv⟩⟩:=Y
   simp only [] at hb1 hb5
   subst hb1 hb5
   have hwl:w1.heap.size<wr.heap.size:=(zb0 HR.out).2.2.2
   have e0:=CX 0 _ (by omega) rfl
   have e1:=CX 1 _ (by omega) rfl
   have e2:=CX 2 _ (by omega) rfl
   have e3:=CX 3 _ (by omega) rfl
   have e4:=CX 4 _ (by omega) rfl
   have e5:=CX 5 _ (by omega) rfl
   have e6:=CX 6 _ (by omega) rfl
   have e7:=CX 7 _ (by omega) rfl
   rw [Nat.add_zero] at e0
   simp only [] at e0 e1 e2 e3 e4 e5 e6 e7
   have HY:=hh9 hY
   have HZ:=hh9 hZ
   have RX:∀ (j:Nat) (u:Value),j<7->Z.cells[j]?=some u->wr.cell? ⟨w1.heap.size,i*7+j,none⟩=some u/\wr.frozen? ⟨w1.heap.size,i*7+j,none⟩=false:=fun j u hj hu=>⟨zmw HR.out ((zct ysi i j Z hZ hj).trans hu),zcy HR.out _⟩
   obtain ⟨r0,q0⟩:=RX 0 _ (by omega) rfl
   obtain ⟨r1,q1⟩:=RX 1 _ (by omega) rfl
   obtain ⟨r2,q2⟩:=RX 2 _ (by omega) rfl
   obtain ⟨r3,q3⟩:=RX 3 _ (by omega) rfl
   obtain ⟨r4,q4⟩:=RX 4 _ (by omega) rfl
   obtain ⟨r5,q5⟩:=RX 5 _ (by omega) rfl
   obtain ⟨r6,q6⟩:=RX 6 _ (by omega) rfl
   rw [Nat.add_zero] at r0 q0
   have hstep:(setR wr w1.heap.size (i*7) ⟨nm,⟨k,tx,.slice b1 m1 d1,lo,hi2,.slice b5 m5 d5⟩⟩).ownsRow w1.heap.size 29 7 (.slice (some ⟨w1.heap.size,0,none⟩) 16 16) 16 ((ysi.set i ⟨nm,⟨k,tx,.slice b1 m1 d1,lo,hi2,.slice b5 m5 d5⟩⟩).flatMap RV.cells):=by
    have h7:=zbe (zbe (zbe (zbe (zbe (zbe (zbe HR.out (i*7) (.string nm)) (i*7+1) (.int .i64 k)) (i*7+2) (.string tx)) (i*7+3) (.slice b1 m1 d1)) (i*7+4) (.int .i64 lo)) (i*7+5) (.int .i64 hi2)) (i*7+6) (.slice b5 m5 d5)
    have e:=zoj ysi i ⟨nm,⟨k,tx,.slice b1 m1 d1,lo,hi2,.slice b5 m5 d5⟩⟩ (by rw [hyl];exact hlt)
    simp only [] at e
    rw [e] at h7
    exact h7
   have hbel:Below w1.heap.size w1 (setR wr w1.heap.size (i*7) ⟨nm,⟨k,tx,.slice b1 m1 d1,lo,hi2,.slice b5 m5 d5⟩⟩):=HB.out.grown (ztc _ _ _ _) (by omega) (fun b e=>by have:=Option.some.inj e;omega)
   have HD2:Hid (∀ j,j<i+1->(ysi.set i ⟨nm,⟨k,tx,.slice b1 m1 d1,lo,hi2,.slice b5 m5 d5⟩⟩)[j]?=(ysl[j]?).map toRV):=fun j hj=>by
    by_cases hji:j=i
    ·subst hji
     rw [List.getElem?_set_self (by rw [hyl];exact hlt),HY.out]
     rfl
    ·rw [List.getElem?_set_ne (by omega)]
     exact HD.out j (by omega)
   have hstep:=zb3 hstep ((Below.refl _ _).alloc (Nat.le_refl _) (.cells #[.string nm,.bool mo,.int .i64 k,.string tx,.slice b1 m1 d1,.int .i64 lo,.int .i64 hi2,.slice b5 m5 d5] 44))
   have hbel:=hbel.alloc hbel.size (.cells #[.string nm,.bool mo,.int .i64 k,.string tx,.slice b1 m1 d1,.int .i64 lo,.int .i64 hi2,.slice b5 m5 d5] 44)
   unfold setR at hstep hbel
   simp only [] at hstep hbel
   have HST:=hh9 hstep
   have HBE:=hh9 hbel
   clear CX hY hZ hrr RX hstep hbel
   go_wp2_with fail
   go_roundw
   case rel=>exact ⟨i+1,ysi.set i ⟨nm,⟨k,tx,.slice b1 m1 d1,lo,hi2,.slice b5 m5 d5⟩⟩,by go_num,by omega,by rw [List.length_set];exact hyl,HD2,HST,HBE⟩
   case measure=>simp [intOf];omega
  ·obtain rfl:i=16:=by omega
   have HEND:=hh9 (zz9 HLI.out HYL16.out hyl HD.out HR.out HB1.out HB.out)
   clear HR
   go_wp2_with fail
   go_ret
   exact ⟨_,ysi,rfl,HEND.out,za0 HB1.out HB.out⟩
end Go.Proofs.YtdgcmiecgnmdjaaGreatDoor
