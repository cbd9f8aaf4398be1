/- Part 44 of what the laws of the grammar rest on. -/
import Derived.Test.YtahibnnhjahmnaaGreatDoorA43
set_option linter.all false
set_option maxRecDepth 100000
set_option maxHeartbeats 8000000
namespace Go.Proofs.YtahibnnhjahmnaaGreatDoor
open Go.RowKit
theorem zna(l:List Rule):l.all iZ=true->((l.map dZ).flatten).length<=60*ko l:=by
 induction l with
 |nil=>simp
 |cons r l ih =>
  intro h;rw[List.all_cons,zbJ]at h;have h1:=ih h.2;have h2:=h.1;unfold iZ at h2;rw[zbJ]at h2;have h3:=QO 50 r.expr h2.2;have h4:r.name.length<=40:=(Hf h2.1).1
  have h5:(dZ r).length<=r.name.length+4+(aI 50 r.expr).length+1:=by
   unfold dZ;simp only[zbG,List.length_cons,List.length_nil];have:(if r.more=true then [32,61,47,32] else [32,61,32]:List Int).length<=4:=by split<;>simp
   omega
  unfold ko at h1 ⊢;simp only[List.map_cons,List.flatten_cons,zbG,List.sum_cons]at h1 ⊢;omega
def Vt(l:List Rule)(w:World)(e:Ending)(w':World):Prop :=
 ∃ (v:Value) (ys:List RV) (g:List GR) (er:Int),e=.returned (.tuple #[v,.int .i64 er])/\qR l g er/\qF w' v ys g/\Below w.heap.size w w'
theorem PV(W:World):qF W (.slice none 0 0) [] []:=⟨.inl ⟨rfl,_,_,rfl⟩,rfl,fun i y r h=>by simp at h⟩
theorem Vu:(Tryz.prog.info? 33).map (fun i=>(i.zero,i.size,i.bytes))=some (some (.agg #[.string ⟨#[]⟩,.int .i64 0,.string ⟨#[]⟩,.slice none 0 0,.int .i64 0,.int .i64 0,.slice none 0 0]),7,104):=by kernel_rfl
theorem kH.old{w W:World}{v:Value}{X:XV}{t:Tree}(h:aM w X t)(hb:Below w.heap.size w W)(hv:∀ b,v.ownBlock=some b->w.heap.size<=b):kH W (fun b=>some b≠v.ownBlock) X t :=
 (kH.of (P:=fun b=>b<w.heap.size) h (fun b hb=>hb)).kept ⟨hb.size,fun b hl _=>⟨hb.block b hl,fun e=>by have:=hv b e.symm;omega⟩⟩
theorem znb:∀ {ls:List Rule} {g g':List GR},lg g ls=some g'->(∀ r∈g,0<(fO r.expr).length)->(∀ r∈ls,0<(fO r.expr).length)->∀ r∈g',0<(fO r.expr).length
 |[],g,g',h,hg,_=>by
  have e:=zbB h;subst e;exact hg
 |l::ls,g,g',h,hg,hl=>by
  rw[Al]at h
  cases hq:jQ g l with
  |none=>rw[hq]at h;cases h
  |some g1 =>
   rw[hq]at h;refine znb h ?_ (fun r hr=>hl r (by simp[hr]));have h0:=hl l (by simp);unfold jQ at hq
   cases hf:bI g l.name with
   |none =>
    rw[hf]at hq;simp only[]at hq;split at hq
    ·cases hq
    ·have e:=zbB hq;subst e;intro r hr;rcases List.mem_append.1 hr with h1|h1
     ·exact hg r h1
     ·simp at h1;subst h1;exact h0
   |some i =>
    rw[hf]at hq;simp only[]at hq;split at hq
    ·obtain⟨r1,h1,h2⟩:=Option.map_eq_some_iff.1 hq;subst h2;intro r hr;rcases List.mem_or_eq_of_mem_set hr with h3|h3
     ·exact hg r h3
     ·subst h3;show 0<(fO (uD r1.expr l.expr)).length
      unfold uD;rw[Ir,if_pos rfl,zbG];omega
    ·cases hq
theorem zrw{w:World}{v:Value}{ys:List LV}{l:List Rule}(h:dz w v ys l)(hw:l.all iZ=false)(ht:ko l<=9000):Calls Tryz.prog 18 #[v] w (Vt l w):=by
 have HT:=hh9 (zqc h (fun i hi=>by have h1:=zna _ hi;have h2:=OU l i;omega));unfold D7 at HT;rw[Z0 hw]at HT;have HJ:Hid (qR l [] 1):=.inl ⟨hw,rfl,rfl⟩;obtain⟨a,c,rfl,_⟩:=h.1.slice;clear h hw;go_enter Tryz.func18,Tryz.ntmps18;go_wp2_with fail
 refine HT.out.mono ?_;rintro e w1 ⟨rfl,hb⟩;have HB:=hh9 hb;clear hb;go_wp2_with fail
 refine bodyPost_ret (results_tmp2 rfl _ _ _) rfl ?_;exact⟨_,[],[],1,rfl,HJ.out,PV _,HB.out⟩
structure iW (W:World) (P:Nat->Prop) (v:Value) (ys:List RV) (g:List GR):Prop where
 row:lH W P v g.length (ys.flatMap RV.cells)
 len:ys.length=g.length
 each:∀ (i:Nat) (y:RV) (r:GR),ys[i]?=some y->g[i]?=some r->y.name=ak r.name/\bJ r.name/\kH W P y.expr r.expr
theorem iW.rules{W:World}{P:Nat->Prop}{v:Value}{ys:List RV}{g:List GR}(h:iW W P v ys g):qF W v ys g:=⟨h.row.any,h.len,fun i y r hy hr=>⟨(h.each i y r hy hr).1,(h.each i y r hy hr).2.1,(h.each i y r hy hr).2.2.any⟩⟩
theorem iW.kept{W W':World}{P P':Nat->Prop}{v:Value}{ys:List RV}{g:List GR}(h:iW W P v ys g)(hk:Eh W W' P P'):iW W' P' v ys g:=⟨h.row.kept hk,h.len,fun i y r hy hr=>⟨(h.each i y r hy hr).1,(h.each i y r hy hr).2.1,(h.each i y r hy hr).2.2.kept hk⟩⟩
theorem PW{W W':World}{P:Nat->Prop}(hb:Below W.heap.size W W'):Eh W W' P P:=⟨hb.size,fun b hp hl=>⟨hb.block b hl,hp⟩⟩
theorem zrx{W w':World}{v v':Value}(hg:W.grownBy w' v.ownBlock)(hat:v'.ownBlock=v.ownBlock\/v'.ownBlock=some W.heap.size):Eh W w' (fun b=>some b≠v.ownBlock) (fun b=>some b≠v'.ownBlock):=⟨hg.size,fun b hp hl=>⟨hg.block b hl hp,fun e=>by
 rcases hat with h1|h1
 ·exact hp (e.trans h1)
 ·have:=zbB (e.trans h1);omega⟩⟩
theorem iL.q{W:World}{P P':Nat->Prop}{v:Value}{n:Nat}{xs:List Value}(h:iL W P v n xs)(hP:∀ b,wO W b->P' b):lH W P' v n xs:=by
 rcases h with h|⟨g,off,cap,h1,h2,h3,h4,_,h5⟩
 ·exact .inl h
 ·exact .inr ⟨g,off,cap,h1,h2,h3,h4.lt,hP g h4,h5⟩
theorem dX.q{W:World}{P P':Nat->Prop}{X:XV}{t:Tree}(h:dX W P X t)(hP:∀ b,wO W b->P' b):kH W P' X t:=by
 induction h with
 |mk vs h0 hl h1 h2 h3 _ ih=>exact .mk vs h0 hl (h1.q hP) (h2.q hP) h3 ih
theorem iW.start{W:World}{gc c base n:Nat}{vg:Value}{xs:List Value}{ys:List RV}{g:List GR}{m:Nat}(hm:m=g.length)(hX:oV W (.slice (some ⟨gc,0,none⟩) m c) ys g)(ho:W.ownsRow base 33 7 vg n xs)(hne:some gc≠vg.ownBlock):iW W (fun b=>some b≠vg.ownBlock) (.slice (some ⟨gc,0,none⟩) m c) ys g:=by
 refine⟨?_,hX.2.1,fun i y r hy hr=>⟨(hX.2.2 i y r hy hr).1,(hX.2.2 i y r hy hr).2.1,(hX.2.2 i y r hy hr).2.2.q fun b hb e=>?_⟩⟩
 ·rcases hX.1 with h|⟨g1,off,cap,e,h2,h3,h4,h5⟩
  ·exact .inl h
  ·refine .inr ⟨g1,off,cap,e,h2,h3,h4,?_,h5⟩;injection e with e
   injection e with e
   injection e with e
   subst e;exact hne
 ·obtain⟨cs,t,ht,hblk⟩:=hb;have:=AB ho e.symm hblk;subst this;revert ht;unfold KT
  decide
theorem vG.Gz{W W':World}{base k size:Nat}{e:TypeId}{nv v:Value}{ns:List (List Int)}{xs:List Value}(hr:W'.ownsRow W.heap.size 9 1 nv ns.length (gy ns))(hv:W.ownsRow base e size v k xs):∃ a c,nv=.slice a ns.length c/\vG W' a ns v:=by
 rcases fB hr with ⟨rfl,h0⟩|⟨g,cap,rfl⟩
 ·exact⟨none,0,by rw[h0],fun h=>by omega⟩
 ·obtain⟨h1,_,_,h4⟩:=iX hr;refine⟨_,_,rfl,fun _=>⟨g,rfl,h4,fun e=>?_,fun q u hq=>by simpa using eZ hr hq⟩⟩;obtain⟨cur,hc⟩:=ou hv e;have:=(zbD.1 hc).1;omega
theorem zry{g g3:List GR}{ns:List (List Int)}{q:Nat}{x:List Int}(h:jw g (ns.take q)=some g3)(hx:ns[q]?=some x):jw g (ns.take (q+1))=dO g3 x:=by
 rw[List.take_add_one,hx,Option.toList_some,Nz,h];show (dO g3 x).bind (fun g'=>jw g' [])=_
 cases dO g3 x<;>rfl
theorem zzb{w:World}:Calls Tryz.prog 37 #[] w (fun e w'=>∃ g c ys,e=.returned (.slice (some ⟨g,0,none⟩) 16 c)/\w.heap.size<=g/\oV w' (.slice (some ⟨g,0,none⟩) 16 c) ys fJ/\Below w.heap.size w w') :=
 zye.mono fun e w' ⟨v,ys,he,hX,⟨g,c,hv,hg⟩,hb⟩=>by
  have hl:fJ.length=16:=by decide +kernel
  rw[hl]at hv;subst hv;exact⟨g,c,ys,he,hg,hX,hb⟩
theorem zzc{w:World}{ops:Array Oper}{rest:List Oper}{o:Oper}{a:Act}{Q:Exit->Act->World->Prop}(hgd:o.guard=none)(sx xx:Operand)
  (ho:o.op=.call { callee:=.builtin .append,args:=#[sx,xx],argTypes:=#[25,25] }) (base g cap n:Nat) (v:Value) (ys:List RV) (y:RV) (hs:a.eval sx=v) (hx:a.eval xx=.slice (some ⟨g,0,none⟩) 1 cap)
  (h:w.ownsRow base 33 7 v n (ys.flatMap RV.cells)) (h2:w.heap[g]?=some (.cells y.arr 33 (0,0))) (h1:∀ u∈y.cells,u.oneCell'=true) (hle:n<=100000000) (hbase:base<=w.heap.size)
  (K:∀ v' w',w'.ownsRow base 33 7 v' (n+1) ((ys++[y]).flatMap RV.cells)->w.grownBy w' v.ownBlock->(v'.ownBlock=v.ownBlock\/v'.ownBlock=some w.heap.size)->wpList Tryz.prog ops Q rest (a.put o.dst v') w'):wpList Tryz.prog ops Q (o::rest) a w:=by
 obtain⟨i0,hi0,hz0,hz1,hz2⟩:=info_parts Vu;refine wpList_append_own_at _ hgd sx xx 25 ho base 33 i0 _ 7 104 Tryz.underlying25 hi0 hz0 hz1 hz2 rfl (by decide) v n (ys.flatMap RV.cells) hs h ⟨g,0,none⟩ 1 cap y.cells hx rfl (World.news_of_block h2) h1 (by unfold maxLen;omega) (by omega) hbase ?_;intro v' w' hown hgrow _ hat;have e:(ys++[y]).flatMap RV.cells=ys.flatMap RV.cells++y.cells:=by simp
 exact K v' w' (by rw[e];exact hown) hgrow hat
theorem zrz{w:World}{v:Value}{ys:List LV}{l:List Rule}(h:dz w v ys l)(hw:l.all iZ=true)(ht:ko l<=9000):Calls Tryz.prog 18 #[v] w (Vt l w):=by
 have HT:=hh9 (zqc h (fun i hi=>by have h1:=zna _ hi;have h2:=OU l i;omega));unfold D7 at HT;rw[ZY hw]at HT;have HH:=hh9 h;have HW:=hh9 hw
 obtain⟨a,n,c,rfl,hn⟩:∃ a n c,v=.slice a n c/\n=l.length:=by
  obtain⟨a,c,h,_⟩:=h.1.slice;exact⟨a,_,c,h,rfl⟩
 have HN:=hh9 hn;have Z4:=Le l;have Lg:n<=9000:=by omega
 have nW:=hh9 ht;obtain⟨TX,Lh⟩:∃ TX,TX=ak ((l.map dZ).flatten):=⟨_,rfl⟩
 rw[<- Lh]at HT;clear h hw hn Lh ht Z4;go_enter Tryz.func18,Tryz.ntmps18;go_wp2_with fail
 refine HT.out.mono ?_;rintro e w1 ⟨rfl,hb⟩;have HB:=hh9 hb;have HD0:=hh9 ((D5.start w).below hb);clear hb;go_wp2_with fail
 go_loopw [6,7] (fun s v wr=>∃ (i N c:Nat) (a:Option Addr) (ys':List RV) (g':List GR),s=.slice a N c/\v=.int .i64 i/\i<=n/\N<=9000/\Hid (N=g'.length)/\Hid (lg [] (l.take i)=some g')/\Hid (D5 w wr (.slice a N c) ys' g')) (fun _ v _=>n-(intOf v).toNat)
 case atStart=>exact⟨0,0,0,none,[],[],rfl,rfl,by omega,by omega,rfl,rfl,HD0⟩
 case round =>
  obtain⟨i,N,cg,ag,ys',g',rfl,rfl,hi,hN9,Et,A8,HD⟩:=hrel;by_cases hlt:i<n
  ·obtain⟨b,off,ha,hb3,hcs⟩:∃ b off,a=some ⟨b,off,none⟩/\b<w.heap.size/\∀ (j:Nat) (u:Value),(ys.flatMap LV.cells)[j]?=some u->w.cell? ⟨b,off+j,none⟩=some u:=by
    rcases HH.out.1 with ⟨h0,_⟩|⟨b,off,cap,h1,_,_,h3,h4⟩
    ·have:=HN.out;omega
    ·injection h1 with h1
     exact⟨b,off,h1,h3,h4⟩
   subst ha;obtain⟨Y,hY⟩:∃ y,ys[i]?=some y:=⟨_,zbC (by rw[HH.out.2.1,<- HN.out];exact hlt)⟩
   obtain⟨r,hr⟩:∃ y,l[i]?=some y:=⟨_,zbC (by rw[<- HN.out];exact hlt)⟩
   have yM:=HH.out.2.2 i Y r hY hr;have hmem:=zbI hr
   have hrr:dK 50 r.expr=true:=by
    have:=List.all_eq_true.1 HW.out r hmem;unfold iZ at this;rw[zbJ]at this;exact this.2
   have hrt:=ZV hmem;obtain⟨hsm,hgl⟩:=Lf A8.out nW.out;have hstep:=ZW A8.out hr;have M4:∀ g2,jQ g' r=some g2->g2.length<=9000:=fun g2 h2=>(Lf (hstep.trans h2) nW.out).2
   have CX:∀ (W:World),Below w.heap.size w W->∀ (j:Nat) (u:Value),j<8->Y.cells[j]?=some u->W.cell? ⟨b,off+(i*8+j),none⟩=some u:=fun W hb j u hj hu =>
    (hb.cell (p:=⟨b,off+(i*8+j),none⟩) hb3).trans (hcs _ u ((EN ys i j Y hY hj).trans hu))
   obtain⟨hnm,M5,M6,hmo,PX⟩:=yM;have hto:bJ r.name:=⟨M5,M6⟩
   have hq0:=(kH.of (P:=fun _=>True) PX (fun _ _=>trivial)).forms;obtain⟨nm,mo,XX⟩:=Y;simp only[]at hnm hmo PX hq0;obtain⟨k,tx,lo,hi2,a1,n1,c1,a2,n2,c2,rfl⟩:=hq0;have hF:=NR HD.out.rules hto;rw[<- hnm]at hF;have HF:=hh9 hF;have f0:=CX wr HD.out.dP 0 _ (by omega) rfl;rw[Nat.add_zero]at f0;simp only[]at f0;have lF:=hh9 CX;have Ke:=hh9 hto;have iM:=hh9 hnm;have OH:=hh9 PX;have oW:=hh9 hstep;have Vv:=hh9 M4;have M7:=hh9 (TQ hrr);have HTL:=hh9 (OQ r.expr);have HRT:=hh9 (zbH hrt nW.out);have oH:=hh9 hsm;have q1:decide ((i:Int)<(n:Int))=true:=zbN (by omega);clear CX hcs hY hr hmem hstep M4 hrr hrt hF hnm hto M5 M6 PX hsm hgl
   cases hf:bI g' r.name with
   |none =>
    rw[ED hf]at HF;have M8:=hh9 hf;clear hf
    cases mo with
    |true =>
     have Ac:Hid (lg [] l=none):=by
      refine TT (i:=i+1) (oW.out.trans ?_);unfold jQ;rw[M8.out];simp only[];rw[if_pos hmo.symm]
     clear hmo;go_wp2_with fail
     refine HF.out.mono ?_;rintro e w2 ⟨rfl,hb2⟩;have HD2:=hh9 (HD.out.below hb2);have f1:=lF.out w2 HD2.out.dP 1 _ (by omega) rfl;rw[<- Nat.add_assoc]at f1;simp only[]at f1;clear hb2;go_wp2_with fail
     refine bodyPost_ret (results_tmp2 rfl _ _ _) rfl ?_;exact⟨_,[],[],41,rfl,.inr ⟨HW.out,.inl ⟨Ac.out,rfl,rfl⟩⟩,PV _,HD2.out.dP⟩
    |false =>
     have PY:Hid (jQ g' r=some (g'++[⟨r.name,r.expr⟩])):=by
      unfold Hid jQ;rw[M8.out];simp only[];rw[if_neg (by rw[<- hmo];simp)]
     clear hmo;go_wp2_with fail
     refine HF.out.mono ?_;rintro e w2 ⟨rfl,hb2⟩;have HD2:=hh9 (HD.out.below hb2);have f0:=lF.out w2 HD2.out.dP 0 _ (by omega) rfl;have f1:=lF.out w2 HD2.out.dP 1 _ (by omega) rfl;have f2:=lF.out w2 HD2.out.dP 2 _ (by omega) rfl;have f3:=lF.out w2 HD2.out.dP 3 _ (by omega) rfl;have f4:=lF.out w2 HD2.out.dP 4 _ (by omega) rfl;have f5:=lF.out w2 HD2.out.dP 5 _ (by omega) rfl;have f6:=lF.out w2 HD2.out.dP 6 _ (by omega) rfl;have f7:=lF.out w2 HD2.out.dP 7 _ (by omega) rfl;rw[<- Nat.add_assoc]at f0 f1 f2 f3 f4 f5 f6 f7;rw[Nat.add_zero]at f0;simp only[]at f0 f1 f2 f3 f4 f5 f6 f7;clear hb2;have hbd:Below w2.heap.size w2 ((w2.drew).alloc (.cells #[.string nm,.int .i64 k,.string tx,.slice a1 n1 c1,.int .i64 lo,.int .i64 hi2,.slice a2 n2 c2] 33)):=(show Below w2.heap.size w2 w2.drew from dJ (zbE _ _) 1).alloc (zbA _) _;have PZ:=hh9 (HD2.out.below hbd)
     have Ad:Hid (((w2.drew).alloc (.cells #[.string nm,.int .i64 k,.string tx,.slice a1 n1 c1,.int .i64 lo,.int .i64 hi2,.slice a2 n2 c2] 33)).ownsRow w.heap.size 33 7 (.slice ag N cg) N (ys'.flatMap RV.cells)):=by
      have h:=PZ.out.row;rw[<- Et.out]at h;exact h
     have hwb:=HD2.out.dP.size;obtain⟨i0,hi0,hz0,hz1,hz2⟩:=info_parts Vu;clear hbd;go_wp2_with fail
     go_region_law (refine step_append_lies _ (by rfl) _ _ _ (by rfl) w.heap.size 33 i0 _ 7 104 Tryz.underlying25 hi0 hz0 hz1 hz2 rfl (by omega) (.slice ag N cg) N (ys'.flatMap RV.cells) (by rfl) Ad.out ⟨w2.heap.size,0,none⟩ 1 1 [.string nm,.int .i64 k,.string tx,.slice a1 n1 c1,.int .i64 lo,.int .i64 hi2,.slice a2 n2 c2] (by rfl) (by rfl) (RH _ _ _ _ rfl) (by intro u hu;simp at hu;rcases hu with rfl|rfl|rfl|rfl|rfl|rfl|rfl<;>rfl) (by omega) (by unfold maxLen;omega) (by omega) (by simp;omega) (w2.heap.size+1) (by simp) ?_;intro gb cap w7 hown hgrow hat M9;have HOWN:=hh9 hown;have bF:=hh9 hgrow;have HAT:=hh9 hat;clear hown hgrow hat)
     all_goals
      have hlen:(g'++[(⟨r.name,r.expr⟩:GR)]).length=N+1:=by rw[zbG,Et.out];rfl
      have hown:w7.ownsRow w.heap.size 33 7 (.slice (some ⟨gb,0,none⟩) (N+1) cap) (g'++[(⟨r.name,r.expr⟩:GR)]).length ((ys'++[(⟨nm,⟨k,tx,.slice a1 n1 c1,lo,hi2,.slice a2 n2 c2⟩⟩:RV)]).flatMap RV.cells):=by
       rw[hlen];simpa[RV.cells]using HOWN.out
      have Na:((w2.drew).alloc (.cells #[.string nm,.int .i64 k,.string tx,.slice a1 n1 c1,.int .i64 lo,.int .i64 hi2,.slice a2 n2 c2] 33)).heap.size=w2.heap.size+1:=by simp
      have hD7:=PZ.out.push (v':=.slice (some ⟨gb,0,none⟩) (N+1) cap) (y:=⟨nm,⟨k,tx,.slice a1 n1 c1,lo,hi2,.slice a2 n2 c2⟩⟩) hown bF.out (HAT.out.elim (fun e=>.inl e.symm) (fun e=>.inr (by rw[Na,e];rfl))) (r:=(⟨r.name,r.expr⟩:GR)) iM.out Ke.out (kH.old OH.out PZ.out.dP (lD PZ.out.row));have HD7:=hh9 hD7;have P5:=Vv.out _ PY.out;rw[hlen]at P5;have HL7:=hh9 hlen.symm;have Vw:=hh9 (oW.out.trans PY.out);clear hD7 hown hlen Na;go_wp2_with fail
      go_roundw
      case rel=>exact⟨i+1,N+1,cap,_,_,_,rfl,by go_num,by omega,P5,HL7,Vw,HD7⟩
      case measure=>(simp[intOf]<;>omega)
   |some kk =>
    obtain⟨⟨r0,hr0,hrn⟩,_⟩:=tN.1 hf;rw[Dq hf]at HF;have M8:=hh9 hf;have Cu:=hh9 hr0;have hk9:kk<N:=by rw[Et.out];exact(zbF.1 hr0).1
    have q2:decide ((kk:Int) ≥ 0)=true:=zbN (by omega);have q3:decide ((kk:Int)<0)=false:=zbM (by omega);clear hf hr0 hrn
    cases mo with
    |false =>
     have Ac:Hid (lg [] l=none):=by
      refine TT (i:=i+1) (oW.out.trans ?_);unfold jQ;rw[M8.out];simp only[];rw[if_neg (by rw[<- hmo];simp)]
     clear hmo;go_wp2_with fail
     refine HF.out.mono ?_;rintro e w2 ⟨rfl,hb2⟩;have HD2:=hh9 (HD.out.below hb2);have f1:=lF.out w2 HD2.out.dP 1 _ (by omega) rfl;rw[<- Nat.add_assoc]at f1;simp only[]at f1;clear hb2;go_wp2_with fail
     refine bodyPost_ret (results_tmp2 rfl _ _ _) rfl ?_;exact⟨_,[],[],41,rfl,.inr ⟨HW.out,.inl ⟨Ac.out,rfl,rfl⟩⟩,PV _,HD2.out.dP⟩
    |true =>
     have hTM:jQ g' r=some (g'.set kk ⟨r0.name,uD r0.expr r.expr⟩):=by
      unfold jQ;rw[M8.out];simp only[];rw[if_pos hmo.symm,Cu.out];rfl
     have PY:=hh9 hTM;clear hmo hTM;go_wp2_with fail
     refine HF.out.mono ?_;rintro e w2 ⟨rfl,hb2⟩;have HD2:=hh9 (HD.out.below hb2);have f1:=lF.out w2 HD2.out.dP 1 _ (by omega) rfl;have f2:=lF.out w2 HD2.out.dP 2 _ (by omega) rfl;have f3:=lF.out w2 HD2.out.dP 3 _ (by omega) rfl;have f4:=lF.out w2 HD2.out.dP 4 _ (by omega) rfl;have f5:=lF.out w2 HD2.out.dP 5 _ (by omega) rfl;have f6:=lF.out w2 HD2.out.dP 6 _ (by omega) rfl;have f7:=lF.out w2 HD2.out.dP 7 _ (by omega) rfl;rw[<- Nat.add_assoc]at f1 f2 f3 f4 f5 f6 f7;simp only[]at f1 f2 f3 f4 f5 f6 f7;obtain⟨Z,hZ⟩:∃ y,ys'[kk]?=some y:=⟨_,zbC (by rw[HD2.out.len,<- Et.out];exact hk9)⟩
     obtain⟨gr,hag⟩:∃ gr,ag=some ⟨gr,0,none⟩:=by
      rcases fB HD2.out.row with ⟨h0,_⟩|⟨g1,c1,h1⟩
      ·injection h0 with _ h0
       omega
      ·injection h1 with h1
       exact⟨g1,h1⟩
     subst hag;obtain⟨hzn,Vx,Bg⟩:=HD2.out.each kk Z r0 hZ Cu.out;obtain⟨zk,IX,IY,IZ,I5,I6,I7,I8,I9,Ja,Nb⟩:=Bg.forms;obtain⟨Vy,ZX⟩:=Z;simp only[]at Nb Bg hzn;subst Nb
     have hrow2:w2.ownsRow w.heap.size 33 7 (.slice (some ⟨gr,0,none⟩) N cg) N (ys'.flatMap RV.cells):=by
      have h:=HD2.out.row;rw[<- Et.out]at h;exact h
     have GX:∀ (j:Nat) (u:Value),j<7->(RV.cells ⟨Vy,⟨zk,IX,.slice I5 I6 I7,IY,IZ,.slice I8 I9 Ja⟩⟩)[j]?=some u->w2.cell? ⟨gr,kk*7+j,none⟩=some u:=fun j u hj hu=>eZ hrow2 ((uI ys' kk j _ hZ hj).trans hu)
     have Nc:=(iX hrow2).2.2.2;have y1:=GX 1 _ (by omega) rfl;have y2:=GX 2 _ (by omega) rfl;have y3:=GX 3 _ (by omega) rfl;have y4:=GX 4 _ (by omega) rfl;have y5:=GX 5 _ (by omega) rfl;have y6:=GX 6 _ (by omega) rfl;have hbd:Below w2.heap.size w2 w2.drew:=dJ (zbE _ _) 1;have hEL:kH w2.drew (fun b=>some b≠(Value.slice (some ⟨gr,0,none⟩) N cg).ownBlock) ⟨k,tx,.slice a1 n1 c1,lo,hi2,.slice a2 n2 c2⟩ r.expr:=kH.old OH.out (aJ HD2.out.dP hbd) (lD HD2.out.row);have KG:kH w2.drew (fun b=>some b≠(Value.slice (some ⟨gr,0,none⟩) N cg).ownBlock) ⟨zk,IX,.slice I5 I6 I7,IY,IZ,.slice I8 I9 Ja⟩ r0.expr:=Bg.kept ⟨hbd.size,fun b hp hl=>⟨hbd.block b hl,hp⟩⟩
     have hap:0<(fO r0.expr).length:=znb A8.out (fun r h=>by cases h) (fun r h=>by
      have:=List.all_eq_true.1 HW.out r (List.mem_of_mem_take h);unfold iZ at this;rw[zbJ]at this;exact TQ this.2) r0 (zbI Cu.out)
     obtain⟨Vz,VA,VB,hcZ⟩:=KG.alts hap;obtain⟨VD,P6,VE,hcL⟩:=hEL.alts M7.out
     have nQ:=zxv (w:=w2.drew) (k1:=zk) (l1:=IY) (h1:=IZ) (k2:=k) (l2:=lo) (h2:=hi2) (t1:=IX) (t2:=tx) (a1:=I5) (a2:=a1) (b1:=I8) (b2:=a2) (m1:=I6) (m2:=n1) (d1:=I7) (d2:=c1) (n1:=I9) (n2:=n2) (e1:=Ja) (e2:=c2) (vs1:=Vz) (vs2:=VD) (by omega) (by rw[P6];exact M7.out) hcZ hcL (zyk VA VB) (zyk P6 VE) (by
      have h1:=HTL.out;have h2:=HRT.out;have h3:=OQ r0.expr;have h4:=oH.out r0 (zbI Cu.out);omega)
     have fH:=hh9 nQ;have HHZ:=hh9 hZ;have jZ:=hh9 hrow2;have Jb:=hh9 GX;have GA:=hh9 (fun (w3:World) (va:Value) (hb3:Below w2.drew.heap.size w2.drew w3) (ho:w3.ownsRow w2.drew.heap.size 29 6 va (Vz++VD).length ((Vz++VD).flatMap XV.cells))=>kH.merged (n:=0) (P:=fun b=>some b≠some gr) (W:=w2.drew) (base:=w2.drew.heap.size) (fun b hb e=>by have h1:=zbB e;have h2:w2.drew.heap.size=w2.heap.size:=rfl;omega) VA P6 ⟨hb3.size,fun b hp hl=>⟨hb3.block b hl,hp⟩⟩ VB VE ho);have Jc:=hh9 (AJ hrow2);have sI:=hh9 Nc;have q5:decide ((kk:Int)<(N:Int))=true:=zbN (by omega);clear hZ hrow2 GX hzn Vx Bg hbd hEL KG hap VA VB hcZ P6 VE hcL nQ Nc;go_wp2_with fail
     go_region_law (first
      |((try go_simp);go_at_call 36;(with_reducible (refine fH.out.mono ?_));rintro e w3 ⟨ja,jn,jc,rfl,hj,hb3⟩;have HB3:=hh9 hb3;have HJ:=hh9 hj;have HJX:=hh9 (GA.out _ _ hb3 hj);have hkb:=(show Below w2.heap.size w2 w3 from(show Below w2.heap.size w2 w2.drew from dJ (zbE _ _) 1).trans hb3);have x1:=(hkb.cell (p:=⟨gr,kk*7+1,none⟩) sI.out).trans (Jb.out 1 _ (by omega) rfl);have x2:=(hkb.cell (p:=⟨gr,kk*7+2,none⟩) sI.out).trans (Jb.out 2 _ (by omega) rfl);have x3:=(hkb.cell (p:=⟨gr,kk*7+3,none⟩) sI.out).trans (Jb.out 3 _ (by omega) rfl);have x4:=(hkb.cell (p:=⟨gr,kk*7+4,none⟩) sI.out).trans (Jb.out 4 _ (by omega) rfl);have x5:=(hkb.cell (p:=⟨gr,kk*7+5,none⟩) sI.out).trans (Jb.out 5 _ (by omega) rfl);have x6:=(hkb.cell (p:=⟨gr,kk*7+6,none⟩) sI.out).trans (Jb.out 6 _ (by omega) rfl);have z1:=(hkb.frozen (p:=⟨gr,kk*7+1,none⟩) sI.out).trans (Jc.out (kk*7+1));have z2:=(hkb.frozen (p:=⟨gr,kk*7+2,none⟩) sI.out).trans (Jc.out (kk*7+2));have z3:=(hkb.frozen (p:=⟨gr,kk*7+3,none⟩) sI.out).trans (Jc.out (kk*7+3));have z4:=(hkb.frozen (p:=⟨gr,kk*7+4,none⟩) sI.out).trans (Jc.out (kk*7+4));have z5:=(hkb.frozen (p:=⟨gr,kk*7+5,none⟩) sI.out).trans (Jc.out (kk*7+5));have z6:=(hkb.frozen (p:=⟨gr,kk*7+6,none⟩) sI.out).trans (Jc.out (kk*7+6));have zO:=hh9 hkb;clear hb3 hj hkb)
      |fail)
     all_goals
      have hD3:=(HD2.out.below zO.out).store (i:=kk) Et.out HHZ.out Cu.out HJX.out;unfold ni at hD3;simp only[]at hD3;have HD3:=hh9 hD3;have Bo:Hid (N=(g'.set kk ⟨r0.name,uD r0.expr r.expr⟩).length):=by unfold Hid;rw[List.length_set];exact Et.out
      have VF:=hh9 (oW.out.trans PY.out);clear hD3 x1 x2 x3 x4 x5 x6 z1 z2 z3 z4 z5 z6;go_wp2_with fail
      go_roundw
      case rel=>exact⟨i+1,N,cg,_,_,_,rfl,by go_num,by omega,hN9,Bo,VF,HD3⟩
      case measure=>(simp[intOf]<;>omega)
  ·obtain rfl:i=n:=by omega
   have aF:Hid (lg [] l=some g'):=by
    have h:=A8.out;rwa[List.take_of_length_le (by rw[<- HN.out];exact zbA _)]at h
   obtain⟨hsm,hgl⟩:=Lf A8.out nW.out;obtain⟨nt,R,hC⟩:=bW.is (g'.length+pF g') 0 g' (by omega);have HC:=hh9 hC;have VG:Hid (∀ r∈g',(bn r.expr).length<=1000000):=fun r hr=>(hsm r hr).2.2
   have VH:Hid (g'.length+pF g'<=9016):=by unfold Hid;have:=TU g';omega
   clear hC hsm hgl;go_wp2_with fail
   refine zzb.mono ?_;rintro e w2 ⟨gc,cc,yc,rfl,hge,hX,hb2⟩;have Ee:=HD.out.below hb2
   have hQ:=iW.start (by decide +kernel) hX Ee.row (fun e=>by
    obtain⟨cur,hcur⟩:=ou HD.out.row e.symm;have:=(zbD.1 hcur).1;omega)
   have HQ:=hh9 hQ;have Qi:=hh9 Ee;clear hge hX hb2 Ee hQ;go_wp2_with fail
   go_loopw [6,10] (fun s v wr=>∃ (p m N cg:Nat) (ag:Option Addr) (ys2:List RV) (g2:List GR),s=.slice ag N cg/\v=.int .i64 p/\m+p=nt/\p<=N/\N<=9016/\Hid (N=g2.length)/\Hid (bW m p g2 R)/\Hid (D5 w wr (.slice ag N cg) ys2 g2)/\Hid (iW wr (fun b=>some b≠(Value.slice ag N cg).ownBlock) (.slice (some ⟨gc,0,none⟩) 16 cc) yc fJ)/\Hid (∀ r∈g2,(bn r.expr).length<=1000000)/\Hid (g2.length+pF g2<=9016)) (fun _ v _=>nt+1-(intOf v).toNat)
   case atStart=>exact⟨0,nt,N,cg,ag,ys',g',rfl,rfl,by omega,by omega,by omega,Et,HC,Qi,HQ,VG,VH⟩
   case round =>
    obtain⟨p,m,N2,IE,ag2,ys2,g2,rfl,rfl,hmp,hp,hN2,xU,sG,HD2,QH,Nf,VI⟩:=hrel;by_cases hlp:p<N2
    ·obtain⟨r,hr⟩:∃ y,g2[p]?=some y:=⟨_,zbC (by rw[<- xU.out];exact hlp)⟩
     obtain⟨Z,hZ⟩:∃ y,ys2[p]?=some y:=⟨_,zbC (by rw[HD2.out.len,<- xU.out];exact hlp)⟩
     obtain⟨gr,hag⟩:∃ gr,ag2=some ⟨gr,0,none⟩:=by
      rcases fB HD2.out.row with ⟨h0,_⟩|⟨g1,c1,h1⟩
      ·injection h0 with _ h0
       omega
      ·injection h1 with h1
       exact⟨g1,h1⟩
     subst hag;obtain⟨hzn,Vx,Bg⟩:=HD2.out.each p Z r hZ hr;obtain⟨zk,IX,IY,IZ,I5,I6,I7,I8,I9,Ja,Nb⟩:=Bg.forms;obtain⟨Vy,ZX⟩:=Z;simp only[]at Nb Bg hzn;subst Nb
     have hrow2:wr.ownsRow w.heap.size 33 7 (.slice (some ⟨gr,0,none⟩) N2 IE) N2 (ys2.flatMap RV.cells):=by
      have h:=HD2.out.row;rw[<- xU.out]at h;exact h
     have GX:∀ (j:Nat) (u:Value),j<7->(RV.cells ⟨Vy,⟨zk,IX,.slice I5 I6 I7,IY,IZ,.slice I8 I9 Ja⟩⟩)[j]?=some u->wr.cell? ⟨gr,p*7+j,none⟩=some u:=fun j u hj hu=>eZ hrow2 ((uI ys2 p j _ hZ hj).trans hu)
     have y1:=GX 1 _ (by omega) rfl;have y2:=GX 2 _ (by omega) rfl;have y3:=GX 3 _ (by omega) rfl;have y4:=GX 4 _ (by omega) rfl;have y5:=GX 5 _ (by omega) rfl;have y6:=GX 6 _ (by omega) rfl;obtain⟨ns,hns⟩:∃ ns,ns=bn r.expr:=⟨_,rfl⟩
     have hLN:ns.length<=1000000:=by rw[hns];exact Nf.out r (zbI hr)
     have IC:Hid (∀ y∈ns,bJ y):=by rw[hns];exact Bg.any.named
     have GD:=hh9 (sG.out.at hr);rw[<- hns]at GD;have nQ:=Rz _ wr ⟨zk,IX,.slice I5 I6 I7,IY,IZ,.slice I8 I9 Ja⟩ r.expr Bg.any (zbA _) (by rw[<- hns];omega);rw[<- hns]at nQ;unfold XV.val at nQ;simp only[]at nQ;have fH:=hh9 nQ;have q1:decide ((p:Int)<(N2:Int))=true:=zbN (by omega);clear hr hZ hzn Vx Bg hrow2 GX hns nQ;go_wp2_with fail
     refine fH.out.mono ?_;rintro e w3 ⟨nv,rfl,AL,hb3⟩;obtain⟨na,nc,rfl,hnk⟩:=vG.Gz AL HD2.out.row;have UF:=hh9 hnk;have HD3:=hh9 (HD2.out.below hb3);have uG:=hh9 (QH.out.kept (PW hb3));obtain⟨nn,hnn⟩:∃ nn,nn=ns.length:=⟨_,rfl⟩
     rw[<- hnn]at hLN ⊢;have bH:=hh9 hnn;clear AL hb3 hnk hnn;obtain⟨wo,hwo⟩:∃ y:World,y=wr:=⟨_,rfl⟩
     subst hwo;go_wp2_with fail
     go_loopw [6,12] (fun s v wr=>∃ (q N3 c3:Nat) (a3:Option Addr) (ys3:List RV) (g3:List GR),s=.slice a3 N3 c3/\v=.int .i64 q/\q<=nn/\p+1<=N3/\N3<=9016/\Hid (N3=g3.length)/\Hid (jw g2 (ns.take q)=some g3)/\Hid (D5 w wr (.slice a3 N3 c3) ys3 g3)/\Hid (iW wr (fun b=>some b≠(Value.slice a3 N3 c3).ownBlock) (.slice (some ⟨gc,0,none⟩) 16 cc) yc fJ)/\Hid (vG wr na ns (.slice a3 N3 c3))/\Hid (∀ r∈g3,(bn r.expr).length<=1000000)/\Hid (g3.length+pF g3<=9016)) (fun _ v _=>nn-(intOf v).toNat)
     case atStart=>exact⟨0,N2,IE,_,ys2,g2,rfl,rfl,by omega,by omega,hN2,xU,rfl,HD3,uG,UF,Nf,VI⟩
     case round =>
      obtain⟨q,N3,c3,a3,ys3,g3,rfl,rfl,hq,hpN,hN3,CV,Ep,HD4,rY,Ng,GH,GI⟩:=hrel;by_cases hlq:q<nn
      ·obtain⟨x,hx⟩:∃ y,ns[q]?=some y:=⟨_,zbC (by rw[<- bH.out];exact hlq)⟩
       obtain⟨gN,rfl,hgN,FV,Ma⟩:=Ng.out (by rw[<- bH.out];omega);have f0:wr.cell? ⟨gN,q,none⟩=some (.string (ak x)):=Ma q _ (by unfold gy;rw[List.getElem?_map,hx];rfl);have htx:=IC.out x (zbI hx);have hF1:=NR rY.out.rules htx;have hstep:=zry Ep.out hx;have hpre:jw g2 (ns.take (q+1))=none->jw g2 ns=none:=fun h=>Zg (List.take_prefix _ _) h
       have VJ:fJ.length=16:=by decide +kernel
       obtain⟨Sx,VK⟩:∃ Sx,Sx=ak x:=⟨_,rfl⟩
       have EJ:=hh9 (fun (W:World) (hb:Below wr.heap.size wr W)=>(by rw[VK];exact NR (HD4.out.below hb).rules htx:Calls Tryz.prog 21 #[.slice a3 N3 c3,.string Sx] W (JX (uz g3 x) W)));rw[<- VK]at f0 hF1;have BU:=hh9 hF1;have FQ:=hh9 f0;have HST:=hh9 hstep;have VL:=hh9 hpre;have Pn:=hh9 hgN;have q2:decide ((q:Int)<(nn:Int))=true:=zbN (by omega);clear hx htx Ma FV hF1 hstep hpre VK hgN VJ;obtain⟨wm,Md⟩:∃ y:World,y=wr:=⟨_,rfl⟩
       subst Md;go_wp2_with fail
       refine BU.out.mono ?_;rintro e w4 ⟨rfl,hb4⟩;have g0:=(hb4.cell (p:=⟨gN,q,none⟩) Pn.out).trans FQ.out;have eB:=hh9 hb4;obtain⟨ci,hci⟩:∃ ci,ci=uz fJ x:=⟨_,rfl⟩
       rw[<- hci];have HCI:=hh9 hci;clear hb4 hci;go_wp2_with fail
       refine(EJ.out w4 eB.out).mono ?_;rintro e w5 ⟨rfl,hb5⟩;have hbb:=aJ eB.out hb5;have HD5:=hh9 (HD4.out.below hbb);have uh:=hh9 (rY.out.kept (PW hbb));have CB:=hh9 (Ng.out.below hbb);clear hb5 hbb
       cases hf:bI g3 x with
       |some j =>
        rw[Dq hf]
        have GJ:Hid (jw g2 (ns.take (q+1))=some g3):=by
         unfold Hid;rw[HST.out];unfold dO;rw[hf]
        have q3:decide ((j:Int) ≥ 0)=true:=zbN (by omega);clear hf;go_wp2_with fail
        go_roundw
        case rel=>exact⟨q+1,N3,c3,a3,ys3,g3,rfl,by go_num,by omega,hpN,hN3,CV,GJ,HD5,uh,CB,GH,GI⟩
        case measure=>(simp[intOf]<;>omega)
       |none =>
        rw[ED hf]
        cases hc:bI fJ x with
        |none =>
         have hci:ci=-1:=by rw[HCI.out,ED hc]
         subst hci
         have lq:Hid (jw g2 ns=none):=VL.out (by
          rw[HST.out];unfold dO;rw[hf];simp only[];rw[hc])
         have Vn:Hid (R=none):=by
          rcases GD.out with ⟨_,h⟩|⟨_,_,_,h,_⟩
          ·exact h
          ·rw[lq.out]at h
           cases h
         clear hf hc;go_wp2_with fail
         refine bodyPost_ret (results_tmp2 rfl _ _ _) rfl ?_;exact⟨_,[],[],40,rfl,.inr ⟨HW.out,.inr ⟨g',nt,R,aF.out,HC.out,.inl ⟨Vn.out,rfl,rfl⟩⟩⟩,PV _,HD5.out.dP⟩
        |some cx =>
         have hci:ci=(cx:Int):=by rw[HCI.out,Dq hc]
         subst hci;obtain⟨⟨rc,hrc,VN⟩,_⟩:=tN.1 hc
         have hc16:cx<16:=by
          have h:=(zbF.1 hrc).1;rwa[show fJ.length=16 by decide +kernel]at h
         have VO:dO g3 x=some (g3++[rc]):=by
          unfold dO;rw[hf];simp only[];rw[hc];simp only[];rw[hrc];rfl
         have GJ:=hh9 (HST.out.trans VO);have Nh:=hh9 (zbH (Wx VO).1 GI.out)
         have VP:Hid (∀ r∈g3++[rc],(bn r.expr).length<=1000000):=fun r hr=>by
          rcases List.mem_append.1 hr with h|h
          ·exact GH.out r h
          ·simp at h;subst h;exact(Tp cx _ hrc).2
         obtain⟨Zc,VQ⟩:∃ y,yc[cx]?=some y:=⟨_,zbC (by rw[uh.out.len];exact(zbF.1 hrc).1)⟩
         obtain⟨VR,czt,P7⟩:=uh.out.each cx Zc rc VQ hrc;obtain⟨ck,ctx,CW,CZ,C8,C9,Da,Db,Dc,xL,hCX⟩:=P7.forms;obtain⟨Df,CXV⟩:=Zc;simp only[]at hCX P7 VR;subst hCX
         have Eu:∀ (j:Nat) (u:Value),j<7->(RV.cells ⟨Df,⟨ck,ctx,.slice C8 C9 Da,CW,CZ,.slice Db Dc xL⟩⟩)[j]?=some u->w5.cell? ⟨gc,cx*7+j,none⟩=some u:=fun j u hj hu=>by
          rcases uh.out.row with ⟨h0,_⟩|⟨g1,off,cap,e,_,_,_,_,h5⟩
          ·rw[show fJ.length=16 by decide +kernel]at h0;omega
          ·injection e with e
           injection e with e
           injection e with e e2
           subst e e2;have:=h5 _ u ((uI yc cx j _ VQ hj).trans hu);rwa[Nat.zero_add]at this
         have k0:=Eu 0 _ (by omega) rfl;have k1:=Eu 1 _ (by omega) rfl;have k2:=Eu 2 _ (by omega) rfl;have k3:=Eu 3 _ (by omega) rfl;have k4:=Eu 4 _ (by omega) rfl;have k5:=Eu 5 _ (by omega) rfl;have k6:=Eu 6 _ (by omega) rfl;rw[Nat.add_zero]at k0;have hba:Below w5.heap.size w5 (w5.alloc (.cells #[.string Df,.int .i64 ck,.string ctx,.slice C8 C9 Da,.int .i64 CW,.int .i64 CZ,.slice Db Dc xL] 33)):=(zbE _ _).alloc (zbA _) _;have HD6:=hh9 (HD5.out.below hba);have HQ6:=hh9 (uh.out.kept (PW hba));have FY:=hh9 (CB.out.below hba);have TK:=hh9 (P7.kept (PW hba));have HCN:=hh9 VR;have HCT:=hh9 czt
         have VT:Hid ((w5.alloc (.cells #[.string Df,.int .i64 ck,.string ctx,.slice C8 C9 Da,.int .i64 CW,.int .i64 CZ,.slice Db Dc xL] 33)).ownsRow w.heap.size 33 7 (.slice a3 N3 c3) N3 (ys3.flatMap RV.cells)):=by
          have h:=HD6.out.row;rw[<- CV.out]at h;exact h
         have Dy:Hid ((w5.alloc (.cells #[.string Df,.int .i64 ck,.string ctx,.slice C8 C9 Da,.int .i64 CW,.int .i64 CZ,.slice Db Dc xL] 33)).heap[w5.heap.size]?=some (.cells (RV.arr ⟨Df,⟨ck,ctx,.slice C8 C9 Da,CW,CZ,.slice Db Dc xL⟩⟩) 33 (0,0))):=zbO w5 _
         have yY:Hid (∀ u∈RV.cells ⟨Df,⟨ck,ctx,.slice C8 C9 Da,CW,CZ,.slice Db Dc xL⟩⟩,u.oneCell'=true):=fun u hu=>by
          simp[RV.cells]at hu;rcases hu with rfl|rfl|rfl|rfl|rfl|rfl|rfl<;>rfl
         have Po:=hh9 HD6.out.dP.size;have Bo:Hid (N3<=100000000):=by unfold Hid;omega
         have q4:decide ((cx:Int)<0)=false:=zbM (by omega);have q5:decide ((cx:Int)<16)=true:=zbN (by omega);clear hf hc hrc VN VO VQ VR czt P7 Eu hba;go_wp2_with (at_builtin;go_loud (refine zzc rfl _ _ rfl w.heap.size w5.heap.size 1 N3 _ ys3 ⟨Df,⟨ck,ctx,.slice C8 C9 Da,CW,CZ,.slice Db Dc xL⟩⟩ rfl rfl VT.out Dy.out yY.out Bo.out Po.out ?_);intro v' w7 hown hgrow hat;have HOWN:=hh9 hown;have bF:Hid (World.grownBy _ w7 (Value.slice a3 N3 c3).ownBlock):=hgrow;have HAT:Hid (v'.ownBlock=(Value.slice a3 N3 c3).ownBlock\/_):=hat;clear hown hgrow hat)
         have hlen:(g3++[rc]).length=N3+1:=by rw[zbG,CV.out];rfl
         have hown:=HOWN.out;rcases fB hown with ⟨_,h0⟩|⟨gb,cap,hv'⟩
         ·omega
         ·subst hv'
          have hown2:w7.ownsRow w.heap.size 33 7 (.slice (some ⟨gb,0,none⟩) (N3+1) cap) (g3++[rc]).length ((ys3++[(⟨Df,⟨ck,ctx,.slice C8 C9 Da,CW,CZ,.slice Db Dc xL⟩⟩:RV)]).flatMap RV.cells):=by
           rw[hlen];exact hown
          have hD7:=HD6.out.push (v':=.slice (some ⟨gb,0,none⟩) (N3+1) cap) (y:=⟨Df,⟨ck,ctx,.slice C8 C9 Da,CW,CZ,.slice Db Dc xL⟩⟩) hown2 bF.out HAT.out HCN.out HCT.out TK.out;have hQ7:=HQ6.out.kept (zrx bF.out HAT.out);have IQ:=FY.out.push bF.out HAT.out
          have P5:N3+1<=9016:=by
           have h:=Nh.out;rw[hlen]at h;omega
          refine⟨⟨q+1,N3+1,cap,_,_,g3++[rc],rfl,by go_num,by omega,by omega,P5,hlen.symm,GJ,hD7,hQ7,IQ,VP,Nh⟩,?_⟩;simp[intOf];omega
      ·obtain rfl:q=nn:=by omega
       have HC3:Hid (∃ m',m=m'+1/\bW m' (p+1) g3 R):=by
        have h:=Ep.out;rw[List.take_of_length_le (by rw[<- bH.out];exact zbA _)]at h;rcases GD.out with ⟨h1,_⟩|⟨m',g4,h1,h2,h3⟩
        ·rw[h1]at h
         cases h
        ·rw[h2]at h;have e:=zbB h;subst e;exact⟨m',h1,h3⟩
       obtain⟨m',hm',OM⟩:=HC3.out;subst hm';have HC4:=hh9 OM;clear OM;go_wp2_with fail
       go_roundw
       case rel=>exact⟨p+1,m',N3,c3,a3,ys3,g3,rfl,by go_num,by omega,hpN,hN3,CV,HC4,HD4,rY,GH,GI⟩
       case measure=>(simp[intOf]<;>omega)
    ·obtain rfl:p=N2:=by omega
     have ay:Hid (R=some g2):=by
      have h:=sG.out
      cases h with
      |done=>rfl
      |fail h1=>have h2:=(zbF.1 h1).1;have:=xU.out;omega
      |step h1=>have h2:=(zbF.1 h1).1;have:=xU.out;omega
     go_wp2_with fail
     refine bodyPost_ret (results_tmp2 rfl _ _ _) rfl ?_;exact⟨_,ys2,g2,0,rfl,.inr ⟨HW.out,.inr ⟨g',nt,R,aF.out,HC.out,.inr ⟨ay.out,rfl⟩⟩⟩,HD2.out.rules,HD2.out.dP⟩
theorem zs0{w:World}{v:Value}{ys:List LV}{l:List Rule}(h:dz w v ys l)(ht:ko l<=9000):Calls Tryz.prog 18 #[v] w (Vt l w):=by
 cases hw:l.all iZ with
 |true=>exact zrz h hw ht
 |false=>exact zrw h hw ht
end Go.Proofs.YtahibnnhjahmnaaGreatDoor
