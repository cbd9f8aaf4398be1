/- Part 27 of what the laws of the grammar rest on. -/
import Derived.Test.YtahibnnhjahmnaaGreatDoorA26
set_option linter.all false
set_option maxRecDepth 100000
set_option maxHeartbeats 8000000
namespace Go.Proofs.YtahibnnhjahmnaaGreatDoor
open Go.RowKit
theorem TN:∀ l:List (List Int),aO [] l=l.flatten
 |[]=>rfl
 |[x]=>by simp[aO]
 |x::y::l=>by
  have:=TN (y::l);rw[aO,this];simp
theorem ZQ:∀ (l:List (List Int)) (x:List Int),x∈l->x.length<=l.flatten.length
 |[],x,h=>by simp at h
 |y::l,x,h=>by
  rw[List.mem_cons]at h;rw[List.flatten_cons,zbG];rcases h with rfl|h
  ·omega
  ·have:=ZQ l x h;omega
theorem qb7(r:Rule):1<=(dZ r).length:=by unfold dZ;rw[zbG];exact Nat.le_add_left 1 _
theorem ZR:∀ (l:List Rule),l.length<=((l.map dZ).flatten).length
 |[]=>by simp
 |r::l=>by
  have h1:=qb7 r;have h2:=ZR l;simp only[List.map_cons,List.flatten_cons,zbG,List.length_cons];omega
theorem zy5{w:World}{v:Value}{vs:List LV}{l:List Rule}(h:dz w v vs l)(hr:l.all iZ=true)(hT:gJ w)(hs:((l.map dZ).flatten).length<=1000000000000) :
  Calls Tryz.prog 46 #[v,.string ⟨#[]⟩,.func (Fn.func 47) #[] #[]] w (nJ ((l.map dZ).flatten) w):=by
 obtain⟨h1,h2,h3⟩:=h;have HT:=hh9 hT;have H2:=hh9 h2;have H3:=hh9 h3;have HR:=hh9 hr;have HS:=hh9 hs;have hn:=zbH (ZR l) hs;obtain⟨n,hnn⟩:∃ n,n=l.length:=⟨_,rfl⟩
 rw[<- hnn]at h1 hn;have bH:=hh9 hnn;have hmk:=QU n (by omega) w;have HB0:=hh9 ((zbE w.heap.size w).alloc (zbA _) (.cells (qX n []) 9));have HX0:Hid (TX w.heap.size n [] (w.alloc (.cells (qX n []) 9))):=zbO w _;obtain⟨W0,hW0⟩:∃ W0,W0=w.alloc (.cells (qX n []) 9):=⟨_,rfl⟩
 rw[<- hW0]at hmk HB0 HX0;clear hW0 hT h2 h3 hr hs hnn
 have ZT:Hid (∀ wr,TX w.heap.size n (l.map dZ) wr->Calls Tryz.prog 68 #[.slice (some ⟨w.heap.size,0,none⟩) n n,.string ⟨#[]⟩] wr (nJ ((l.map dZ).flatten) wr)):=fun wr hX=>by
  have hle:(l.map dZ).length=n:=by rw[List.length_map,<- bH.out]
  have:=QT (B:=w.heap.size) (xs:=l.map dZ) (W:=wr) (by rw[hle];exact hX) [] (by rw[TN];exact HS.out) (by rw[hle];omega);rw[TN,hle,GQ]at this;exact this
 rcases h1 with ⟨h0,a,cap,rfl⟩|⟨g,off,cap,rfl,g1,g2,g3,g4⟩
 ·have hx0:l=[]:=List.length_eq_zero_iff.1 (by rw[<- bH.out];exact h0);subst h0;have HJ:=hh9 (ZT.out W0 (by rw[hx0];exact HX0.out));rw[show ((0:Nat):Int)=0 from rfl]at hmk;clear hx0;go_enter Tryz.func46,Tryz.ntmps46;go_wp2_with fail
  go_loop [15] (fun v=>v=.int .i64 0) (fun v=>0)
  case atStart=>rfl
  case round =>
   subst hrel;clear hmk;go_wp2_with fail
   refine HJ.out.mono ?_;rintro e w1 ⟨rfl,hb⟩;have HB1:=hh9 (aJ HB0.out hb);clear hb;go_wp2_with fail
   go_ret;exact⟨rfl,HB1.out⟩
 ·have G4:=hh9 g4;unfold maxLen at g2;clear g4;go_enter Tryz.func46,Tryz.ntmps46;go_wp2_with fail
  go_loopw [15] (fun v wr=>∃ i:Nat,v=.int .i64 i/\i<=n/\Hid (Below w.heap.size w wr)/\Hid (TX w.heap.size n ((l.take i).map dZ) wr)) (fun v _=>n-(intOf v).toNat)
  case atStart=>exact⟨0,rfl,by omega,HB0,HX0⟩
  case round =>
   obtain⟨i,rfl,hi,aA,HX⟩:=hrel;clear hmk;by_cases hlt:i<n
   ·obtain⟨Y,hY⟩:∃ y,vs[i]?=some y:=⟨_,zbC (by rw[H2.out,<- bH.out];exact hlt)⟩
    obtain⟨t,ht⟩:∃ y,l[i]?=some y:=⟨_,zbC (by rw[<- bH.out];exact hlt)⟩
    have CX:∀ (j:Nat) (u:Value),j<8->Y.cells[j]?=some u->wr.cell? ⟨g,off+(i*8+j),none⟩=some u:=fun j u hj hu =>
     (aA.out.cell (p:=⟨g,off+(i*8+j),none⟩) g3).trans (G4.out _ u ((EN vs i j Y hY hj).trans hu))
    obtain⟨aa,am,ac,ca,cm,cc,en,ek⟩:=(H3.out i Y t hY ht).2.2.2.2.slices;have hlen1:(dZ t).length<=1000000000000:=zbH (ZQ _ _ (List.mem_map.2 ⟨t,zbI ht,rfl⟩)) HS.out;have HH:=hh9 (fun W' (hb:Below w.heap.size w W')=>zwt ((H3.out i Y t hY ht).under hb) (List.all_eq_true.1 HR.out t (zbI ht)) (HT.out.below hb) hlen1);have hlen:((l.take i).map dZ).length=i:=by rw[List.length_map,List.length_take,<- bH.out];omega
    have wM:=hh9 (show (l.take (i+1)).map dZ=((l.take i).map dZ)++[dZ t] by
     rw[List.take_add_one,ht];simp)
    have HLEN:=hh9 hlen;obtain⟨nm,mo,⟨k,sx,nv,lo,hi',kv⟩⟩:=Y;simp only[]at en ek;subst en ek;have e0:=CX 0 _ (by omega) rfl;have e1:=CX 1 _ (by omega) rfl;have e2:=CX 2 _ (by omega) rfl;have e3:=CX 3 _ (by omega) rfl;have e4:=CX 4 _ (by omega) rfl;have e5:=CX 5 _ (by omega) rfl;have e6:=CX 6 _ (by omega) rfl;have e7:=CX 7 _ (by omega) rfl;rw[<- Nat.add_assoc]at e0 e1 e2 e3 e4 e5 e6 e7;rw[Nat.add_zero]at e0;have hxb:=HX.out.lt;have hne:wr.heap.size≠w.heap.size:=by omega
    have HA:=hh9 (Qc aA.out (mZ ⟨nm,mo,⟨k,sx,.slice aa am ac,lo,hi',.slice ca cm cc⟩⟩));have JO:=hh9 (HX.out.under ((zbE wr.heap.size wr).alloc (zbA _) (mZ ⟨nm,mo,⟨k,sx,.slice aa am ac,lo,hi',.slice ca cm cc⟩⟩)));unfold mZ LV.arr at HA JO;clear hY ht hlen CX hlen1;go_wp2_with fail
    refine(HH.out _ HA.out).mono ?_;rintro e w1 ⟨rfl,hb⟩;have HB1:=hh9 (aJ HA.out hb);have hX1:=JO.out.under hb;have k0:=hX1.cell (by rw[HLEN.out];exact hlt);have k1:=hX1.frozen i;rw[HLEN.out]at k0;have wL:=hh9 (hX1.set (by rw[HLEN.out];exact hlt) (dZ t));clear hb hX1 e0 e1 e2 e3 e4 e5 e6 e7;go_wp2_with fail
    go_roundw
    case rel=>exact⟨i+1,by go_num,by omega,HB1.out.setCell (zbA _) _,by unfold Hid;have:=wL.out;rw[HLEN.out,<- wM.out]at this;exact this⟩
    case measure=>simp[intOf];omega
   ·have hin:i=n:=by omega
    subst hin;have HJ:=hh9 (ZT.out wr (by have:=HX.out;rw[List.take_of_length_le (by rw[<- bH.out];omega)]at this;exact this));go_wp2_with fail
    refine HJ.out.mono ?_;rintro e w1 ⟨rfl,hb⟩;have HB1:=hh9 (aJ aA.out hb);clear hb;go_wp2_with fail
    go_ret;exact⟨rfl,HB1.out⟩
def xC(l:List Rule):Value:=if l.all iZ=true then .tuple #[.string (ak ((l.map dZ).flatten)),.int .i64 0] else .tuple #[.string ⟨#[]⟩,.int .i64 1]
def D7(l:List Rule)(w:World)(e:Ending)(w':World):Prop:=e=.returned (xC l)/\Below w.heap.size w w'
theorem ZU{w:World}{v:Value}{vs:List LV}{l:List Rule}(h:dz w v vs l)(hT:gJ w)(hs:l.all iZ=true->((l.map dZ).flatten).length<=1000000000000) :
  Calls Tryz.prog 30 #[v] w (D7 l w):=by
 have HA:=hh9 (qaa h)
 cases hp:l.all iZ
 ·have hv:xC l=.tuple #[.string ⟨#[]⟩,.int .i64 1]:=by unfold xC;rw[hp,if_neg (by simp)]
  unfold D7;rw[hv];rw[hp]at HA;clear hp hs h hT hv;go_enter Tryz.func30,Tryz.ntmps30;go_wp2_with fail
  refine HA.out.mono ?_;rintro e w1 ⟨rfl,hb⟩;have HB1:=hh9 hb;clear hb;go_wp2_with fail
  go_ret2
  exact⟨rfl,HB1.out⟩
 ·have hv:xC l=.tuple #[.string (ak ((l.map dZ).flatten)),.int .i64 0]:=by unfold xC;rw[hp,if_pos rfl]
  unfold D7;rw[hv];rw[hp]at HA;have HJ:=hh9 (fun W' (hb:Below w.heap.size w W')=>zy5 (h.below hb) hp (hT.below hb) (hs hp));clear hp hs h hT hv;go_enter Tryz.func30,Tryz.ntmps30;go_wp2_with fail
  refine HA.out.mono ?_;rintro e w1 ⟨rfl,hb⟩;have HB1:=hh9 hb;clear hb;go_wp2_with fail
  refine(HJ.out _ HB1.out).mono ?_;rintro e w2 ⟨rfl,hb⟩;have HB2:=hh9 (aJ HB1.out hb);clear hb;go_wp2_with fail
  go_ret2
  exact⟨rfl,HB2.out⟩
end Go.Proofs.YtahibnnhjahmnaaGreatDoor
namespace Go.Proofs.YtahibnnhjahmnaaGreatDoor
open Go.RowKit Go.Shelf
def oV(W:World)(v:Value)(ys:List RV)(g:List GR):Prop :=
 au W v g.length (ys.flatMap RV.cells)/\ys.length=g.length/\∀ (i:Nat) (y:RV) (r:GR),ys[i]?=some y->g[i]?=some r->y.name=ak r.name/\bJ r.name/\dX W (fun _=>True) y.expr r.expr
theorem oV.rules{W:World}{v:Value}{ys:List RV}{g:List GR}(h:oV W v ys g):qF W v ys g :=
 ⟨h.1,h.2.1,fun i y r hy hr=>⟨(h.2.2 i y r hy hr).1,(h.2.2 i y r hy hr).2.1,(h.2.2 i y r hy hr).2.2.any⟩⟩
theorem oV.below{W W':World}{v:Value}{ys:List RV}{g:List GR}(h:oV W v ys g)(hb:Below W.heap.size W W'):oV W' v ys g :=
 ⟨h.1.below hb,h.2.1,fun i y r hy hr=>⟨(h.2.2 i y r hy hr).1,(h.2.2 i y r hy hr).2.1,(h.2.2 i y r hy hr).2.2.kept (M:=fun _=>False) (zap.below hb) (fun b _ _=>⟨id,trivial⟩)⟩⟩
theorem oV.nil(W:World):oV W (.slice none 0 0) [] []:=⟨.inl ⟨rfl,_,_,rfl⟩,rfl,fun i y r h=>by simp at h⟩
theorem zH{W:World}{base size n:Nat}{e:TypeId}{v:Value}{xs:List Value}(h:W.ownsRow base e size v n xs):au W v n xs:=by
 rcases fB h with ⟨rfl,rfl⟩|⟨b,cap,rfl⟩
 ·exact .inl ⟨rfl,_,_,rfl⟩
 ·obtain⟨h1,h2,h3,h4⟩:=iX h;exact .inr ⟨b,0,cap,rfl,h2,h3,h4,fun j u hj=>by rw[Nat.zero_add];exact eZ h hj⟩
theorem zm.x{W:World}{base:Nat}{v:Value}{ys:List RV}{g:List GR}(h:zm W base v ys g):oV W v ys g :=
 ⟨zH h.1,h.2.1,fun i y r hy hr=>⟨(h.2.2 i y r hy hr).1,(h.2.2 i y r hy hr).2.1,(h.2.2 i y r hy hr).2.2.weak (fun _ _ _=>trivial)⟩⟩
theorem pJ.x{W:World}{base R m:Nat}{v:Value}{ys:List RV}{g:List GR}(h:pJ W base R m v ys g)(he:xu W ys g):oV W v ys g :=
 ⟨zH h.row,h.len,fun i y r hy hr=>⟨(h.name i y r hy hr).1,(h.name i y r hy hr).2,(he i y r hy hr).1⟩⟩
def TP(l:List Rule)(w:World)(e:Ending)(w':World):Prop :=
 ∃ (v:Value) (ys:List RV) (g:List GR) (er:Int),e=.returned (.tuple #[v,.int .i64 er])/\qR l g er/\oV w' v ys g/\Below w.heap.size w w'
theorem TQ{d:Nat}{t:Tree}(h:dK d t=true):0<(fO t).length:=by
 obtain⟨k,x,ns,lo,hi,kids⟩:=t;rw[Ir];by_cases hk:k=1
 ·rw[if_pos hk]
  have hf:oo k x ns lo hi kids.length=true:=by
   cases d with
   |zero=>unfold dK at h;rw[zbJ]at h;exact h.1
   |succ d=>unfold dK at h;rw[zbJ]at h;exact h.1
  unfold oo at hf;rw[if_pos (.inl hk)]at hf;simp only[zbJ,decide_eq_true_eq]at hf;omega
 ·rw[if_neg hk];simp
theorem OU:∀ (l:List Rule) (i:Nat),ko (l.take i)<=ko l
 |[],i=>by simp
 |r::l,0=>by simp[ko]
 |r::l,i+1=>by
  have:=OU l i;simp only[ko,List.take_succ_cons,List.map_cons,List.sum_cons]at this ⊢;omega
theorem ZV{l:List Rule}{r:Rule}(h:r∈l):r.expr.tw+1<=ko l:=by
 induction l with
 |nil=>cases h
 |cons u l ih =>
  simp only[ko,List.map_cons,List.sum_cons];rcases List.mem_cons.1 h with rfl|h
  ·omega
  ·have:=ih h;simp only[ko]at this;omega
theorem Le:∀ l:List Rule,l.length<=ko l
 |[]=>Nat.zero_le _
 |r::l=>by
  have:=Le l;simp only[ko,List.map_cons,List.sum_cons,List.length_cons]at this ⊢;omega
theorem ZW{l:List Rule}{i:Nat}{r:Rule}{g:List GR}(h:lg [] (l.take i)=some g)(hr:l[i]?=some r):lg [] (l.take (i+1))=jQ g r:=by
 have e:l.take (i+1)=l.take i++[r]:=by rw[List.take_add_one,hr];rfl
 have app:∀ (a b:List Rule) (g:List GR),lg g (a++b)=(lg g a).bind fun g'=>lg g' b:=fun a=>by
  induction a with
  |nil=>exact fun b g=>rfl
  |cons u a ih =>
   intro b g;rw[List.cons_append,Al,Al]
   cases jQ g u with
   |none=>rfl
   |some g'=>exact ih b g'
 rw[e,app,h];show lg g [r]=_
 rw[Al]
 cases jQ g r<;>rfl
theorem TT{l:List Rule}{i:Nat}(h:lg [] (l.take i)=none):lg [] l=none:=by
 have app:∀ (a b:List Rule) (g:List GR),lg g (a++b)=(lg g a).bind fun g'=>lg g' b:=fun a=>by
  induction a with
  |nil=>exact fun b g=>rfl
  |cons u a ih =>
   intro b g;rw[List.cons_append,Al,Al]
   cases jQ g u with
   |none=>rfl
   |some g'=>exact ih b g'
 have e:=app (l.take i) (l.drop i) [];rw[List.take_append_drop,h]at e;exact e
theorem Lf{l:List Rule}{g:List GR}{i:Nat}(h:lg [] (l.take i)=some g)(ht:ko l<=9000):(∀ r∈g,r.expr.tw<=9000/\dep r.expr<=9000/\(bn r.expr).length<=1000000)/\g.length<=9000:=by
 have h1:=TA h;have h2:=OU l i;have h3:=Le (l.take i);simp only[lY,List.map_nil,List.sum_nil,List.length_nil]at h1;constructor
 ·intro r hr;have h4:=ZB hr;unfold lY at h4;have h5:=K5 r.expr.tw r.expr (zbA _);omega
 ·omega
theorem TU(g:List GR):pF g<=16:=by
 unfold pF;have:=List.length_filter_le (fun r=>(bI g r.name).isNone) fJ;have:fJ.length=16:=by decide +kernel
 omega
theorem ZY{l:List Rule}(h:l.all iZ=true):xC l=.tuple #[.string (ak ((l.map dZ).flatten)),.int .i64 0]:=by unfold xC;rw[if_pos h]
theorem Z0{l:List Rule}(h:l.all iZ=false):xC l=.tuple #[.string ⟨#[]⟩,.int .i64 1]:=by unfold xC;rw[if_neg (by rw[h];simp)]
theorem zuv{w:World}{v:Value}{ys:List LV}{l:List Rule}(h:dz w v ys l)(hT:gJ w)(hw:l.all iZ=false):Calls Tryz.prog 16 #[v] w (TP l w):=by
 have HT:=hh9 (ZU h hT (fun h2=>by rw[hw]at h2;cases h2));unfold D7 at HT;rw[Z0 hw]at HT;have HJ:Hid (qR l [] 1):=.inl ⟨hw,rfl,rfl⟩;obtain⟨a,c,rfl,_⟩:=h.1.slice;clear h hT hw;go_enter Tryz.func16,Tryz.ntmps16;go_wp2_with (go_at_call 30;refine HT.out.mono ?_;rintro e w1 ⟨rfl,hb⟩;have HB:=hh9 hb;clear hb)
 refine bodyPost_ret (results_tmp2 rfl _ _ _) rfl ?_;exact⟨_,[],[],1,rfl,HJ.out,oV.nil _,HB.out⟩
theorem zuw{w:World}{v:Value}{ys:List LV}{l:List Rule}(h:dz w v ys l)(hT:gJ w)(hw:l.all iZ=true)(ht:ko l<=9000):Calls Tryz.prog 16 #[v] w (TP l w):=by
 have hlen:((l.map dZ).flatten).length<=1000000000000:=by
  have:∀ l:List Rule,l.all iZ=true->((l.map dZ).flatten).length<=60*ko l:=fun l=>by
   induction l with
   |nil=>simp
   |cons r l ih =>
    intro h;rw[List.all_cons,zbJ]at h;have h1:=ih h.2;have h2:=h.1;unfold iZ at h2;rw[zbJ]at h2;have h3:=QO 50 r.expr h2.2;have h4:r.name.length<=40:=(Hf h2.1).1
    have h5:(dZ r).length<=r.name.length+4+(aI 50 r.expr).length+1:=by
     unfold dZ;simp only[zbG,List.length_cons,List.length_nil];have:(if r.more=true then [32,61,47,32] else [32,61,32]:List Int).length<=4:=by split<;>simp
     omega
    unfold ko at h1 ⊢;simp only[List.map_cons,List.flatten_cons,zbG,List.sum_cons]at h1 ⊢;omega
  have:=this l hw;omega
 have HT:=hh9 (ZU h hT (fun _=>hlen));unfold D7 at HT;rw[ZY hw]at HT;have HH:=hh9 h;have HW:=hh9 hw
 obtain⟨a,n,c,rfl,hn⟩:∃ a n c,v=.slice a n c/\n=l.length:=by
  obtain⟨a,c,h,_⟩:=h.1.slice;exact⟨a,_,c,h,rfl⟩
 have HN:=hh9 hn;have Z4:=Le l;have Lg:n<=9000:=by omega
 obtain⟨TX,Lh⟩:∃ TX,TX=ak ((l.map dZ).flatten):=⟨_,rfl⟩
 rw[<- Lh]at HT;clear h hT hw hn Lh hlen;go_enter Tryz.func16,Tryz.ntmps16;have hmk:∀ u:World,(Instr.makeMap 56 none).run Tryz.prog u=.ok (.map (some u.heap.size)) (u.alloc (.map #[] 0)):=fun u=>run_makeMap _ u
 go_wp2_with (go_at_call 30;refine HT.out.mono ?_;rintro e w1 ⟨rfl,hb⟩;have HB:=hh9 hb;clear hb)
 have hb2:Below w1.heap.size w1 ((w1.alloc (.map #[] 0)).alloc (.cells #[.slice none 0 0,.map (some w1.heap.size)] 80)):=((zbE _ _).alloc (zbA _) _).alloc (by simp) _
 have hstart:TS ((w1.alloc (.map #[] 0)).alloc (.cells #[.slice none 0 0,.map (some w1.heap.size)] 80)) (w1.heap.size+2) (w1.heap.size+1) w1.heap.size (.slice none 0 0) [] []:=by
  refine⟨⟨?_,World.ownsRow_nil _ _ _ _,rfl,⟨.map [],(World.ownsMap_made w1 Tryz.prog 9 _).alloc _,p8.start⟩,fun i y r h=>by simp at h⟩,fun i y r h=>by simp at h⟩;have h:=zbO (w1.alloc (.map #[] 0)) (.cells #[.slice none 0 0,.map (some w1.heap.size)] 80);rw[World.size_alloc]at h;exact h
 have oK:=hh9 hstart;have HB2:=hh9 (aJ HB.out hb2);have hs2:((w1.alloc (.map #[] 0)).alloc (.cells #[.slice none 0 0,.map (some w1.heap.size)] 80)).heap.size=w1.heap.size+2:=by simp
 have hw1:=HB.out.size;clear hstart hb2;go_loopw [23] (fun v wr=>∃ (i:Nat) (v':Value) (ys':List RV) (g':List GR),v=.int .i64 i/\i<=n/\Hid (lg [] (l.take i)=some g')/\Hid (TS wr (w1.heap.size+2) (w1.heap.size+1) w1.heap.size v' ys' g')/\Hid (Below w.heap.size w wr)/\w1.heap.size+2<=wr.heap.size) (fun v _=>n-(intOf v).toNat)
 case atStart=>exact⟨0,_,[],[],rfl,by omega,rfl,oK,HB2,by rw[hs2];exact zbA _⟩
 case round =>
  obtain⟨i,v',ys',g',rfl,hi,A8,vD,aA,hwr⟩:=hrel;by_cases hlt:i<n
  ·obtain⟨b,off,ha,hb3,hcs⟩:∃ b off,a=some ⟨b,off,none⟩/\b<w.heap.size/\∀ (j:Nat) (u:Value),(ys.flatMap LV.cells)[j]?=some u->w.cell? ⟨b,off+j,none⟩=some u:=by
    rcases HH.out.1 with ⟨h0,_⟩|⟨b,off,cap,h1,_,_,h3,h4⟩
    ·have:=HN.out;omega
    ·injection h1 with h1
     exact⟨b,off,h1,h3,h4⟩
   subst ha;obtain⟨Y,hY⟩:∃ y,ys[i]?=some y:=⟨_,zbC (by rw[HH.out.2.1,<- HN.out];exact hlt)⟩
   obtain⟨r,hr⟩:∃ y,l[i]?=some y:=⟨_,zbC (by rw[<- HN.out];exact hlt)⟩
   have yM:=(HH.out.2.2 i Y r hY hr).under aA.out;have hmem:=zbI hr
   have hrr:dK 50 r.expr=true:=by
    have:=List.all_eq_true.1 HW.out r hmem;unfold iZ at this;rw[zbJ]at this;exact this.2
   have hrt:=ZV hmem;obtain⟨hsm,hgl⟩:=Lf A8.out ht
   have CX:∀ (j:Nat) (u:Value),j<8->Y.cells[j]?=some u->wr.cell? ⟨b,off+(i*8+j),none⟩=some u:=fun j u hj hu =>
    (aA.out.cell (p:=⟨b,off+(i*8+j),none⟩) hb3).trans (hcs _ u ((EN ys i j Y hY hj).trans hu))
   obtain⟨_,_,_,_,_,_,_,r1,r2,_⟩:=yM.2.2.2.2.forms;obtain⟨s1,d1,e1,_⟩:=r1.slice;obtain⟨s2,d2,e2,_⟩:=r2.slice;have hstep:=ZW A8.out hr;have hba:Below wr.heap.size wr (wr.alloc (mZ Y)):=(zbE _ _).alloc (zbA _) _;have vZ:=hh9 (qb6 (vD.out.under hba) (by omega) (by omega) (by omega) (by have:=hba.size;omega) (yM.under hba) (TQ hrr) (by omega) (fun u hu=>by have:=(hsm u hu).1;omega) (by omega));have ow:=hh9 (aJ aA.out hba);obtain⟨nm,mo,⟨k,tx,nv,lo,hi2,kv⟩⟩:=Y;simp only[]at e1 e2;subst e1 e2;have f0:=CX 0 _ (by omega) rfl;have f1:=CX 1 _ (by omega) rfl;have f2:=CX 2 _ (by omega) rfl;have f3:=CX 3 _ (by omega) rfl;have f4:=CX 4 _ (by omega) rfl;have f5:=CX 5 _ (by omega) rfl;have f6:=CX 6 _ (by omega) rfl;have f7:=CX 7 _ (by omega) rfl;rw[<- Nat.add_assoc]at f0 f1 f2 f3 f4 f5 f6 f7;rw[Nat.add_zero]at f0;simp only[]at f0 f1 f2 f3 f4 f5 f6 f7;have q1:decide ((i:Int)<(n:Int))=true:=zbN (by omega);have oW:=hh9 hstep;unfold mZ LV.arr LV.val LV.arr at vZ;unfold mZ LV.arr at ow;simp only[]at vZ ow;clear CX hcs yM hba r1 r2 hY hr hstep hmem hsm
   cases hq:jQ g' r with
   |none =>
    have HQ:=hh9 hq;clear hq;go_wp2_with (go_at_call 31;refine vZ.out.mono ?_;rintro e w4 ⟨h1,h2,h3⟩;obtain rfl:=h1 HQ.out;have eB:=hh9 (ow.out.trans (h3 w.heap.size (by omega) (by omega) (by omega)));clear h1 h2 h3)
    refine bodyPost_ret (results_tmp2 rfl _ _ _) rfl ?_;exact⟨_,[],[],41,rfl,.inr ⟨HW.out,.inl ⟨TT (i:=i+1) (oW.out.trans HQ.out),rfl,rfl⟩⟩,oV.nil _,eB.out⟩
   |some g2 =>
    have HQ:=hh9 hq;clear hq;go_wp2_with (go_at_call 31;refine vZ.out.mono ?_;rintro e w4 ⟨h1,h2,h3⟩;obtain⟨rfl,v4,ys4,Li⟩:=h2 g2 HQ.out;have TV:=hh9 Li;have eB:=hh9 (ow.out.trans (h3 w.heap.size (by omega) (by omega) (by omega)));have hw4:=(h3 (w1.heap.size) (by omega) (by omega) (by omega)).size;clear h1 h2 h3 Li)
    go_roundw
    case rel=>exact⟨i+1,v4,ys4,g2,by go_num,by omega,oW.out.trans HQ.out,TV,eB,by simp at hw4;omega⟩
    case measure=>simp[intOf];omega
  ·obtain rfl:i=n:=by omega
   have hall:lg [] l=some g':=by
    have h:=A8.out;rwa[List.take_of_length_le (by rw[<- HN.out];exact zbA _)]at h
   obtain⟨hsm,hgl⟩:=Lf A8.out ht;obtain⟨nn,R,hC⟩:=bW.is (g'.length+pF g') 0 g' (by omega);have Z5:=hh9 (zpp vD.out.gB (vD.out.exprs (fun u hu=>(hsm u hu).2)) (by omega) (by omega) (by omega) hwr hC (by have:=TU g';omega));have aF:=hh9 hall;have HC:=hh9 hC;have q1:decide ((i:Int)<(i:Int))=false:=zbM (by omega);clear hall hsm hC
   cases R with
   |none =>
    go_wp2_with (go_at_call 32;refine Z5.out.mono ?_;rintro e w4 ⟨h1,h2,h3⟩;obtain rfl:=h1 rfl;have eB:=hh9 (aA.out.trans (h3 w.heap.size (by omega) (by omega) (by omega) (by omega)));clear h1 h2 h3)
    refine bodyPost_ret (results_tmp2 rfl _ _ _) rfl ?_;exact⟨_,[],[],40,rfl,.inr ⟨HW.out,.inr ⟨g',nn,none,aF.out,HC.out,.inl ⟨rfl,rfl,rfl⟩⟩⟩,oV.nil _,eB.out⟩
   |some g2 =>
    go_wp2_with (go_at_call 32;refine Z5.out.mono ?_;rintro e w4 ⟨h1,h2,h3⟩;obtain⟨rfl,v4,ys4,hG4,Z6⟩:=h2 g2 rfl;have r0:=hG4.cells.1;have bD:=hh9 hG4;have HE4:=hh9 Z6;have eB:=hh9 (aA.out.trans (h3 w.heap.size (by omega) (by omega) (by omega) (by omega)));clear h1 h2 h3 hG4 Z6)
    refine bodyPost_ret (results_tmp2 rfl _ _ _) rfl ?_;exact⟨_,ys4,g2,0,rfl,.inr ⟨HW.out,.inr ⟨g',nn,some g2,aF.out,HC.out,.inr ⟨rfl,rfl⟩⟩⟩,bD.out.x HE4.out,eB.out⟩
theorem TW{w:World}{v:Value}{ys:List LV}{l:List Rule}(h:dz w v ys l)(hT:gJ w)(ht:ko l<=9000):Calls Tryz.prog 16 #[v] w (TP l w):=by
 cases hw:l.all iZ with
 |true=>exact zuw h hT hw ht
 |false=>exact zuv h hT hw
end Go.Proofs.YtahibnnhjahmnaaGreatDoor
namespace Go.Proofs.YtahibnnhjahmnaaGreatDoor
open Go.RowKit
def bL(w:World)(R:Nat)(s:ByteArray)(p:Nat)(c:Int):Prop:=w.heap[R]?=some (.cells #[.string s,.int .i64 p,.int .i64 c] 72 (0,0))
theorem bL.lt{w:World}{R:Nat}{s:ByteArray}{p:Nat}{c:Int}(h:bL w R s p c):R<w.heap.size:=(zbD.1 h).1
theorem bL.cells{w:World}{R:Nat}{s:ByteArray}{p:Nat}{c:Int}(h:bL w R s p c):w.cell? ⟨R,0,none⟩=some (.string s)/\w.cell? ⟨R,1,none⟩=some (.int .i64 p)/\w.cell? ⟨R,2,none⟩=some (.int .i64 c) /\
  w.frozen? ⟨R,0,none⟩=false/\w.frozen? ⟨R,1,none⟩=false/\w.frozen? ⟨R,2,none⟩=false:=by
 unfold bL at h;simp[World.cell?,World.frozen?,h]
theorem bL.drew{w:World}{R:Nat}{s:ByteArray}{p:Nat}{c:Int}(h:bL w R s p c)(n:Nat):bL (w.drewN n) R s p c:=h
theorem bL.kept{w w':World}{R:Nat}{row:Option Nat}{s:ByteArray}{p:Nat}{c:Int}(h:bL w R s p c)(hg:w.grownBy w' row)(hr:some R≠row):bL w' R s p c:=(hg.block R h.lt hr).trans h
theorem bL.below{w w':World}{R:Nat}{s:ByteArray}{p:Nat}{c:Int}(h:bL w R s p c)(hb:Below w.heap.size w w'):bL w' R s p c:=(hb.block R h.lt).trans h
theorem bL.alloc{w:World}{R:Nat}{s:ByteArray}{p:Nat}{c:Int}(h:bL w R s p c)(o:Obj):bL (w.alloc o) R s p c:=h.kept (World.grownBy_alloc w o none) (by simp)
theorem bL.put{w:World}{R:Nat}{s:ByteArray}{p:Nat}{c:Int}(h:bL w R s p c){x:Int}{q:Nat}(hx:x=q):bL (w.setCell ⟨R,1,none⟩ (.int .i64 x)) R s q c:=by
 subst hx;unfold bL at h ⊢;unfold World.setCell;simp only[Array.getElem?_modify,h];simp
theorem bL.step{w:World}{R:Nat}{s:ByteArray}{p:Nat}{c:Int}(h:bL w R s p c):bL (w.setCell ⟨R,1,none⟩ (.int .i64 ((p:Int)+1))) R s (p+1) c:=h.put (by omega)
theorem bL.TY{w:World}{R:Nat}{s:ByteArray}{p:Nat}{c:Int}(h:bL w R s p c)(x:Int):bL (w.setCell ⟨R,2,none⟩ (.int .i64 x)) R s p x:=by
 unfold bL at h ⊢;unfold World.setCell;simp only[Array.getElem?_modify,h];simp
theorem bL.pos{w:World}{R:Nat}{s:ByteArray}{p:Nat}{c:Int}(h:bL w R s p c):qH R w=p:=by
 unfold qH;rw[h.cells.2.1];simp
def aW(R:Nat)(s:ByteArray)(v:Value)(q:Nat)(c:Int)(w:World)(e:Ending)(w':World):Prop:=e=.returned v/\bL w' R s q c/\w.grownBy w' (some R)
theorem xD(c:Int)(w:World):Calls Tryz.prog 25 #[.int .i64 c] w (kR (aZ c) w):=by
 by_cases h1:c=32
 ·subst h1;go_enter Tryz.func25,Tryz.ntmps25;go_wp2;go_ret;exact⟨rfl,rfl⟩
 ·have e1:(c==32)=false:=by simpa using h1
  by_cases h2:c=9
  ·subst h2;go_enter Tryz.func25,Tryz.ntmps25;go_wp2;go_ret;exact⟨rfl,rfl⟩
  ·have e2:(c==9)=false:=by simpa using h2
   have hb:aZ c=false:=by unfold aZ;rw[e1,e2];rfl
   rw[hb];clear hb;go_enter Tryz.func25,Tryz.ntmps25;go_wp2;go_ret;exact⟨rfl,rfl⟩
theorem wh(c:Int)(w:World):Calls Tryz.prog 60 #[.int .i64 c] w (kR (aH c) w):=by
 have hu:aH c=((decide (97<=c)&&decide (c<=122))||(decide (65<=c)&&decide (c<=90))):=rfl;by_cases h1:97<=c<;>by_cases h2:c<=122<;>by_cases h3:65<=c<;>by_cases h4:c<=90
 all_goals try (exfalso;omega)
 all_goals
  simp only[h1,h2,h3,h4,decide_true,decide_false,Bool.and_true,Bool.and_false,Bool.or_true,Bool.or_false,Bool.and_self,Bool.or_self]at hu;rw[hu];clear hu;go_enter Tryz.func60,Tryz.ntmps60;go_wp2;go_ret;exact⟨rfl,rfl⟩
theorem xE(c:Int)(w:World):Calls Tryz.prog 61 #[.int .i64 c] w (kR (aS c) w):=by
 have hu:aS c=(decide (48<=c)&&decide (c<=57)):=rfl;by_cases h1:48<=c<;>by_cases h2:c<=57
 all_goals try (exfalso;omega)
 all_goals
  simp only[h1,h2,decide_true,decide_false,Bool.and_true,Bool.and_false,Bool.and_self]at hu;rw[hu];clear hu;go_enter Tryz.func61,Tryz.ntmps61;go_wp2;go_ret;exact⟨rfl,rfl⟩
theorem OV(c:Int)(h0:0<=c)(h1:c<=255)(w:World):Calls Tryz.prog 62 #[.int .u8 c] w fun e w'=>e=.returned (.int .u8 (low c))/\w=w':=by
 by_cases a:65<=c<;>by_cases b:c<=90
 ·rw[show low c=c+32 by unfold low;rw[if_pos ⟨a,b⟩]];go_enter Tryz.func62,Tryz.ntmps62;go_wp2;go_ret;exact⟨rfl,rfl⟩
 all_goals
  rw[show low c=c by unfold low;rw[if_neg (by omega)]];go_enter Tryz.func62,Tryz.ntmps62;go_wp2;go_ret;exact⟨rfl,rfl⟩
theorem qdg{R p:Nat}{c:Int}{s:ByteArray}{w:World}(h:bL w R s p c)(hs:s.size<=50000)(hp:p<=60000)(k:Nat)(hk:k<=60000)(x:Int)(hx:x=k) :
  Calls Tryz.prog 26 #[.pointer (some ⟨R,0,none⟩),.int .i64 x] w (Jh (rd s (p+k)) w):=by
 subst hx;obtain⟨c0,c1,c2,z0,z1,z2⟩:=h.cells;clear h;obtain⟨m,hm⟩:∃ m,p+k=m:=⟨_,rfl⟩
 have hmi:(p:Int)+(k:Int)=(m:Int):=by omega
 rw[hm];by_cases hlt:m<s.size
 ·rw[pO hlt];have q1:decide (s.size<=m)=false:=by simp;omega
  clear hm;go_enter Tryz.func26,Tryz.ntmps26;go_wp2_with fail
  go_quiet (fail)
  go_wp2_with fail
  go_quiet (fail)
  go_wp2_with fail
  go_ret;exact⟨nk (V8 _),dJ (dJ (zbE _ _) _) _⟩
 ·rw[kL hlt];have q1:decide (s.size<=m)=true:=by simp;omega
  clear hm;go_enter Tryz.func26,Tryz.ntmps26;go_wp2_with fail
  go_quiet (fail)
  go_wp2_with fail
  go_ret;exact⟨rfl,dJ (zbE _ _) _⟩
theorem tZ{R p:Nat}{s:ByteArray}{w:World}(h:bL w R s p 0)(c:Int) :
  Calls Tryz.prog 29 #[.pointer (some ⟨R,0,none⟩),.int .i64 c] w (aW R s (.tuple #[]) p c w):=by
 obtain⟨c0,c1,c2,z0,z1,z2⟩:=h.cells;have H:=hh9 h;clear h;go_enter Tryz.func29,Tryz.ntmps29;go_wp2;go_end0;exact⟨rfl,H.out.TY c,fu (iq _ _) _ _⟩
theorem FH{R p:Nat}{e:Int}{s:ByteArray}{w:World}(h:bL w R s p e)(he:e≠0)(c:Int) :
  Calls Tryz.prog 29 #[.pointer (some ⟨R,0,none⟩),.int .i64 c] w (aW R s (.tuple #[]) p e w):=by
 obtain⟨c0,c1,c2,z0,z1,z2⟩:=h.cells;have H:=hh9 h;have q1:(e==0)=false:=by simpa using he
 clear h;go_enter Tryz.func29,Tryz.ntmps29;go_wp2;go_end0;exact⟨rfl,H.out,iq _ _⟩
theorem iI{R p:Nat}{c:Int}{s:ByteArray}{w:World}(h:bL w R s p c)(hs:s.size<=50000)(hp:p<=60000)(k:Nat)(hk:k<=60000)(x:Int)(hx:x=k)(X:Int)(hX:rd s (p+k)=X) :
  Calls Tryz.prog 26 #[.pointer (some ⟨R,0,none⟩),.int .i64 x] w (Jh X w):=by
 rw[<- hX];exact qdg h hs hp k hk x hx
theorem aQ{R p:Nat}{c:Int}{s:ByteArray}{w:World}(h:bL w R s p c)(hs:s.size<=50000)(hp:p<=60000)(X:Int)(hX:rd s p=X) :
  Calls Tryz.prog 26 #[.pointer (some ⟨R,0,none⟩),.int .i64 0] w (Jh X w):=iI h hs hp 0 (by omega) 0 rfl X hX
noncomputable def pQ (f:Nat->Int) (p:Nat):Int:=match eH f p with|some e=>(e:Int)-p|none=>-1
theorem zI{f:Nat->Int}{p e:Nat}(h:eH f p=some e):pQ f p=(e:Int)-p:=by unfold pQ;rw[h]
theorem FI{f:Nat->Int}{p:Nat}(h:eH f p=none):pQ f p=-1:=by unfold pQ;rw[h]
theorem T9{f:Nat->Int}{p k:Nat}(h:ji f p=p+k)(h1:f (p+k)<0):(k:Int)=pQ f p:=by unfold pQ eH;rw[h,if_pos h1];simp;omega
theorem Ua{f:Nat->Int}{p k:Nat}(h:ji f p=p+k)(h1:f (p+k)=10):(k:Int)+1=pQ f p:=by unfold pQ eH;rw[h,if_neg (by omega),if_pos h1];simp;omega
theorem Ub{f:Nat->Int}{p k:Nat}(h:ji f p=p+k)(h1:f (p+k)=13)(h2:f (p+(k+1))=10):(k:Int)+2=pQ f p:=by unfold pQ eH;rw[h,if_neg (by omega),if_neg (by omega),if_pos ⟨h1,h2⟩];simp;omega
theorem Iu{f:Nat->Int}{p k:Nat}(h:ji f p=p+k)(h0:¬ f (p+k)<0)(h1:f (p+k)≠10)(h2:¬ (f (p+k)=13/\f (p+(k+1))=10)):(-1:Int)=pQ f p:=by
 unfold pQ eH;rw[h,if_neg h0,if_neg h1,if_neg (by exact h2)]
def Lj(s:ByteArray)(p:Nat)(w wr:World)(k:Nat):Prop:=Below w.heap.size w wr/\1<=k/\(p+k<=s.size)/\∀ i,p+1<=i->i<p+k->mR (rd s i)=true
theorem A9{R p:Nat}{c:Int}{s:ByteArray}{w:World}(h:bL w R s p c)(hs:s.size<=50000)(hp:p<=60000) :
  Calls Tryz.prog 27 #[.pointer (some ⟨R,0,none⟩)] w (Jh (pQ (rd s) p) w):=by
 have H:=hh9 h;clear h;by_cases yh:rd s p=59
 ·have AQ:=hh9 yh
  have hlt:p<s.size:=by
   by_cases k:p<s.size
   ·exact k
   ·rw[kL k]at yh;omega
  clear yh;go_enter Tryz.func27,Tryz.ntmps27;go_wp2_with fail
  refine(aQ H.out hs hp _ AQ.out).mono ?_;rintro e w1 ⟨rfl,hb⟩;have HB1:=hh9 hb;clear hb;go_wp2_with fail
  go_loopw [3] (fun v wr=>∃ k:Nat,v=.int .i64 k/\Lj s p w wr k) (fun v _=>s.size-(p+(intOf v).toNat))
  case atStart=>exact⟨1,rfl,HB1.out,zbA _,by omega,fun i h1 h2=>absurd h1 (by omega)⟩
  case round =>
   obtain⟨k,rfl,hb,hk1,hk2,hall⟩:=hrel;have HB:=hh9 hb;have HA:=hh9 (H.out.below hb);have HL:=hh9 hall;clear hb hall;obtain⟨Z,hZ⟩:∃ x,rd s (p+k)=x:=⟨_,rfl⟩
   have HZ:=hh9 hZ
   cases hcm:mR Z
   ·have HC:Hid (ji (rd s) p=p+k):=by
     unfold ji;rw[if_pos AQ.out];exact eG.eq ⟨by omega,HL.out,by rw[hZ];exact hcm⟩
    obtain⟨g1,g2⟩:aZ Z=false/\¬ (32<Z/\Z<127):=by
     unfold mR at hcm;simp at hcm;exact⟨hcm.1,by omega⟩
    have G1:=hh9 g1;clear hZ hcm g1;by_cases a:32<Z
    ·have b:¬ Z<127:=fun b=>g2 ⟨a,b⟩
     clear g2;go_wp2_with fail
     refine(iI HA.out hs hp k (by omega) _ (by omega) _ HZ.out).mono ?_;rintro e w2 ⟨rfl,hb⟩;have HB2:=hh9 (aJ HB.out hb);have HA2:=hh9 (HA.out.below hb);clear hb HB HA;go_wp2_with fail
     refine(xD _ _).mono ?_;rw[G1.out];rintro e w' ⟨rfl,rfl⟩;go_wp2_with fail
     refine(iI HA2.out hs hp k (by omega) _ (by omega) _ HZ.out).mono ?_;rintro e w2b ⟨rfl,hb⟩;have Ll:=hh9 (aJ HB2.out hb);have FJ:=hh9 (HA2.out.below hb);clear hb HB2 HA2;go_wp2_with fail
     refine(iI FJ.out hs hp k (by omega) _ (by omega) _ HZ.out).mono ?_;rintro e w2c ⟨rfl,hb⟩;have HB:=hh9 (aJ Ll.out hb);have HA:=hh9 (FJ.out.below hb);clear hb Ll FJ;obtain⟨X,hX⟩:∃ x,rd s (p+k)=x:=⟨_,rfl⟩
     have HX:=hh9 hX;clear hX;by_cases h10:X=10
     ·subst h10;go_wp2_with fail
      refine(iI HA.out hs hp k (by omega) _ (by omega) _ HX.out).mono ?_;rintro e w3 ⟨rfl,hb⟩;have HB3:=hh9 (aJ HB.out hb);clear hb;go_wp2;go_ret;exact⟨nk (by have hlen:=Ua HC.out HX.out;omega),HB3.out⟩
     ·have Lm:(X==10)=false:=by simpa using h10
      go_wp2_with fail
      refine(iI HA.out hs hp k (by omega) _ (by omega) _ HX.out).mono ?_;rintro e w3 ⟨rfl,hb⟩;have HB3:=hh9 (aJ HB.out hb);have aC:=hh9 (HA.out.below hb);clear hb;by_cases nM:X=13
      ·subst nM;clear Lm;by_cases h11:rd s (p+(k+1))=10
       ·have nN:=hh9 h11;clear h11;go_wp2_with fail
        refine(iI aC.out hs hp k (by omega) _ (by omega) _ HX.out).mono ?_;rintro e w4 ⟨rfl,hb⟩;have eB:=hh9 (aJ HB3.out hb);have bf:=hh9 (aC.out.below hb);clear hb;go_wp2_with fail
        refine(iI bf.out hs hp (k+1) (by omega) _ (by omega) _ nN.out).mono ?_;rintro e w5 ⟨rfl,hb⟩;have iR:=hh9 (aJ eB.out hb);clear hb;go_wp2;go_ret;exact⟨nk (by have hlen:=Ub HC.out HX.out nN.out;omega),iR.out⟩
       ·obtain⟨Y,hY⟩:∃ y,rd s (p+(k+1))=y:=⟨_,rfl⟩
        have Z7:(Y==10)=false:=by rw[<- hY];simpa using h11
        have nN:=hh9 h11;have HY:=hh9 hY;clear h11 hY;go_wp2_with fail
        refine(iI aC.out hs hp k (by omega) _ (by omega) _ HX.out).mono ?_;rintro e w4 ⟨rfl,hb⟩;have eB:=hh9 (aJ HB3.out hb);have bf:=hh9 (aC.out.below hb);clear hb;go_wp2_with fail
        refine(iI bf.out hs hp (k+1) (by omega) _ (by omega) _ HY.out).mono ?_;rintro e w5 ⟨rfl,hb⟩;have iR:=hh9 (aJ eB.out hb);have bQ:=hh9 (bf.out.below hb);clear hb;go_wp2_with fail
        refine(iI bQ.out hs hp k (by omega) _ (by omega) _ HX.out).mono ?_;rintro e w6 ⟨rfl,hb⟩;have sJ:=hh9 (aJ iR.out hb);clear hb;go_wp2;go_ret;exact⟨nk (by have hlen:=Iu HC.out (by rw[HX.out];omega) (by rw[HX.out];omega) (fun g=>nN.out g.2);omega),sJ.out⟩
      ·have Z8:(X==13)=false:=by simpa using nM
       have rC:=hh9 nM;have rA:=hh9 h10;clear nM h10;go_wp2_with fail
       refine(iI aC.out hs hp k (by omega) _ (by omega) _ HX.out).mono ?_;rintro e w4 ⟨rfl,hb⟩;have eB:=hh9 (aJ HB3.out hb);have bf:=hh9 (aC.out.below hb);clear hb;by_cases hn:X<0
       ·go_wp2_with fail
        refine(iI bf.out hs hp k (by omega) _ (by omega) _ HX.out).mono ?_;rintro e w5 ⟨rfl,hb⟩;have iR:=hh9 (aJ eB.out hb);clear hb;go_wp2;go_ret;exact⟨nk (by have hlen:=T9 HC.out (by rw[HX.out];omega);omega),iR.out⟩
       ·go_wp2_with fail
        refine(iI bf.out hs hp k (by omega) _ (by omega) _ HX.out).mono ?_;rintro e w5 ⟨rfl,hb⟩;have iR:=hh9 (aJ eB.out hb);clear hb;go_wp2;go_ret;exact⟨nk (by have hlen:=Iu HC.out (by rw[HX.out];omega) (by rw[HX.out];exact rA.out) (fun g=>rC.out (by rw[<- HX.out];exact g.1));omega),iR.out⟩
    ·clear g2;go_wp2_with fail
     refine(iI HA.out hs hp k (by omega) _ (by omega) _ HZ.out).mono ?_;rintro e w2 ⟨rfl,hb⟩;have HB2:=hh9 (aJ HB.out hb);have HA2:=hh9 (HA.out.below hb);clear hb HB HA;go_wp2_with fail
     refine(xD _ _).mono ?_;rw[G1.out];rintro e w' ⟨rfl,rfl⟩;go_wp2_with fail
     refine(iI HA2.out hs hp k (by omega) _ (by omega) _ HZ.out).mono ?_;rintro e w2b ⟨rfl,hb⟩;have HB:=hh9 (aJ HB2.out hb);have HA:=hh9 (HA2.out.below hb);clear hb HB2 HA2;obtain⟨X,hX⟩:∃ x,rd s (p+k)=x:=⟨_,rfl⟩
     have HX:=hh9 hX;clear hX;by_cases h10:X=10
     ·subst h10;go_wp2_with fail
      refine(iI HA.out hs hp k (by omega) _ (by omega) _ HX.out).mono ?_;rintro e w3 ⟨rfl,hb⟩;have HB3:=hh9 (aJ HB.out hb);clear hb;go_wp2;go_ret;exact⟨nk (by have hlen:=Ua HC.out HX.out;omega),HB3.out⟩
     ·have Lm:(X==10)=false:=by simpa using h10
      go_wp2_with fail
      refine(iI HA.out hs hp k (by omega) _ (by omega) _ HX.out).mono ?_;rintro e w3 ⟨rfl,hb⟩;have HB3:=hh9 (aJ HB.out hb);have aC:=hh9 (HA.out.below hb);clear hb;by_cases nM:X=13
      ·subst nM;clear Lm;by_cases h11:rd s (p+(k+1))=10
       ·have nN:=hh9 h11;clear h11;go_wp2_with fail
        refine(iI aC.out hs hp k (by omega) _ (by omega) _ HX.out).mono ?_;rintro e w4 ⟨rfl,hb⟩;have eB:=hh9 (aJ HB3.out hb);have bf:=hh9 (aC.out.below hb);clear hb;go_wp2_with fail
        refine(iI bf.out hs hp (k+1) (by omega) _ (by omega) _ nN.out).mono ?_;rintro e w5 ⟨rfl,hb⟩;have iR:=hh9 (aJ eB.out hb);clear hb;go_wp2;go_ret;exact⟨nk (by have hlen:=Ub HC.out HX.out nN.out;omega),iR.out⟩
       ·obtain⟨Y,hY⟩:∃ y,rd s (p+(k+1))=y:=⟨_,rfl⟩
        have Z7:(Y==10)=false:=by rw[<- hY];simpa using h11
        have nN:=hh9 h11;have HY:=hh9 hY;clear h11 hY;go_wp2_with fail
        refine(iI aC.out hs hp k (by omega) _ (by omega) _ HX.out).mono ?_;rintro e w4 ⟨rfl,hb⟩;have eB:=hh9 (aJ HB3.out hb);have bf:=hh9 (aC.out.below hb);clear hb;go_wp2_with fail
        refine(iI bf.out hs hp (k+1) (by omega) _ (by omega) _ HY.out).mono ?_;rintro e w5 ⟨rfl,hb⟩;have iR:=hh9 (aJ eB.out hb);have bQ:=hh9 (bf.out.below hb);clear hb;go_wp2_with fail
        refine(iI bQ.out hs hp k (by omega) _ (by omega) _ HX.out).mono ?_;rintro e w6 ⟨rfl,hb⟩;have sJ:=hh9 (aJ iR.out hb);clear hb;go_wp2;go_ret;exact⟨nk (by have hlen:=Iu HC.out (by rw[HX.out];omega) (by rw[HX.out];omega) (fun g=>nN.out g.2);omega),sJ.out⟩
      ·have Z8:(X==13)=false:=by simpa using nM
       have rC:=hh9 nM;have rA:=hh9 h10;clear nM h10;go_wp2_with fail
       refine(iI aC.out hs hp k (by omega) _ (by omega) _ HX.out).mono ?_;rintro e w4 ⟨rfl,hb⟩;have eB:=hh9 (aJ HB3.out hb);have bf:=hh9 (aC.out.below hb);clear hb;by_cases hn:X<0
       ·go_wp2_with fail
        refine(iI bf.out hs hp k (by omega) _ (by omega) _ HX.out).mono ?_;rintro e w5 ⟨rfl,hb⟩;have iR:=hh9 (aJ eB.out hb);clear hb;go_wp2;go_ret;exact⟨nk (by have hlen:=T9 HC.out (by rw[HX.out];omega);omega),iR.out⟩
       ·go_wp2_with fail
        refine(iI bf.out hs hp k (by omega) _ (by omega) _ HX.out).mono ?_;rintro e w5 ⟨rfl,hb⟩;have iR:=hh9 (aJ eB.out hb);clear hb;go_wp2;go_ret;exact⟨nk (by have hlen:=Iu HC.out (by rw[HX.out];omega) (by rw[HX.out];exact rA.out) (fun g=>rC.out (by rw[<- HX.out];exact g.1));omega),iR.out⟩
   ·have hlt2:p+k<s.size:=by
     by_cases g:p+k<s.size
     ·exact g
     ·rw[kL g]at hZ;subst hZ;simp[mR,aZ]at hcm
    have HN:Hid (∀ i,p+1<=i->i<p+(k+1)->mR (rd s i)=true):=by
     intro i h1 h2;by_cases g:i=p+k
     ·rw[g,hZ];exact hcm
     ·exact HL.out i h1 (by omega)
    clear hZ
    cases g1:aZ Z
    ·obtain⟨a,b⟩:32<Z/\Z<127:=by
      unfold mR at hcm;rw[g1]at hcm;simp at hcm;omega
     have G1:=hh9 g1;clear g1 hcm;go_wp2_with fail
     refine(iI HA.out hs hp k (by omega) _ (by omega) _ HZ.out).mono ?_;rintro e w2 ⟨rfl,hb⟩;have HB2:=hh9 (aJ HB.out hb);have HA2:=hh9 (HA.out.below hb);clear hb;go_wp2_with fail
     refine(xD _ _).mono ?_;rw[G1.out];rintro e w' ⟨rfl,rfl⟩;go_wp2_with fail
     refine(iI HA2.out hs hp k (by omega) _ (by omega) _ HZ.out).mono ?_;rintro e w3 ⟨rfl,hb⟩;have HB3:=hh9 (aJ HB2.out hb);have aC:=hh9 (HA2.out.below hb);clear hb;go_wp2_with fail
     refine(iI aC.out hs hp k (by omega) _ (by omega) _ HZ.out).mono ?_;rintro e w4 ⟨rfl,hb⟩;have eB:=hh9 (aJ HB3.out hb);clear hb;go_wp2_with fail
     go_roundw
     case rel=>exact⟨k+1,R9 (by omega),eB.out,by omega,by omega,HN.out⟩
     case measure=>simp[intOf];omega
    ·have G1:=hh9 g1;clear g1 hcm;go_wp2_with fail
     refine(iI HA.out hs hp k (by omega) _ (by omega) _ HZ.out).mono ?_;rintro e w2 ⟨rfl,hb⟩;have HB2:=hh9 (aJ HB.out hb);clear hb;go_wp2_with fail
     refine(xD _ _).mono ?_;rw[G1.out];rintro e w' ⟨rfl,rfl⟩;go_wp2_with fail
     go_roundw
     case rel=>exact⟨k+1,R9 (by omega),HB2.out,by omega,by omega,HN.out⟩
     case measure=>simp[intOf];omega
 ·obtain⟨X0,hX0⟩:∃ x,rd s p=x:=⟨_,rfl⟩
  have q59:(X0==59)=false:=by rw[<- hX0];simpa using yh
  have HX0:=hh9 hX0;have HC:Hid (ji (rd s) p=p+0):=by unfold ji;rw[if_neg yh];rfl
  clear hX0 yh;go_enter Tryz.func27,Tryz.ntmps27;go_wp2_with fail
  refine(aQ H.out hs hp _ HX0.out).mono ?_;rintro e w1 ⟨rfl,hb⟩;have HB:=hh9 hb;have HA:=hh9 (H.out.below hb);clear hb;obtain⟨X,hX⟩:∃ x,rd s (p+0)=x:=⟨_,rfl⟩
  have HX:=hh9 hX;clear hX;by_cases h10:X=10
  ·subst h10;go_wp2_with fail
   refine(iI HA.out hs hp 0 (by omega) _ (by omega) _ HX.out).mono ?_;rintro e w3 ⟨rfl,hb⟩;have HB3:=hh9 (aJ HB.out hb);clear hb;go_wp2;go_ret;exact⟨nk (by have hlen:=Ua HC.out HX.out;omega),HB3.out⟩
  ·have Lm:(X==10)=false:=by simpa using h10
   go_wp2_with fail
   refine(iI HA.out hs hp 0 (by omega) _ (by omega) _ HX.out).mono ?_;rintro e w3 ⟨rfl,hb⟩;have HB3:=hh9 (aJ HB.out hb);have aC:=hh9 (HA.out.below hb);clear hb;by_cases nM:X=13
   ·subst nM;clear Lm;by_cases h11:rd s (p+(0+1))=10
    ·have nN:=hh9 h11;clear h11;go_wp2_with fail
     refine(iI aC.out hs hp 0 (by omega) _ (by omega) _ HX.out).mono ?_;rintro e w4 ⟨rfl,hb⟩;have eB:=hh9 (aJ HB3.out hb);have bf:=hh9 (aC.out.below hb);clear hb;go_wp2_with fail
     refine(iI bf.out hs hp (0+1) (by omega) _ (by omega) _ nN.out).mono ?_;rintro e w5 ⟨rfl,hb⟩;have iR:=hh9 (aJ eB.out hb);clear hb;go_wp2;go_ret;exact⟨nk (by have hlen:=Ub HC.out HX.out nN.out;omega),iR.out⟩
    ·obtain⟨Y,hY⟩:∃ y,rd s (p+(0+1))=y:=⟨_,rfl⟩
     have Z7:(Y==10)=false:=by rw[<- hY];simpa using h11
     have nN:=hh9 h11;have HY:=hh9 hY;clear h11 hY;go_wp2_with fail
     refine(iI aC.out hs hp 0 (by omega) _ (by omega) _ HX.out).mono ?_;rintro e w4 ⟨rfl,hb⟩;have eB:=hh9 (aJ HB3.out hb);have bf:=hh9 (aC.out.below hb);clear hb;go_wp2_with fail
     refine(iI bf.out hs hp (0+1) (by omega) _ (by omega) _ HY.out).mono ?_;rintro e w5 ⟨rfl,hb⟩;have iR:=hh9 (aJ eB.out hb);have bQ:=hh9 (bf.out.below hb);clear hb;go_wp2_with fail
     refine(iI bQ.out hs hp 0 (by omega) _ (by omega) _ HX.out).mono ?_;rintro e w6 ⟨rfl,hb⟩;have sJ:=hh9 (aJ iR.out hb);clear hb;go_wp2;go_ret;exact⟨nk (by have hlen:=Iu HC.out (by rw[HX.out];omega) (by rw[HX.out];omega) (fun g=>nN.out g.2);omega),sJ.out⟩
   ·have Z8:(X==13)=false:=by simpa using nM
    have rC:=hh9 nM;have rA:=hh9 h10;clear nM h10;go_wp2_with fail
    refine(iI aC.out hs hp 0 (by omega) _ (by omega) _ HX.out).mono ?_;rintro e w4 ⟨rfl,hb⟩;have eB:=hh9 (aJ HB3.out hb);have bf:=hh9 (aC.out.below hb);clear hb;by_cases hn:X<0
    ·go_wp2_with fail
     refine(iI bf.out hs hp 0 (by omega) _ (by omega) _ HX.out).mono ?_;rintro e w5 ⟨rfl,hb⟩;have iR:=hh9 (aJ eB.out hb);clear hb;go_wp2;go_ret;exact⟨nk (by have hlen:=T9 HC.out (by rw[HX.out];omega);omega),iR.out⟩
    ·go_wp2_with fail
     refine(iI bf.out hs hp 0 (by omega) _ (by omega) _ HX.out).mono ?_;rintro e w5 ⟨rfl,hb⟩;have iR:=hh9 (aJ eB.out hb);clear hb;go_wp2;go_ret;exact⟨nk (by have hlen:=Iu HC.out (by rw[HX.out];omega) (by rw[HX.out];exact rA.out) (fun g=>rC.out (by rw[<- HX.out];exact g.1));omega),iR.out⟩
end Go.Proofs.YtahibnnhjahmnaaGreatDoor
