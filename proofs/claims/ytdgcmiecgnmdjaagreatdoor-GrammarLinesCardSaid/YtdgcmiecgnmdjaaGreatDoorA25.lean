/- Part 25 of what the laws of the grammar rest on. -/
import Derived.Test.YtdgcmiecgnmdjaaGreatDoorA6
import Derived.Test.YtdgcmiecgnmdjaaGreatDoorA9
import Derived.Test.YtdgcmiecgnmdjaaGreatDoorA13
import Derived.Test.YtdgcmiecgnmdjaaGreatDoorA23
import Derived.Test.YtdgcmiecgnmdjaaGreatDoorA24
import Derived.WalkMore
set_option linter.all false
set_option maxRecDepth 100000
set_option maxHeartbeats 8000000
namespace Go.Proofs.YtdgcmiecgnmdjaaGreatDoor
open Go.RowKit
theorem zqe:∀ l:List (List Int),sepT [] l=l.flatten
 | []=>rfl
 | [x]=>by simp [sepT]
 | x::y::l=>by
  have:=zqe (y::l)
  rw [sepT,this]
  simp
theorem zrw:∀ (l:List (List Int)) (x:List Int),x∈l->x.length<=l.flatten.length
 | [],x,h=>by simp at h
 | y::l,x,h=>by
  rw [List.mem_cons] at h
  rw [List.flatten_cons,List.length_append]
  rcases h with rfl | h
  ·omega
  ·have:=zrw l x h
   omega
theorem zzk (r:Rule):1<=(zb9 r).length:=by unfold zb9;rw [List.length_append];exact Nat.le_add_left 1 _
theorem zm3:∀ (l:List Rule),l.length<=((l.map zb9).flatten).length
 | []=>by simp
 | r::l=>by
  have h1:=zzk r
  have h2:=zm3 l
  simp only [List.map_cons,List.flatten_cons,List.length_append,List.length_cons]
  omega
theorem zwl {w:World} {v:Value} {vs:List LV} {l:List Rule} (h:LinesE w v vs l) (hr:l.all rlB=true) (hT:Tabs w) (hs:((l.map zb9).flatten).length<=1000000000000) :
  Calls Tryz.prog 60 #[v,.string ⟨#[]⟩,.func (Fn.func 61) #[] #[]] w (zck ((l.map zb9).flatten) w):=by
 obtain ⟨h1,h2,h3⟩:=h
 have HT:=hh9 hT
 have H2:=hh9 h2
 have H3:=hh9 h3
 have HR:=hh9 hr
 have HS:=hh9 hs
 have hn:=Nat.le_trans (zm3 l) hs
 obtain ⟨n,hnn⟩:∃ n,n=l.length:=⟨_,rfl⟩
 rw [<- hnn] at h1 hn
 have HNN:=hh9 hnn
 have hmk:=zhs n (by omega) w
 have HB0:=hh9 ((Below.refl w.heap.size w).alloc (Nat.le_refl _) (.cells (zdf n []) 9))
 have HX0:Hid (TX w.heap.size n [] (w.alloc (.cells (zdf n []) 9))):=heap_alloc_new w _
 obtain ⟨W0,hW0⟩:∃ W0,W0=w.alloc (.cells (zdf n []) 9):=⟨_,rfl⟩
 rw [<- hW0] at hmk HB0 HX0
 clear hW0 hT h2 h3 hr hs hnn
 have HJE:Hid (∀ wr,TX w.heap.size n (l.map zb9) wr->Calls Tryz.prog 82 #[.slice (some ⟨w.heap.size,0,none⟩) n n,.string ⟨#[]⟩] wr (zck ((l.map zb9).flatten) wr)):=fun wr hX=>by
  have hle:(l.map zb9).length=n:=by rw [List.length_map,<- HNN.out]
  have:=zmp (B:=w.heap.size) (xs:=l.map zb9) (W:=wr) (by rw [hle];exact hX) [] (by rw [zqe];exact HS.out) (by rw [hle];omega)
  rw [zqe,hle,zf0] at this
  exact this
 rcases h1 with ⟨h0,a,cap,rfl⟩ | ⟨g,off,cap,rfl,g1,g2,g3,g4⟩
 ·have hx0:l=[]:=List.length_eq_zero_iff.1 (by rw [<- HNN.out];exact h0)
  subst h0
  have HJ:=hh9 (HJE.out W0 (by rw [hx0];exact HX0.out))
  rw [show ((0:Nat):Int)=0 from rfl] at hmk
  clear hx0
  go_enter Tryz.func60,Tryz.ntmps60
  go_wp2_with fail
  go_loop [15] (fun v=>v=.int .i64 0) (fun v=>0)
  case atStart=>rfl
  case round =>
   subst hrel
   clear hmk
   go_wp2_with fail
   refine HJ.out.mono ?_
   rintro e w1 ⟨rfl,hb⟩
   have HB1:=hh9 (za0 HB0.out hb)
   clear hb
   go_wp2_with fail
   go_ret
   exact ⟨rfl,HB1.out⟩
 ·have G4:=hh9 g4
  unfold maxLen at g2
  clear g4
  go_enter Tryz.func60,Tryz.ntmps60
  go_wp2_with fail
  go_loopw [15] (fun v wr=>∃ i:Nat,v=.int .i64 i/\i<=n/\Hid (Below w.heap.size w wr)/\Hid (TX w.heap.size n ((l.take i).map zb9) wr)) (fun v _=>n-(intOf v).toNat)
  case atStart=>exact ⟨0,rfl,by omega,HB0,HX0⟩
  case round =>
   obtain ⟨i,rfl,hi,HBEL,HX⟩:=hrel
   clear hmk
   by_cases hlt:i<n
   ·obtain ⟨Y,hY⟩:∃ y,vs[i]?=some y:=⟨_,List.getElem?_eq_getElem (by rw [H2.out,<- HNN.out];exact hlt)⟩
    obtain ⟨t,ht⟩:∃ y,l[i]?=some y:=⟨_,List.getElem?_eq_getElem (by rw [<- HNN.out];exact hlt)⟩
    have CX:∀ (j:Nat) (u:Value),j<8->Y.cells[j]?=some u->wr.cell? ⟨g,off+(i*8+j),none⟩=some u:=fun j u hj hu =>
     (HBEL.out.cell (p:=⟨g,off+(i*8+j),none⟩) g3).trans (G4.out _ u ((zf3 vs i j Y hY hj).trans hu))
    obtain ⟨aa,am,ac,ca,cm,cc,en,ek⟩:=(H3.out i Y t hY ht).2.2.2.2.slices
    have hlen1:(zb9 t).length<=1000000000000:=Nat.le_trans (zrw _ _ (List.mem_map.2 ⟨t,List.mem_of_getElem? ht,rfl⟩)) HS.out
    have HH:=hh9 (fun W' (hb:Below w.heap.size w W')=>zva ((H3.out i Y t hY ht).under hb) (List.all_eq_true.1 HR.out t (List.mem_of_getElem? ht)) (HT.out.below hb) hlen1)
    have hlen:((l.take i).map zb9).length=i:=by rw [List.length_map,List.length_take,<- HNN.out];omega
    have HTK:=hh9 (show (l.take (i+1)).map zb9=((l.take i).map zb9)++[zb9 t] by
     rw [List.take_add_one,ht];simp)
    have HLEN:=hh9 hlen
    obtain ⟨nm,mo,⟨k,sx,nv,lo,hi',kv⟩⟩:=Y
    simp only [] at en ek
    subst en ek
    have e0:=CX 0 _ (by omega) rfl
    have e1:=CX 1 _ (by omega) rfl
    have e2:=CX 2 _ (by omega) rfl
    have e3:=CX 3 _ (by omega) rfl
    have e4:=CX 4 _ (by omega) rfl
    have e5:=CX 5 _ (by omega) rfl
    have e6:=CX 6 _ (by omega) rfl
    have e7:=CX 7 _ (by omega) rfl
    rw [<- Nat.add_assoc] at e0 e1 e2 e3 e4 e5 e6 e7
    rw [Nat.add_zero] at e0
    have hxb:=HX.out.lt
    have hne:wr.heap.size≠w.heap.size:=by omega
    have HA:=hh9 (zjj HBEL.out (lobj ⟨nm,mo,⟨k,sx,.slice aa am ac,lo,hi',.slice ca cm cc⟩⟩))
    have HXA:=hh9 (HX.out.under ((Below.refl wr.heap.size wr).alloc (Nat.le_refl _) (lobj ⟨nm,mo,⟨k,sx,.slice aa am ac,lo,hi',.slice ca cm cc⟩⟩)))
    unfold lobj LV.arr at HA HXA
    clear hY ht hlen CX hlen1
    go_wp2_with fail
    refine (HH.out _ HA.out).mono ?_
    rintro e w1 ⟨rfl,hb⟩
    have HB1:=hh9 (za0 HA.out hb)
    have hX1:=HXA.out.under hb
    have k0:=hX1.cell (by rw [HLEN.out];exact hlt)
    have k1:=hX1.frozen i
    rw [HLEN.out] at k0
    have HX2:=hh9 (hX1.set (by rw [HLEN.out];exact hlt) (zb9 t))
    clear hb hX1 e0 e1 e2 e3 e4 e5 e6 e7
    go_wp2_with fail
    go_roundw
    case rel=>exact ⟨i+1,by go_num,by omega,HB1.out.setCell (Nat.le_refl _) _,by unfold Hid;have:=HX2.out;rw [HLEN.out,<- HTK.out] at this;exact this⟩
    case measure=>simp [intOf];omega
   ·have hin:i=n:=by omega
    subst hin
    have HJ:=hh9 (HJE.out wr (by have:=HX.out;rw [List.take_of_length_le (by rw [<- HNN.out];omega)] at this;exact this))
    go_wp2_with fail
    refine HJ.out.mono ?_
    rintro e w1 ⟨rfl,hb⟩
    have HB1:=hh9 (za0 HBEL.out hb)
    clear hb
    go_wp2_with fail
    go_ret
    exact ⟨rfl,HB1.out⟩
def zia (l:List Rule):Value:=if l.all rlB=true then .tuple #[.string (za3 ((l.map zb9).flatten)),.int .i64 0] else .tuple #[.string ⟨#[]⟩,.int .i64 1]
def ze0 (l:List Rule) (w:World) (e:Ending) (w':World):Prop:=e=.returned (zia l)/\Below w.heap.size w w'
theorem zrx {w:World} {v:Value} {vs:List LV} {l:List Rule} (h:LinesE w v vs l) (hT:Tabs w) (hs:l.all rlB=true->((l.map zb9).flatten).length<=1000000000000) :
  Calls Tryz.prog 42 #[v] w (ze0 l w):=by
 have HA:=hh9 (zym h)
 cases hp:l.all rlB
 ·have hv:zia l=.tuple #[.string ⟨#[]⟩,.int .i64 1]:=by unfold zia;rw [hp,if_neg (by simp)]
  unfold ze0
  rw [hv]
  rw [hp] at HA
  clear hp hs h hT hv
  go_enter Tryz.func42,Tryz.ntmps42
  go_wp2_with fail
  refine HA.out.mono ?_
  rintro e w1 ⟨rfl,hb⟩
  have HB1:=hh9 hb
  clear hb
  go_wp2_with fail
  go_ret2
  exact ⟨rfl,HB1.out⟩
 ·have hv:zia l=.tuple #[.string (za3 ((l.map zb9).flatten)),.int .i64 0]:=by unfold zia;rw [hp,if_pos rfl]
  unfold ze0
  rw [hv]
  rw [hp] at HA
  have HJ:=hh9 (fun W' (hb:Below w.heap.size w W')=>zwl (h.below hb) hp (hT.below hb) (hs hp))
  clear hp hs h hT hv
  go_enter Tryz.func42,Tryz.ntmps42
  go_wp2_with fail
  refine HA.out.mono ?_
  rintro e w1 ⟨rfl,hb⟩
  have HB1:=hh9 hb
  clear hb
  go_wp2_with fail
  refine (HJ.out _ HB1.out).mono ?_
  rintro e w2 ⟨rfl,hb⟩
  have HB2:=hh9 (za0 HB1.out hb)
  clear hb
  go_wp2_with fail
  go_ret2
  exact ⟨rfl,HB2.out⟩
end Go.Proofs.YtdgcmiecgnmdjaaGreatDoor
namespace Go.Proofs.YtdgcmiecgnmdjaaGreatDoor
open Go.RowKit Go.Shelf
def zd0 (W:World) (v:Value) (ys:List RV) (g:List GR):Prop :=
 RowAny W v g.length (ys.flatMap RV.cells)/\ys.length=g.length/\∀ (i:Nat) (y:RV) (r:GR),ys[i]?=some y->g[i]?=some r->y.name=za3 r.name/\zar r.name/\ETP W (fun _=>True) y.expr r.expr
theorem zd0.rules {W:World} {v:Value} {ys:List RV} {g:List GR} (h:zd0 W v ys g):zdg W v ys g :=
 ⟨h.1,h.2.1,fun i y r hy hr=>⟨(h.2.2 i y r hy hr).1,(h.2.2 i y r hy hr).2.1,(h.2.2 i y r hy hr).2.2.any⟩⟩
theorem zd0.below {W W':World} {v:Value} {ys:List RV} {g:List GR} (h:zd0 W v ys g) (hb:Below W.heap.size W W'):zd0 W' v ys g :=
 ⟨h.1.below hb,h.2.1,fun i y r hy hr=>⟨(h.2.2 i y r hy hr).1,(h.2.2 i y r hy hr).2.1,(h.2.2 i y r hy hr).2.2.kept (M:=fun _=>False) (zap.below hb) (fun b _ _=>⟨id,trivial⟩)⟩⟩
theorem zd0.nil (W:World):zd0 W (.slice none 0 0) [] []:=⟨.inl ⟨rfl,_,_,rfl⟩,rfl,fun i y r h=>by simp at h⟩
theorem zcr {W:World} {base size n:Nat} {e:TypeId} {v:Value} {xs:List Value} (h:W.ownsRow base e size v n xs):RowAny W v n xs:=by
 rcases zan h with ⟨rfl,rfl⟩ | ⟨b,cap,rfl⟩
 ·exact .inl ⟨rfl,_,_,rfl⟩
 ·obtain ⟨h1,h2,h3,h4⟩:=zb0 h
  exact .inr ⟨b,0,cap,rfl,h2,h3,h4,fun j u hj=>by rw [Nat.zero_add];exact zaq h hj⟩
theorem zg3.x {W:World} {base:Nat} {v:Value} {ys:List RV} {g:List GR} (h:zg3 W base v ys g):zd0 W v ys g :=
 ⟨zcr h.1,h.2.1,fun i y r hy hr=>⟨(h.2.2 i y r hy hr).1,(h.2.2 i y r hy hr).2.1,(h.2.2 i y r hy hr).2.2.weak (fun _ _ _=>trivial)⟩⟩
theorem GAt.x {W:World} {base R m:Nat} {v:Value} {ys:List RV} {g:List GR} (h:GAt W base R m v ys g) (he:zfd W ys g):zd0 W v ys g :=
 ⟨zcr h.row,h.len,fun i y r hy hr=>⟨(h.name i y r hy hr).1,(h.name i y r hy hr).2,(he i y r hy hr).1⟩⟩
def zkj (l:List Rule) (w:World) (e:Ending) (w':World):Prop :=
 ∃ (v:Value) (ys:List RV) (g:List GR) (er:Int),e=.returned (.tuple #[v,.int .i64 er])/\zcl l g er/\zd0 w' v ys g/\Below w.heap.size w w'
theorem zib {d:Nat} {t:Tree} (h:zax d t=true):0<(zbt t).length:=by
 obtain ⟨k,x,ns,lo,hi,kids⟩:=t
 rw [zi9]
 by_cases hk:k=1
 ·rw [if_pos hk]
  have hf:ze4 k x ns lo hi kids.length=true:=by
   cases d with
   | zero=>unfold zax at h;rw [Bool.and_eq_true] at h;exact h.1
   | succ d=>unfold zax at h;rw [Bool.and_eq_true] at h;exact h.1
  unfold ze4 at hf
  rw [if_pos (.inl hk)] at hf
  simp only [Bool.and_eq_true,decide_eq_true_eq] at hf
  omega
 ·rw [if_neg hk]
  simp
theorem zjb:∀ (l:List Rule) (i:Nat),twl (l.take i)<=twl l
 | [],i=>by simp
 | r::l,0=>by simp [twl]
 | r::l,i+1=>by
  have:=zjb l i
  simp only [twl,List.take_succ_cons,List.map_cons,List.sum_cons] at this ⊢
  omega
theorem zwm {l:List Rule} {r:Rule} (h:r∈l):r.expr.tw+1<=twl l:=by
 induction l with
 | nil=>cases h
 | cons u l ih =>
  simp only [twl,List.map_cons,List.sum_cons]
  rcases List.mem_cons.1 h with rfl | h
  ·omega
  ·have:=ih h
   simp only [twl] at this
   omega
theorem zkk:∀ l:List Rule,l.length<=twl l
 | []=>Nat.zero_le _
 | r::l=>by
  have:=zkk l
  simp only [twl,List.map_cons,List.sum_cons,List.length_cons] at this ⊢
  omega
theorem zir {l:List Rule} {i:Nat} {r:Rule} {g:List GR} (h:zbf [] (l.take i)=some g) (hr:l[i]?=some r):zbf [] (l.take (i+1))=zcv g r:=by
 have e:l.take (i+1)=l.take i++[r]:=by rw [List.take_add_one,hr];rfl
 have app:∀ (a b:List Rule) (g:List GR),zbf g (a++b)=(zbf g a).bind fun g'=>zbf g' b:=fun a=>by
  induction a with
  | nil=>exact fun b g=>rfl
  | cons u a ih =>
   intro b g
   rw [List.cons_append,zc3,zc3]
   cases zcv g u with
   | none=>rfl
   | some g'=>exact ih b g'
 rw [e,app,h]
 show zbf g [r]=_
 rw [zc3]
 cases zcv g r<;>rfl
theorem zfl {l:List Rule} {i:Nat} (h:zbf [] (l.take i)=none):zbf [] l=none:=by
 have app:∀ (a b:List Rule) (g:List GR),zbf g (a++b)=(zbf g a).bind fun g'=>zbf g' b:=fun a=>by
  induction a with
  | nil=>exact fun b g=>rfl
  | cons u a ih =>
   intro b g
   rw [List.cons_append,zc3,zc3]
   cases zcv g u with
   | none=>rfl
   | some g'=>exact ih b g'
 have e:=app (l.take i) (l.drop i) []
 rw [List.take_append_drop,h] at e
 exact e
theorem ze1 {l:List Rule} {g:List GR} {i:Nat} (h:zbf [] (l.take i)=some g) (ht:twl l<=9000):(∀ r∈g,r.expr.tw<=9000/\dep r.expr<=9000/\(zai r.expr).length<=1000000)/\g.length<=9000:=by
 have h1:=zki h
 have h2:=zjb l i
 have h3:=zkk (l.take i)
 simp only [tws,List.map_nil,List.sum_nil,List.length_nil] at h1
 constructor
 ·intro r hr
  have h4:=zwf hr
  unfold tws at h4
  have h5:=zrs r.expr.tw r.expr (Nat.le_refl _)
  omega
 ·omega
theorem zic (g:List GR):zcd g<=16:=by
 unfold zcd
 have:=List.length_filter_le (fun r=>(zay g r.name).isNone) zbs
 have:zbs.length=16:=by decide +kernel
 omega
theorem zm4 {l:List Rule} (h:l.all rlB=true):zia l=.tuple #[.string (za3 ((l.map zb9).flatten)),.int .i64 0]:=by unfold zia;rw [if_pos h]
theorem zm5 {l:List Rule} (h:l.all rlB=false):zia l=.tuple #[.string ⟨#[]⟩,.int .i64 1]:=by unfold zia;rw [if_neg (by rw [h];simp)]
theorem ztl {w:World} {v:Value} {ys:List LV} {l:List Rule} (h:LinesE w v ys l) (hT:Tabs w) (hw:l.all rlB=false):Calls Tryz.prog 25 #[v] w (zkj l w):=by
 have HT:=hh9 (zrx h hT (fun h2=>by rw [hw] at h2;cases h2))
 unfold ze0 at HT
 rw [zm5 hw] at HT
 have HJ:Hid (zcl l [] 1):=.inl ⟨hw,rfl,rfl⟩
 obtain ⟨a,c,rfl,_⟩:=h.1.slice
 clear h hT hw
 go_enter Tryz.func25,Tryz.ntmps25
 go_wp2_with (go_at_call 42;refine HT.out.mono ?_;rintro e w1 ⟨rfl,hb⟩;have HB:=hh9 hb;clear hb)
 refine bodyPost_ret (results_tmp2 rfl _ _ _) rfl ?_
 exact ⟨_,[],[],1,rfl,HJ.out,zd0.nil _,HB.out⟩
theorem ztm {w:World} {v:Value} {ys:List LV} {l:List Rule} (h:LinesE w v ys l) (hT:Tabs w) (hw:l.all rlB=true) (ht:twl l<=9000):Calls Tryz.prog 25 #[v] w (zkj l w):=by
 have hlen:((l.map zb9).flatten).length<=1000000000000:=by
  have:∀ l:List Rule,l.all rlB=true->((l.map zb9).flatten).length<=60*twl l:=fun l=>by
   induction l with
   | nil=>simp
   | cons r l ih =>
    intro h
    rw [List.all_cons,Bool.and_eq_true] at h
    have h1:=ih h.2
    have h2:=h.1
    unfold rlB at h2
    rw [Bool.and_eq_true] at h2
    have h3:=zmo 50 r.expr h2.2
    have h4:r.name.length<=40:=(zf2 h2.1).1
    have h5:(zb9 r).length<=r.name.length+4+(zaf 50 r.expr).length+1:=by
     unfold zb9
     simp only [List.length_append,List.length_cons,List.length_nil]
     have:(if r.more=true then [32,61,47,32] else [32,61,32]:List Int).length<=4:=by split<;>simp
     omega
    unfold twl at h1 ⊢
    simp only [List.map_cons,List.flatten_cons,List.length_append,List.sum_cons] at h1 ⊢
    omega
  have:=this l hw
  omega
 have HT:=hh9 (zrx h hT (fun _=>hlen))
 unfold ze0 at HT
 rw [zm4 hw] at HT
 have HH:=hh9 h
 have HW:=hh9 hw
 obtain ⟨a,n,c,rfl,hn⟩:∃ a n c,v=.slice a n c/\n=l.length:=by
  obtain ⟨a,c,h,_⟩:=h.1.slice
  exact ⟨a,_,c,h,rfl⟩
 have HN:=hh9 hn
 have hl9:=zkk l
 have hn9:n<=9000:=by omega
 obtain ⟨TX,hTX⟩:∃ TX,TX=za3 ((l.map zb9).flatten):=⟨_,rfl⟩
 rw [<- hTX] at HT
 clear h hT hw hn hTX hlen
 go_enter Tryz.func25,Tryz.ntmps25
 have hmk:∀ u:World,(Instr.makeMap 59 none).run Tryz.prog u=.ok (.map (some u.heap.size)) (u.alloc (.map #[] 0)):=fun u=>run_makeMap _ u
 go_wp2_with (go_at_call 42;refine HT.out.mono ?_;rintro e w1 ⟨rfl,hb⟩;have HB:=hh9 hb;clear hb)
 have hb2:Below w1.heap.size w1 ((w1.alloc (.map #[] 0)).alloc (.cells #[.slice none 0 0,.map (some w1.heap.size)] 77)):=((Below.refl _ _).alloc (Nat.le_refl _) _).alloc (by simp) _
 have hstart:TS ((w1.alloc (.map #[] 0)).alloc (.cells #[.slice none 0 0,.map (some w1.heap.size)] 77)) (w1.heap.size+2) (w1.heap.size+1) w1.heap.size (.slice none 0 0) [] []:=by
  refine ⟨⟨?_,World.ownsRow_nil _ _ _ _,rfl,⟨.map [],(World.ownsMap_made w1 Tryz.prog 9 _).alloc _,MapG.start⟩,fun i y r h=>by simp at h⟩,fun i y r h=>by simp at h⟩
  have h:=heap_alloc_new (w1.alloc (.map #[] 0)) (.cells #[.slice none 0 0,.map (some w1.heap.size)] 77)
  rw [World.size_alloc] at h
  exact h
 have HSTART:=hh9 hstart
 have HB2:=hh9 (za0 HB.out hb2)
 have hs2:((w1.alloc (.map #[] 0)).alloc (.cells #[.slice none 0 0,.map (some w1.heap.size)] 77)).heap.size=w1.heap.size+2:=by simp
 have hw1:=HB.out.size
 clear hstart hb2
 go_loopw [23] (fun v wr=>∃ (i:Nat) (v':Value) (ys':List RV) (g':List GR),v=.int .i64 i/\i<=n/\Hid (zbf [] (l.take i)=some g')/\Hid (TS wr (w1.heap.size+2) (w1.heap.size+1) w1.heap.size v' ys' g')/\Hid (Below w.heap.size w wr)/\w1.heap.size+2<=wr.heap.size) (fun v _=>n-(intOf v).toNat)
 case atStart=>exact ⟨0,_,[],[],rfl,by omega,rfl,HSTART,HB2,by rw [hs2];exact Nat.le_refl _⟩
 case round =>
  obtain ⟨i,v',ys',g',rfl,hi,HTA,HTS,HBEL,hwr⟩:=hrel
  by_cases hlt:i<n
  ·obtain ⟨b,off,ha,hb3,hcs⟩:∃ b off,a=some ⟨b,off,none⟩/\b<w.heap.size/\∀ (j:Nat) (u:Value),(ys.flatMap LV.cells)[j]?=some u->w.cell? ⟨b,off+j,none⟩=some u:=by
    rcases HH.out.1 with ⟨h0,_⟩ | ⟨b,off,cap,h1,_,_,h3,h4⟩
    ·have:=HN.out
     omega
    ·injection h1 with h1
     exact ⟨b,off,h1,h3,h4⟩
   subst ha
   obtain ⟨Y,hY⟩:∃ y,ys[i]?=some y:=⟨_,List.getElem?_eq_getElem (by rw [HH.out.2.1,<- HN.out];exact hlt)⟩
   obtain ⟨r,hr⟩:∃ y,l[i]?=some y:=⟨_,List.getElem?_eq_getElem (by rw [<- HN.out];exact hlt)⟩
   have hLE:=(HH.out.2.2 i Y r hY hr).under HBEL.out
   have hmem:=List.mem_of_getElem? hr
   have hrr:zax 50 r.expr=true:=by
    have:=List.all_eq_true.1 HW.out r hmem
    unfold rlB at this
    rw [Bool.and_eq_true] at this
    exact this.2
   have hrt:=zwm hmem
   obtain ⟨hsm,hgl⟩:=ze1 HTA.out ht
   have CX:∀ (j:Nat) (u:Value),j<8->Y.cells[j]?=some u->wr.cell? ⟨b,off+(i*8+j),none⟩=some u:=fun j u hj hu =>
    (HBEL.out.cell (p:=⟨b,off+(i*8+j),none⟩) hb3).trans (hcs _ u ((zf3 ys i j Y hY hj).trans hu))
   obtain ⟨_,_,_,_,_,_,_,r1,r2,_⟩:=hLE.2.2.2.2.forms
   obtain ⟨s1,d1,e1,_⟩:=r1.slice
   obtain ⟨s2,d2,e2,_⟩:=r2.slice
   have hstep:=zir HTA.out hr
   have hba:Below wr.heap.size wr (wr.alloc (lobj Y)):=(Below.refl _ _).alloc (Nat.le_refl _) _
   have HTAKE:=hh9 (zzj (HTS.out.under hba) (by omega) (by omega) (by omega) (by have:=hba.size;omega) (hLE.under hba) (zib hrr) (by omega) (fun u hu=>by have:=(hsm u hu).1;omega) (by omega))
   have HBA:=hh9 (za0 HBEL.out hba)
   obtain ⟨nm,mo,⟨k,tx,nv,lo,hi2,kv⟩⟩:=Y
   simp only [] at e1 e2
   subst e1 e2
   have f0:=CX 0 _ (by omega) rfl
   have f1:=CX 1 _ (by omega) rfl
   have f2:=CX 2 _ (by omega) rfl
   have f3:=CX 3 _ (by omega) rfl
   have f4:=CX 4 _ (by omega) rfl
   have f5:=CX 5 _ (by omega) rfl
   have f6:=CX 6 _ (by omega) rfl
   have f7:=CX 7 _ (by omega) rfl
   rw [<- Nat.add_assoc] at f0 f1 f2 f3 f4 f5 f6 f7
   rw [Nat.add_zero] at f0
   simp only [] at f0 f1 f2 f3 f4 f5 f6 f7
   have q1:decide ((i:Int)<(n:Int))=true:=decide_eq_true (by omega)
   have HSTEP:=hh9 hstep
   unfold lobj LV.arr LV.val LV.arr at HTAKE
   unfold lobj LV.arr at HBA
   simp only [] at HTAKE HBA
   clear CX hcs hLE hba r1 r2 hY hr hstep hmem hsm
   cases hq:zcv g' r with
   | none =>
    have HQ:=hh9 hq
    clear hq
    go_wp2_with (go_at_call 43;refine HTAKE.out.mono ?_;rintro e w4 ⟨h1,h2,h3⟩;obtain rfl:=h1 HQ.out;have HB4:=hh9 (HBA.out.trans (h3 w.heap.size (by omega) (by omega) (by omega)));clear h1 h2 h3)
    refine bodyPost_ret (results_tmp2 rfl _ _ _) rfl ?_
    exact ⟨_,[],[],41,rfl,.inr ⟨HW.out,.inl ⟨zfl (i:=i+1) (HSTEP.out.trans HQ.out),rfl,rfl⟩⟩,zd0.nil _,HB4.out⟩
   | some g2 =>
    have HQ:=hh9 hq
    clear hq
    go_wp2_with (go_at_call 43;refine HTAKE.out.mono ?_;rintro e w4 ⟨h1,h2,h3⟩;obtain ⟨rfl,v4,ys4,hTS4⟩:=h2 g2 HQ.out;have HTS4:=hh9 hTS4;have HB4:=hh9 (HBA.out.trans (h3 w.heap.size (by omega) (by omega) (by omega)));have hw4:=(h3 (w1.heap.size) (by omega) (by omega) (by omega)).size;clear h1 h2 h3 hTS4)
    go_roundw
    case rel=>exact ⟨i+1,v4,ys4,g2,by go_num,by omega,HSTEP.out.trans HQ.out,HTS4,HB4,by simp at hw4;omega⟩
    case measure=>simp [intOf];omega
  ·obtain rfl:i=n:=by omega
   have hall:zbf [] l=some g':=by
    have h:=HTA.out
    rwa [List.take_of_length_le (by rw [<- HN.out];exact Nat.le_refl _)] at h
   obtain ⟨hsm,hgl⟩:=ze1 HTA.out ht
   obtain ⟨nn,R,hC⟩:=Compl.is (g'.length+zcd g') 0 g' (by omega)
   have HCO:=hh9 (zor HTS.out.gat (HTS.out.exprs (fun u hu=>(hsm u hu).2)) (by omega) (by omega) (by omega) hwr hC (by have:=zic g';omega))
   have HALL:=hh9 hall
   have HC:=hh9 hC
   have q1:decide ((i:Int)<(i:Int))=false:=decide_eq_false (by omega)
   clear hall hsm hC
   cases R with
   | none =>
    go_wp2_with (go_at_call 44;refine HCO.out.mono ?_;rintro e w4 ⟨h1,h2,h3⟩;obtain rfl:=h1 rfl;have HB4:=hh9 (HBEL.out.trans (h3 w.heap.size (by omega) (by omega) (by omega) (by omega)));clear h1 h2 h3)
    refine bodyPost_ret (results_tmp2 rfl _ _ _) rfl ?_
    exact ⟨_,[],[],40,rfl,.inr ⟨HW.out,.inr ⟨g',nn,none,HALL.out,HC.out,.inl ⟨rfl,rfl,rfl⟩⟩⟩,zd0.nil _,HB4.out⟩
   | some g2 =>
    go_wp2_with (go_at_call 44;refine HCO.out.mono ?_;rintro e w4 ⟨h1,h2,h3⟩;obtain ⟨rfl,v4,ys4,hG4,hE4⟩:=h2 g2 rfl;have r0:=hG4.cells.1;have HG4:=hh9 hG4;have HE4:=hh9 hE4;have HB4:=hh9 (HBEL.out.trans (h3 w.heap.size (by omega) (by omega) (by omega) (by omega)));clear h1 h2 h3 hG4 hE4)
    refine bodyPost_ret (results_tmp2 rfl _ _ _) rfl ?_
    exact ⟨_,ys4,g2,0,rfl,.inr ⟨HW.out,.inr ⟨g',nn,some g2,HALL.out,HC.out,.inr ⟨rfl,rfl⟩⟩⟩,HG4.out.x HE4.out,HB4.out⟩
theorem znb {w:World} {v:Value} {ys:List LV} {l:List Rule} (h:LinesE w v ys l) (hT:Tabs w) (ht:twl l<=9000):Calls Tryz.prog 25 #[v] w (zkj l w):=by
 cases hw:l.all rlB with
 | true=>exact ztm h hT hw ht
 | false=>exact ztl h hT hw
end Go.Proofs.YtdgcmiecgnmdjaaGreatDoor
namespace Go.Proofs.YtdgcmiecgnmdjaaGreatDoor
open Go.RowKit
def AtY (w:World) (R:Nat) (s:ByteArray) (p:Nat) (c:Int):Prop:=w.heap[R]?=some (.cells #[.string s,.int .i64 p,.int .i64 c] 82 (0,0))
theorem AtY.lt {w:World} {R:Nat} {s:ByteArray} {p:Nat} {c:Int} (h:AtY w R s p c):R<w.heap.size:=(Array.getElem?_eq_some_iff.1 h).1
theorem AtY.cells {w:World} {R:Nat} {s:ByteArray} {p:Nat} {c:Int} (h:AtY w R s p c):w.cell? ⟨R,0,none⟩=some (.string s)/\w.cell? ⟨R,1,none⟩=some (.int .i64 p)/\w.cell? ⟨R,2,none⟩=some (.int .i64 c) /\
  w.frozen? ⟨R,0,none⟩=false/\w.frozen? ⟨R,1,none⟩=false/\w.frozen? ⟨R,2,none⟩=false:=by
 unfold AtY at h
 simp [World.cell?,World.frozen?,h]
theorem AtY.drew {w:World} {R:Nat} {s:ByteArray} {p:Nat} {c:Int} (h:AtY w R s p c) (n:Nat):AtY (w.drewN n) R s p c:=h
theorem AtY.kept {w w':World} {R:Nat} {row:Option Nat} {s:ByteArray} {p:Nat} {c:Int} (h:AtY w R s p c) (hg:w.grownBy w' row) (hr:some R≠row):AtY w' R s p c:=(hg.block R h.lt hr).trans h
theorem AtY.below {w w':World} {R:Nat} {s:ByteArray} {p:Nat} {c:Int} (h:AtY w R s p c) (hb:Below w.heap.size w w'):AtY w' R s p c:=(hb.block R h.lt).trans h
theorem AtY.alloc {w:World} {R:Nat} {s:ByteArray} {p:Nat} {c:Int} (h:AtY w R s p c) (o:Obj):AtY (w.alloc o) R s p c:=h.kept (World.grownBy_alloc w o none) (by simp)
theorem AtY.put {w:World} {R:Nat} {s:ByteArray} {p:Nat} {c:Int} (h:AtY w R s p c) {x:Int} {q:Nat} (hx:x=q):AtY (w.setCell ⟨R,1,none⟩ (.int .i64 x)) R s q c:=by
 subst hx
 unfold AtY at h ⊢
 unfold World.setCell
 simp only [Array.getElem?_modify,h]
 simp
theorem AtY.step {w:World} {R:Nat} {s:ByteArray} {p:Nat} {c:Int} (h:AtY w R s p c):AtY (w.setCell ⟨R,1,none⟩ (.int .i64 ((p:Int)+1))) R s (p+1) c:=h.put (by omega)
theorem AtY.sete {w:World} {R:Nat} {s:ByteArray} {p:Nat} {c:Int} (h:AtY w R s p c) (x:Int):AtY (w.setCell ⟨R,2,none⟩ (.int .i64 x)) R s p x:=by
 unfold AtY at h ⊢
 unfold World.setCell
 simp only [Array.getElem?_modify,h]
 simp
theorem AtY.pos {w:World} {R:Nat} {s:ByteArray} {p:Nat} {c:Int} (h:AtY w R s p c):zf6 R w=p:=by
 unfold zf6
 rw [h.cells.2.1]
 simp
def GivesY (R:Nat) (s:ByteArray) (v:Value) (q:Nat) (c:Int) (w:World) (e:Ending) (w':World):Prop:=e=.returned v/\AtY w' R s q c/\w.grownBy w' (some R)
theorem zc7 (c:Int) (w:World):Calls Tryz.prog 45 #[.int .i64 c] w (zd3 (isBl c) w):=by
 by_cases h1:c=32
 ·subst h1
  go_enter Tryz.func45,Tryz.ntmps45
  go_wp2
  go_ret
  exact ⟨rfl,rfl⟩
 ·have e1:(c==32)=false:=by simpa using h1
  by_cases h2:c=9
  ·subst h2
   go_enter Tryz.func45,Tryz.ntmps45
   go_wp2
   go_ret
   exact ⟨rfl,rfl⟩
  ·have e2:(c==9)=false:=by simpa using h2
   have hb:isBl c=false:=by unfold isBl;rw [e1,e2];rfl
   rw [hb]
   clear hb
   go_enter Tryz.func45,Tryz.ntmps45
   go_wp2
   go_ret
   exact ⟨rfl,rfl⟩
theorem zby (c:Int) (w:World):Calls Tryz.prog 86 #[.int .i64 c] w (zd3 (isAl c) w):=by
 have hu:isAl c=((decide (97<=c)&&decide (c<=122))||(decide (65<=c)&&decide (c<=90))):=rfl
 by_cases h1:97<=c<;>by_cases h2:c<=122<;>by_cases h3:65<=c<;>by_cases h4:c<=90
 all_goals try (exfalso;omega)
 all_goals
  simp only [h1,h2,h3,h4,decide_true,decide_false,Bool.and_true,Bool.and_false,Bool.or_true,Bool.or_false,Bool.and_self,Bool.or_self] at hu
  rw [hu]
  clear hu
  go_enter Tryz.func86,Tryz.ntmps86
  go_wp2
  go_ret
  exact ⟨rfl,rfl⟩
theorem zc8 (c:Int) (w:World):Calls Tryz.prog 87 #[.int .i64 c] w (zd3 (isDc c) w):=by
 have hu:isDc c=(decide (48<=c)&&decide (c<=57)):=rfl
 by_cases h1:48<=c<;>by_cases h2:c<=57
 all_goals try (exfalso;omega)
 all_goals
  simp only [h1,h2,decide_true,decide_false,Bool.and_true,Bool.and_false,Bool.and_self] at hu
  rw [hu]
  clear hu
  go_enter Tryz.func87,Tryz.ntmps87
  go_wp2
  go_ret
  exact ⟨rfl,rfl⟩
theorem zgj (c:Int) (h0:0<=c) (h1:c<=255) (w:World):Calls Tryz.prog 88 #[.int .u8 c] w fun e w'=>e=.returned (.int .u8 (low c))/\w=w':=by
 by_cases a:65<=c<;>by_cases b:c<=90
 ·rw [show low c=c+32 by unfold low;rw [if_pos ⟨a,b⟩]]
  go_enter Tryz.func88,Tryz.ntmps88
  go_wp2
  go_ret
  exact ⟨rfl,rfl⟩
 all_goals
  rw [show low c=c by unfold low;rw [if_neg (by omega)]]
  go_enter Tryz.func88,Tryz.ntmps88
  go_wp2
  go_ret
  exact ⟨rfl,rfl⟩
theorem qbr {R p:Nat} {c:Int} {s:ByteArray} {w:World} (h:AtY w R s p c) (hs:s.size<=50000) (hp:p<=60000) (k:Nat) (hk:k<=60000) (x:Int) (hx:x=k) :
  Calls Tryz.prog 46 #[.pointer (some ⟨R,0,none⟩),.int .i64 x] w (zh1 (rd s (p+k)) w):=by
 subst hx
 obtain ⟨c0,c1,c2,z0,z1,z2⟩:=h.cells
 clear h
 obtain ⟨m,hm⟩:∃ m,p+k=m:=⟨_,rfl⟩
 have hmi:(p:Int)+(k:Int)=(m:Int):=by omega
 rw [hm]
 by_cases hlt:m<s.size
 ·rw [zes hlt]
  have q1:decide (s.size<=m)=false:=by simp;omega
  clear hm
  go_enter Tryz.func46,Tryz.ntmps46
  go_wp2_with fail
  go_quiet (fail)
  go_wp2_with fail
  go_quiet (fail)
  go_wp2_with fail
  go_ret
  exact ⟨zbw (zno _),za8 (za8 (Below.refl _ _) _) _⟩
 ·rw [zbz hlt]
  have q1:decide (s.size<=m)=true:=by simp;omega
  clear hm
  go_enter Tryz.func46,Tryz.ntmps46
  go_wp2_with fail
  go_quiet (fail)
  go_wp2_with fail
  go_ret
  exact ⟨rfl,za8 (Below.refl _ _) _⟩
theorem zba {R p:Nat} {s:ByteArray} {w:World} (h:AtY w R s p 0) (c:Int) :
  Calls Tryz.prog 49 #[.pointer (some ⟨R,0,none⟩),.int .i64 c] w (GivesY R s (.tuple #[]) p c w):=by
 obtain ⟨c0,c1,c2,z0,z1,z2⟩:=h.cells
 have H:=hh9 h
 clear h
 go_enter Tryz.func49,Tryz.ntmps49
 go_wp2
 go_end0
 exact ⟨rfl,H.out.sete c,zah (zam _ _) _ _⟩
theorem zd8 {R p:Nat} {e:Int} {s:ByteArray} {w:World} (h:AtY w R s p e) (he:e≠0) (c:Int) :
  Calls Tryz.prog 49 #[.pointer (some ⟨R,0,none⟩),.int .i64 c] w (GivesY R s (.tuple #[]) p e w):=by
 obtain ⟨c0,c1,c2,z0,z1,z2⟩:=h.cells
 have H:=hh9 h
 have q1:(e==0)=false:=by simpa using he
 clear h
 go_enter Tryz.func49,Tryz.ntmps49
 go_wp2
 go_end0
 exact ⟨rfl,H.out,zam _ _⟩
theorem zb7 {R p:Nat} {c:Int} {s:ByteArray} {w:World} (h:AtY w R s p c) (hs:s.size<=50000) (hp:p<=60000) (k:Nat) (hk:k<=60000) (x:Int) (hx:x=k) (X:Int) (hX:rd s (p+k)=X) :
  Calls Tryz.prog 46 #[.pointer (some ⟨R,0,none⟩),.int .i64 x] w (zh1 X w):=by
 rw [<- hX]
 exact qbr h hs hp k hk x hx
theorem yat0 {R p:Nat} {c:Int} {s:ByteArray} {w:World} (h:AtY w R s p c) (hs:s.size<=50000) (hp:p<=60000) (X:Int) (hX:rd s p=X) :
  Calls Tryz.prog 46 #[.pointer (some ⟨R,0,none⟩),.int .i64 0] w (zh1 X w):=zb7 h hs hp 0 (by omega) 0 rfl X hX
noncomputable def zd1 (f:Nat->Int) (p:Nat):Int:=match zas f p with | some e=>(e:Int)-p | none=>-1
theorem zca {f:Nat->Int} {p e:Nat} (h:zas f p=some e):zd1 f p=(e:Int)-p:=by unfold zd1;rw [h]
theorem zd9 {f:Nat->Int} {p:Nat} (h:zas f p=none):zd1 f p=-1:=by unfold zd1;rw [h]
theorem qbs {f:Nat->Int} {p k:Nat} (h:zbm f p=p+k) (h1:f (p+k)<0):(k:Int)=zd1 f p:=by unfold zd1 zas;rw [h,if_pos h1];simp;omega
theorem qbt {f:Nat->Int} {p k:Nat} (h:zbm f p=p+k) (h1:f (p+k)=10):(k:Int)+1=zd1 f p:=by unfold zd1 zas;rw [h,if_neg (by omega),if_pos h1];simp;omega
theorem qbu {f:Nat->Int} {p k:Nat} (h:zbm f p=p+k) (h1:f (p+k)=13) (h2:f (p+(k+1))=10):(k:Int)+2=zd1 f p:=by unfold zd1 zas;rw [h,if_neg (by omega),if_neg (by omega),if_pos ⟨h1,h2⟩];simp;omega
theorem ztn {f:Nat->Int} {p k:Nat} (h:zbm f p=p+k) (h0:¬ f (p+k)<0) (h1:f (p+k)≠10) (h2:¬ (f (p+k)=13/\f (p+(k+1))=10)):(-1:Int)=zd1 f p:=by
 unfold zd1 zas;rw [h,if_neg h0,if_neg h1,if_neg (by exact h2)]
def InEnd (s:ByteArray) (p:Nat) (w wr:World) (k:Nat):Prop:=Below w.heap.size w wr/\1<=k/\(p+k<=s.size)/\∀ i,p+1<=i->i<p+k->isCm (rd s i)=true
theorem zd7 {R p:Nat} {c:Int} {s:ByteArray} {w:World} (h:AtY w R s p c) (hs:s.size<=50000) (hp:p<=60000) :
  Calls Tryz.prog 47 #[.pointer (some ⟨R,0,none⟩)] w (zh1 (zd1 (rd s) p) w):=by
 have H:=hh9 h
 clear h
 by_cases h59:rd s p=59
 ·have H59:=hh9 h59
  have hlt:p<s.size:=by
   by_cases k:p<s.size
   ·exact k
   ·rw [zbz k] at h59;omega
  clear h59
  go_enter Tryz.func47,Tryz.ntmps47
  go_wp2_with fail
  refine (yat0 H.out hs hp _ H59.out).mono ?_
  rintro e w1 ⟨rfl,hb⟩
  have HB1:=hh9 hb
  clear hb
  go_wp2_with fail
  go_loopw [3] (fun v wr=>∃ k:Nat,v=.int .i64 k/\InEnd s p w wr k) (fun v _=>s.size-(p+(intOf v).toNat))
  case atStart=>exact ⟨1,rfl,HB1.out,Nat.le_refl _,by omega,fun i h1 h2=>absurd h1 (by omega)⟩
  case round =>
   obtain ⟨k,rfl,hb,hk1,hk2,hall⟩:=hrel
   have HB:=hh9 hb
   have HA:=hh9 (H.out.below hb)
   have HL:=hh9 hall
   clear hb hall
   obtain ⟨Z,hZ⟩:∃ x,rd s (p+k)=x:=⟨_,rfl⟩
   have HZ:=hh9 hZ
   cases hcm:isCm Z
   ·have HC:Hid (zbm (rd s) p=p+k):=by
     unfold zbm
     rw [if_pos H59.out]
     exact IsRun.eq ⟨by omega,HL.out,by rw [hZ];exact hcm⟩
    obtain ⟨g1,g2⟩:isBl Z=false/\¬ (32<Z/\Z<127):=by
     unfold isCm at hcm
     simp at hcm
     exact ⟨hcm.1,by omega⟩
    have G1:=hh9 g1
    clear hZ hcm g1
    by_cases a:32<Z
    ·have b:¬ Z<127:=fun b=>g2 ⟨a,b⟩
     clear g2
     go_wp2_with fail
     refine (zb7 HA.out hs hp k (by omega) _ (by omega) _ HZ.out).mono ?_
     rintro e w2 ⟨rfl,hb⟩
     have HB2:=hh9 (za0 HB.out hb)
     have HA2:=hh9 (HA.out.below hb)
     clear hb HB HA
     go_wp2_with fail
     refine (zc7 _ _).mono ?_
     rw [G1.out]
     rintro e w' ⟨rfl,rfl⟩
     go_wp2_with fail
     refine (zb7 HA2.out hs hp k (by omega) _ (by omega) _ HZ.out).mono ?_
     rintro e w2b ⟨rfl,hb⟩
     have HB2b:=hh9 (za0 HB2.out hb)
     have HA2b:=hh9 (HA2.out.below hb)
     clear hb HB2 HA2
     go_wp2_with fail
     refine (zb7 HA2b.out hs hp k (by omega) _ (by omega) _ HZ.out).mono ?_
     rintro e w2c ⟨rfl,hb⟩
     have HB:=hh9 (za0 HB2b.out hb)
     have HA:=hh9 (HA2b.out.below hb)
     clear hb HB2b HA2b
     obtain ⟨X,hX⟩:∃ x,rd s (p+k)=x:=⟨_,rfl⟩
     have HX:=hh9 hX
     clear hX
     by_cases h10:X=10
     ·subst h10
      go_wp2_with fail
      refine (zb7 HA.out hs hp k (by omega) _ (by omega) _ HX.out).mono ?_
      rintro e w3 ⟨rfl,hb⟩
      have HB3:=hh9 (za0 HB.out hb)
      clear hb
      go_wp2
      go_ret
      exact ⟨zbw (by have hlen:=qbt HC.out HX.out;omega),HB3.out⟩
     ·have q10:(X==10)=false:=by simpa using h10
      go_wp2_with fail
      refine (zb7 HA.out hs hp k (by omega) _ (by omega) _ HX.out).mono ?_
      rintro e w3 ⟨rfl,hb⟩
      have HB3:=hh9 (za0 HB.out hb)
      have HA3:=hh9 (HA.out.below hb)
      clear hb
      by_cases h13:X=13
      ·subst h13
       clear q10
       by_cases h11:rd s (p+(k+1))=10
       ·have H11:=hh9 h11
        clear h11
        go_wp2_with fail
        refine (zb7 HA3.out hs hp k (by omega) _ (by omega) _ HX.out).mono ?_
        rintro e w4 ⟨rfl,hb⟩
        have HB4:=hh9 (za0 HB3.out hb)
        have HA4:=hh9 (HA3.out.below hb)
        clear hb
        go_wp2_with fail
        refine (zb7 HA4.out hs hp (k+1) (by omega) _ (by omega) _ H11.out).mono ?_
        rintro e w5 ⟨rfl,hb⟩
        have HB5:=hh9 (za0 HB4.out hb)
        clear hb
        go_wp2
        go_ret
        exact ⟨zbw (by have hlen:=qbu HC.out HX.out H11.out;omega),HB5.out⟩
       ·obtain ⟨Y,hY⟩:∃ y,rd s (p+(k+1))=y:=⟨_,rfl⟩
        have q11:(Y==10)=false:=by rw [<- hY];simpa using h11
        have H11:=hh9 h11
        have HY:=hh9 hY
        clear h11 hY
        go_wp2_with fail
        refine (zb7 HA3.out hs hp k (by omega) _ (by omega) _ HX.out).mono ?_
        rintro e w4 ⟨rfl,hb⟩
        have HB4:=hh9 (za0 HB3.out hb)
        have HA4:=hh9 (HA3.out.below hb)
        clear hb
        go_wp2_with fail
        refine (zb7 HA4.out hs hp (k+1) (by omega) _ (by omega) _ HY.out).mono ?_
        rintro e w5 ⟨rfl,hb⟩
        have HB5:=hh9 (za0 HB4.out hb)
        have HA5:=hh9 (HA4.out.below hb)
        clear hb
        go_wp2_with fail
        refine (zb7 HA5.out hs hp k (by omega) _ (by omega) _ HX.out).mono ?_
        rintro e w6 ⟨rfl,hb⟩
        have HB6:=hh9 (za0 HB5.out hb)
        clear hb
        go_wp2
        go_ret
        exact ⟨zbw (by have hlen:=ztn HC.out (by rw [HX.out];omega) (by rw [HX.out];omega) (fun g=>H11.out g.2);omega),HB6.out⟩
      ·have q13:(X==13)=false:=by simpa using h13
       have H13:=hh9 h13
       have H10:=hh9 h10
       clear h13 h10
       go_wp2_with fail
       refine (zb7 HA3.out hs hp k (by omega) _ (by omega) _ HX.out).mono ?_
       rintro e w4 ⟨rfl,hb⟩
       have HB4:=hh9 (za0 HB3.out hb)
       have HA4:=hh9 (HA3.out.below hb)
       clear hb
       by_cases hn:X<0
       ·go_wp2_with fail
        refine (zb7 HA4.out hs hp k (by omega) _ (by omega) _ HX.out).mono ?_
        rintro e w5 ⟨rfl,hb⟩
        have HB5:=hh9 (za0 HB4.out hb)
        clear hb
        go_wp2
        go_ret
        exact ⟨zbw (by have hlen:=qbs HC.out (by rw [HX.out];omega);omega),HB5.out⟩
       ·go_wp2_with fail
        refine (zb7 HA4.out hs hp k (by omega) _ (by omega) _ HX.out).mono ?_
        rintro e w5 ⟨rfl,hb⟩
        have HB5:=hh9 (za0 HB4.out hb)
        clear hb
        go_wp2
        go_ret
        exact ⟨zbw (by have hlen:=ztn HC.out (by rw [HX.out];omega) (by rw [HX.out];exact H10.out) (fun g=>H13.out (by rw [<- HX.out];exact g.1));omega),HB5.out⟩
    ·clear g2
     go_wp2_with fail
     refine (zb7 HA.out hs hp k (by omega) _ (by omega) _ HZ.out).mono ?_
     rintro e w2 ⟨rfl,hb⟩
     have HB2:=hh9 (za0 HB.out hb)
     have HA2:=hh9 (HA.out.below hb)
     clear hb HB HA
     go_wp2_with fail
     refine (zc7 _ _).mono ?_
     rw [G1.out]
     rintro e w' ⟨rfl,rfl⟩
     go_wp2_with fail
     refine (zb7 HA2.out hs hp k (by omega) _ (by omega) _ HZ.out).mono ?_
     rintro e w2b ⟨rfl,hb⟩
     have HB:=hh9 (za0 HB2.out hb)
     have HA:=hh9 (HA2.out.below hb)
     clear hb HB2 HA2
     obtain ⟨X,hX⟩:∃ x,rd s (p+k)=x:=⟨_,rfl⟩
     have HX:=hh9 hX
     clear hX
     by_cases h10:X=10
     ·subst h10
      go_wp2_with fail
      refine (zb7 HA.out hs hp k (by omega) _ (by omega) _ HX.out).mono ?_
      rintro e w3 ⟨rfl,hb⟩
      have HB3:=hh9 (za0 HB.out hb)
      clear hb
      go_wp2
      go_ret
      exact ⟨zbw (by have hlen:=qbt HC.out HX.out;omega),HB3.out⟩
     ·have q10:(X==10)=false:=by simpa using h10
      go_wp2_with fail
      refine (zb7 HA.out hs hp k (by omega) _ (by omega) _ HX.out).mono ?_
      rintro e w3 ⟨rfl,hb⟩
      have HB3:=hh9 (za0 HB.out hb)
      have HA3:=hh9 (HA.out.below hb)
      clear hb
      by_cases h13:X=13
      ·subst h13
       clear q10
       by_cases h11:rd s (p+(k+1))=10
       ·have H11:=hh9 h11
        clear h11
        go_wp2_with fail
        refine (zb7 HA3.out hs hp k (by omega) _ (by omega) _ HX.out).mono ?_
        rintro e w4 ⟨rfl,hb⟩
        have HB4:=hh9 (za0 HB3.out hb)
        have HA4:=hh9 (HA3.out.below hb)
        clear hb
        go_wp2_with fail
        refine (zb7 HA4.out hs hp (k+1) (by omega) _ (by omega) _ H11.out).mono ?_
        rintro e w5 ⟨rfl,hb⟩
        have HB5:=hh9 (za0 HB4.out hb)
        clear hb
        go_wp2
        go_ret
        exact ⟨zbw (by have hlen:=qbu HC.out HX.out H11.out;omega),HB5.out⟩
       ·obtain ⟨Y,hY⟩:∃ y,rd s (p+(k+1))=y:=⟨_,rfl⟩
        have q11:(Y==10)=false:=by rw [<- hY];simpa using h11
        have H11:=hh9 h11
        have HY:=hh9 hY
        clear h11 hY
        go_wp2_with fail
        refine (zb7 HA3.out hs hp k (by omega) _ (by omega) _ HX.out).mono ?_
        rintro e w4 ⟨rfl,hb⟩
        have HB4:=hh9 (za0 HB3.out hb)
        have HA4:=hh9 (HA3.out.below hb)
        clear hb
        go_wp2_with fail
        refine (zb7 HA4.out hs hp (k+1) (by omega) _ (by omega) _ HY.out).mono ?_
        rintro e w5 ⟨rfl,hb⟩
        have HB5:=hh9 (za0 HB4.out hb)
        have HA5:=hh9 (HA4.out.below hb)
        clear hb
        go_wp2_with fail
        refine (zb7 HA5.out hs hp k (by omega) _ (by omega) _ HX.out).mono ?_
        rintro e w6 ⟨rfl,hb⟩
        have HB6:=hh9 (za0 HB5.out hb)
        clear hb
        go_wp2
        go_ret
        exact ⟨zbw (by have hlen:=ztn HC.out (by rw [HX.out];omega) (by rw [HX.out];omega) (fun g=>H11.out g.2);omega),HB6.out⟩
      ·have q13:(X==13)=false:=by simpa using h13
       have H13:=hh9 h13
       have H10:=hh9 h10
       clear h13 h10
       go_wp2_with fail
       refine (zb7 HA3.out hs hp k (by omega) _ (by omega) _ HX.out).mono ?_
       rintro e w4 ⟨rfl,hb⟩
       have HB4:=hh9 (za0 HB3.out hb)
       have HA4:=hh9 (HA3.out.below hb)
       clear hb
       by_cases hn:X<0
       ·go_wp2_with fail
        refine (zb7 HA4.out hs hp k (by omega) _ (by omega) _ HX.out).mono ?_
        rintro e w5 ⟨rfl,hb⟩
        have HB5:=hh9 (za0 HB4.out hb)
        clear hb
        go_wp2
        go_ret
        exact ⟨zbw (by have hlen:=qbs HC.out (by rw [HX.out];omega);omega),HB5.out⟩
       ·go_wp2_with fail
        refine (zb7 HA4.out hs hp k (by omega) _ (by omega) _ HX.out).mono ?_
        rintro e w5 ⟨rfl,hb⟩
        have HB5:=hh9 (za0 HB4.out hb)
        clear hb
        go_wp2
        go_ret
        exact ⟨zbw (by have hlen:=ztn HC.out (by rw [HX.out];omega) (by rw [HX.out];exact H10.out) (fun g=>H13.out (by rw [<- HX.out];exact g.1));omega),HB5.out⟩
   ·have hlt2:p+k<s.size:=by
     by_cases g:p+k<s.size
     ·exact g
     ·rw [zbz g] at hZ;subst hZ;simp [isCm,isBl] at hcm
    have HN:Hid (∀ i,p+1<=i->i<p+(k+1)->isCm (rd s i)=true):=by
     intro i h1 h2
     by_cases g:i=p+k
     ·rw [g,hZ];exact hcm
     ·exact HL.out i h1 (by omega)
    clear hZ
    cases g1:isBl Z
    ·obtain ⟨a,b⟩:32<Z/\Z<127:=by
      unfold isCm at hcm
      rw [g1] at hcm
      simp at hcm
      omega
     have G1:=hh9 g1
     clear g1 hcm
     go_wp2_with fail
     refine (zb7 HA.out hs hp k (by omega) _ (by omega) _ HZ.out).mono ?_
     rintro e w2 ⟨rfl,hb⟩
     have HB2:=hh9 (za0 HB.out hb)
     have HA2:=hh9 (HA.out.below hb)
     clear hb
     go_wp2_with fail
     refine (zc7 _ _).mono ?_
     rw [G1.out]
     rintro e w' ⟨rfl,rfl⟩
     go_wp2_with fail
     refine (zb7 HA2.out hs hp k (by omega) _ (by omega) _ HZ.out).mono ?_
     rintro e w3 ⟨rfl,hb⟩
     have HB3:=hh9 (za0 HB2.out hb)
     have HA3:=hh9 (HA2.out.below hb)
     clear hb
     go_wp2_with fail
     refine (zb7 HA3.out hs hp k (by omega) _ (by omega) _ HZ.out).mono ?_
     rintro e w4 ⟨rfl,hb⟩
     have HB4:=hh9 (za0 HB3.out hb)
     clear hb
     go_wp2_with fail
     go_roundw
     case rel=>exact ⟨k+1,zvo (by omega),HB4.out,by omega,by omega,HN.out⟩
     case measure=>simp [intOf];omega
    ·have G1:=hh9 g1
     clear g1 hcm
     go_wp2_with fail
     refine (zb7 HA.out hs hp k (by omega) _ (by omega) _ HZ.out).mono ?_
     rintro e w2 ⟨rfl,hb⟩
     have HB2:=hh9 (za0 HB.out hb)
     clear hb
     go_wp2_with fail
     refine (zc7 _ _).mono ?_
     rw [G1.out]
     rintro e w' ⟨rfl,rfl⟩
     go_wp2_with fail
     go_roundw
     case rel=>exact ⟨k+1,zvo (by omega),HB2.out,by omega,by omega,HN.out⟩
     case measure=>simp [intOf];omega
 ·obtain ⟨X0,hX0⟩:∃ x,rd s p=x:=⟨_,rfl⟩
  have q59:(X0==59)=false:=by rw [<- hX0];simpa using h59
  have HX0:=hh9 hX0
  have HC:Hid (zbm (rd s) p=p+0):=by unfold zbm;rw [if_neg h59];rfl
  clear hX0 h59
  go_enter Tryz.func47,Tryz.ntmps47
  go_wp2_with fail
  refine (yat0 H.out hs hp _ HX0.out).mono ?_
  rintro e w1 ⟨rfl,hb⟩
  have HB:=hh9 hb
  have HA:=hh9 (H.out.below hb)
  clear hb
  obtain ⟨X,hX⟩:∃ x,rd s (p+0)=x:=⟨_,rfl⟩
  have HX:=hh9 hX
  clear hX
  by_cases h10:X=10
  ·subst h10
   go_wp2_with fail
   refine (zb7 HA.out hs hp 0 (by omega) _ (by omega) _ HX.out).mono ?_
   rintro e w3 ⟨rfl,hb⟩
   have HB3:=hh9 (za0 HB.out hb)
   clear hb
   go_wp2
   go_ret
   exact ⟨zbw (by have hlen:=qbt HC.out HX.out;omega),HB3.out⟩
  ·have q10:(X==10)=false:=by simpa using h10
   go_wp2_with fail
   refine (zb7 HA.out hs hp 0 (by omega) _ (by omega) _ HX.out).mono ?_
   rintro e w3 ⟨rfl,hb⟩
   have HB3:=hh9 (za0 HB.out hb)
   have HA3:=hh9 (HA.out.below hb)
   clear hb
   by_cases h13:X=13
   ·subst h13
    clear q10
    by_cases h11:rd s (p+(0+1))=10
    ·have H11:=hh9 h11
     clear h11
     go_wp2_with fail
     refine (zb7 HA3.out hs hp 0 (by omega) _ (by omega) _ HX.out).mono ?_
     rintro e w4 ⟨rfl,hb⟩
     have HB4:=hh9 (za0 HB3.out hb)
     have HA4:=hh9 (HA3.out.below hb)
     clear hb
     go_wp2_with fail
     refine (zb7 HA4.out hs hp (0+1) (by omega) _ (by omega) _ H11.out).mono ?_
     rintro e w5 ⟨rfl,hb⟩
     have HB5:=hh9 (za0 HB4.out hb)
     clear hb
     go_wp2
     go_ret
     exact ⟨zbw (by have hlen:=qbu HC.out HX.out H11.out;omega),HB5.out⟩
    ·obtain ⟨Y,hY⟩:∃ y,rd s (p+(0+1))=y:=⟨_,rfl⟩
     have q11:(Y==10)=false:=by rw [<- hY];simpa using h11
     have H11:=hh9 h11
     have HY:=hh9 hY
     clear h11 hY
     go_wp2_with fail
     refine (zb7 HA3.out hs hp 0 (by omega) _ (by omega) _ HX.out).mono ?_
     rintro e w4 ⟨rfl,hb⟩
     have HB4:=hh9 (za0 HB3.out hb)
     have HA4:=hh9 (HA3.out.below hb)
     clear hb
     go_wp2_with fail
     refine (zb7 HA4.out hs hp (0+1) (by omega) _ (by omega) _ HY.out).mono ?_
     rintro e w5 ⟨rfl,hb⟩
     have HB5:=hh9 (za0 HB4.out hb)
     have HA5:=hh9 (HA4.out.below hb)
     clear hb
     go_wp2_with fail
     refine (zb7 HA5.out hs hp 0 (by omega) _ (by omega) _ HX.out).mono ?_
     rintro e w6 ⟨rfl,hb⟩
     have HB6:=hh9 (za0 HB5.out hb)
     clear hb
     go_wp2
     go_ret
     exact ⟨zbw (by have hlen:=ztn HC.out (by rw [HX.out];omega) (by rw [HX.out];omega) (fun g=>H11.out g.2);omega),HB6.out⟩
   ·have q13:(X==13)=false:=by simpa using h13
    have H13:=hh9 h13
    have H10:=hh9 h10
    clear h13 h10
    go_wp2_with fail
    refine (zb7 HA3.out hs hp 0 (by omega) _ (by omega) _ HX.out).mono ?_
    rintro e w4 ⟨rfl,hb⟩
    have HB4:=hh9 (za0 HB3.out hb)
    have HA4:=hh9 (HA3.out.below hb)
    clear hb
    by_cases hn:X<0
    ·go_wp2_with fail
     refine (zb7 HA4.out hs hp 0 (by omega) _ (by omega) _ HX.out).mono ?_
     rintro e w5 ⟨rfl,hb⟩
     have HB5:=hh9 (za0 HB4.out hb)
     clear hb
     go_wp2
     go_ret
     exact ⟨zbw (by have hlen:=qbs HC.out (by rw [HX.out];omega);omega),HB5.out⟩
    ·go_wp2_with fail
     refine (zb7 HA4.out hs hp 0 (by omega) _ (by omega) _ HX.out).mono ?_
     rintro e w5 ⟨rfl,hb⟩
     have HB5:=hh9 (za0 HB4.out hb)
     clear hb
     go_wp2
     go_ret
     exact ⟨zbw (by have hlen:=ztn HC.out (by rw [HX.out];omega) (by rw [HX.out];exact H10.out) (fun g=>H13.out (by rw [<- HX.out];exact g.1));omega),HB5.out⟩
end Go.Proofs.YtdgcmiecgnmdjaaGreatDoor
