/- Part 26 of what the laws of the grammar rest on. -/
import Derived.Test.YtekjnfldgjcgeaaGreatDoorA6
import Derived.Test.YtekjnfldgjcgeaaGreatDoorA9
import Derived.Test.YtekjnfldgjcgeaaGreatDoorA24
import Derived.Test.YtekjnfldgjcgeaaGreatDoorA25
set_option linter.all false
set_option maxRecDepth 100000
set_option maxHeartbeats 8000000
namespace Go.Proofs.YtekjnfldgjcgeaaGreatDoor
open Go.RowKit
theorem zqd:∀ l:List (List Int),sepT [] l=l.flatten
 | []=>rfl
 | [x]=>by simp [sepT]
 | x::y::l=>by
  have:=zqd (y::l)
  rw [sepT,this]
  simp
theorem zrv:∀ (l:List (List Int)) (x:List Int),x∈l->x.length<=l.flatten.length
 | [],x,h=>by simp at h
 | y::l,x,h=>by
  rw [List.mem_cons] at h
  rw [List.flatten_cons,List.length_append]
  rcases h with rfl | h
  ·omega
  ·have:=zrv l x h
   omega
theorem zzs (r:Rule):1<=(zb9 r).length:=by unfold zb9;rw [List.length_append];exact Nat.le_add_left 1 _
theorem zm1:∀ (l:List Rule),l.length<=((l.map zb9).flatten).length
 | []=>by simp
 | r::l=>by
  have h1:=zzs r
  have h2:=zm1 l
  simp only [List.map_cons,List.flatten_cons,List.length_append,List.length_cons]
  omega
theorem zwo {w:World} {v:Value} {vs:List LV} {l:List Rule} (h:LinesE w v vs l) (hr:l.all rlB=true) (hT:Tabs w) (hs:((l.map zb9).flatten).length<=1000000000000) :
  Calls Tryz.prog 39 #[v,.string ⟨#[]⟩,.func (Fn.func 40) #[] #[]] w (zcl ((l.map zb9).flatten) w):=by
 obtain ⟨h1,h2,h3⟩:=h
 have HT:=hh9 hT
 have H2:=hh9 h2
 have H3:=hh9 h3
 have HR:=hh9 hr
 have HS:=hh9 hs
 have hn:=Nat.le_trans (zm1 l) hs
 obtain ⟨n,hnn⟩:∃ n,n=l.length:=⟨_,rfl⟩
 rw [<- hnn] at h1 hn
 have HNN:=hh9 hnn
 have hmk:=zhr n (by omega) w
 have HB0:=hh9 ((Below.refl w.heap.size w).alloc (Nat.le_refl _) (.cells (zdf n []) 9))
 have HX0:Hid (TX w.heap.size n [] (w.alloc (.cells (zdf n []) 9))):=heap_alloc_new w _
 obtain ⟨W0,hW0⟩:∃ W0,W0=w.alloc (.cells (zdf n []) 9):=⟨_,rfl⟩
 rw [<- hW0] at hmk HB0 HX0
 clear hW0 hT h2 h3 hr hs hnn
 have HJE:Hid (∀ wr,TX w.heap.size n (l.map zb9) wr->Calls Tryz.prog 64 #[.slice (some ⟨w.heap.size,0,none⟩) n n,.string ⟨#[]⟩] wr (zcl ((l.map zb9).flatten) wr)):=fun wr hX=>by
  have hle:(l.map zb9).length=n:=by rw [List.length_map,<- HNN.out]
  have:=zml (B:=w.heap.size) (xs:=l.map zb9) (W:=wr) (by rw [hle];exact hX) [] (by rw [zqd];exact HS.out) (by rw [hle];omega)
  rw [zqd,hle,zez] at this
  exact this
 rcases h1 with ⟨h0,a,cap,rfl⟩ | ⟨g,off,cap,rfl,g1,g2,g3,g4⟩
 ·have hx0:l=[]:=List.length_eq_zero_iff.1 (by rw [<- HNN.out];exact h0)
  subst h0
  have HJ:=hh9 (HJE.out W0 (by rw [hx0];exact HX0.out))
  rw [show ((0:Nat):Int)=0 from rfl] at hmk
  clear hx0
  go_enter Tryz.func39,Tryz.ntmps39
  go_wp2_with fail
  go_loop [15] (fun v=>v=.int .i64 0) (fun v=>0)
  case atStart=>rfl
  case round =>
   subst hrel
   clear hmk
   go_wp2_with fail
   refine HJ.out.mono ?_
   rintro e w1 ⟨rfl,hb⟩
   have HB1:=hh9 (za0 HB0.out hb)
   clear hb
   go_wp2_with fail
   go_ret
   exact ⟨rfl,HB1.out⟩
 ·have G4:=hh9 g4
  unfold maxLen at g2
  clear g4
  go_enter Tryz.func39,Tryz.ntmps39
  go_wp2_with fail
  go_loopw [15] (fun v wr=>∃ i:Nat,v=.int .i64 i/\i<=n/\Hid (Below w.heap.size w wr)/\Hid (TX w.heap.size n ((l.take i).map zb9) wr)) (fun v _=>n-(intOf v).toNat)
  case atStart=>exact ⟨0,rfl,by omega,HB0,HX0⟩
  case round =>
   obtain ⟨i,rfl,hi,HBEL,HX⟩:=hrel
   clear hmk
   by_cases hlt:i<n
   ·obtain ⟨Y,hY⟩:∃ y,vs[i]?=some y:=⟨_,List.getElem?_eq_getElem (by rw [H2.out,<- HNN.out];exact hlt)⟩
    obtain ⟨t,ht⟩:∃ y,l[i]?=some y:=⟨_,List.getElem?_eq_getElem (by rw [<- HNN.out];exact hlt)⟩
    have CX:∀ (j:Nat) (u:Value),j<8->Y.cells[j]?=some u->wr.cell? ⟨g,off+(i*8+j),none⟩=some u:=fun j u hj hu =>
     (HBEL.out.cell (p:=⟨g,off+(i*8+j),none⟩) g3).trans (G4.out _ u ((zdy vs i j Y hY hj).trans hu))
    obtain ⟨aa,am,ac,ca,cm,cc,en,ek⟩:=(H3.out i Y t hY ht).2.2.2.2.slices
    have hlen1:(zb9 t).length<=1000000000000:=Nat.le_trans (zrv _ _ (List.mem_map.2 ⟨t,List.mem_of_getElem? ht,rfl⟩)) HS.out
    have HH:=hh9 (fun W' (hb:Below w.heap.size w W')=>zva ((H3.out i Y t hY ht).under hb) (List.all_eq_true.1 HR.out t (List.mem_of_getElem? ht)) (HT.out.below hb) hlen1)
    have hlen:((l.take i).map zb9).length=i:=by rw [List.length_map,List.length_take,<- HNN.out];omega
    have HTK:=hh9 (show (l.take (i+1)).map zb9=((l.take i).map zb9)++[zb9 t] by
     rw [List.take_add_one,ht];simp)
    have HLEN:=hh9 hlen
    obtain ⟨nm,mo,⟨k,sx,nv,lo,hi',kv⟩⟩:=Y
    simp only [] at en ek
    subst en ek
    have e0:=CX 0 _ (by omega) rfl
    have e1:=CX 1 _ (by omega) rfl
    have e2:=CX 2 _ (by omega) rfl
    have e3:=CX 3 _ (by omega) rfl
    have e4:=CX 4 _ (by omega) rfl
    have e5:=CX 5 _ (by omega) rfl
    have e6:=CX 6 _ (by omega) rfl
    have e7:=CX 7 _ (by omega) rfl
    rw [<- Nat.add_assoc] at e0 e1 e2 e3 e4 e5 e6 e7
    rw [Nat.add_zero] at e0
    have hxb:=HX.out.lt
    have hne:wr.heap.size≠w.heap.size:=by omega
    have HA:=hh9 (zjd HBEL.out (lobj ⟨nm,mo,⟨k,sx,.slice aa am ac,lo,hi',.slice ca cm cc⟩⟩))
    have HXA:=hh9 (HX.out.under ((Below.refl wr.heap.size wr).alloc (Nat.le_refl _) (lobj ⟨nm,mo,⟨k,sx,.slice aa am ac,lo,hi',.slice ca cm cc⟩⟩)))
    unfold lobj LV.arr at HA HXA
    clear hY ht hlen CX hlen1
    go_wp2_with fail
    refine (HH.out _ HA.out).mono ?_
    rintro e w1 ⟨rfl,hb⟩
    have HB1:=hh9 (za0 HA.out hb)
    have hX1:=HXA.out.under hb
    have k0:=hX1.cell (by rw [HLEN.out];exact hlt)
    have k1:=hX1.frozen i
    rw [HLEN.out] at k0
    have HX2:=hh9 (hX1.set (by rw [HLEN.out];exact hlt) (zb9 t))
    clear hb hX1 e0 e1 e2 e3 e4 e5 e6 e7
    go_wp2_with fail
    go_roundw
    case rel=>exact ⟨i+1,by go_num,by omega,HB1.out.setCell (Nat.le_refl _) _,by unfold Hid;have:=HX2.out;rw [HLEN.out,<- HTK.out] at this;exact this⟩
    case measure=>simp [intOf];omega
   ·have hin:i=n:=by omega
    subst hin
    have HJ:=hh9 (HJE.out wr (by have:=HX.out;rw [List.take_of_length_le (by rw [<- HNN.out];omega)] at this;exact this))
    go_wp2_with fail
    refine HJ.out.mono ?_
    rintro e w1 ⟨rfl,hb⟩
    have HB1:=hh9 (za0 HBEL.out hb)
    clear hb
    go_wp2_with fail
    go_ret
    exact ⟨rfl,HB1.out⟩
def zia (l:List Rule):Value:=if l.all rlB=true then .tuple #[.string (za3 ((l.map zb9).flatten)),.int .i64 0] else .tuple #[.string ⟨#[]⟩,.int .i64 1]
def ze1 (l:List Rule) (w:World) (e:Ending) (w':World):Prop:=e=.returned (zia l)/\Below w.heap.size w w'
theorem zrw {w:World} {v:Value} {vs:List LV} {l:List Rule} (h:LinesE w v vs l) (hT:Tabs w) (hs:l.all rlB=true->((l.map zb9).flatten).length<=1000000000000) :
  Calls Tryz.prog 21 #[v] w (ze1 l w):=by
 have HA:=hh9 (zyu h)
 cases hp:l.all rlB
 ·have hv:zia l=.tuple #[.string ⟨#[]⟩,.int .i64 1]:=by unfold zia;rw [hp,if_neg (by simp)]
  unfold ze1
  rw [hv]
  rw [hp] at HA
  clear hp hs h hT hv
  go_enter Tryz.func21,Tryz.ntmps21
  go_wp2_with fail
  refine HA.out.mono ?_
  rintro e w1 ⟨rfl,hb⟩
  have HB1:=hh9 hb
  clear hb
  go_wp2_with fail
  go_ret2
  exact ⟨rfl,HB1.out⟩
 ·have hv:zia l=.tuple #[.string (za3 ((l.map zb9).flatten)),.int .i64 0]:=by unfold zia;rw [hp,if_pos rfl]
  unfold ze1
  rw [hv]
  rw [hp] at HA
  have HJ:=hh9 (fun W' (hb:Below w.heap.size w W')=>zwo (h.below hb) hp (hT.below hb) (hs hp))
  clear hp hs h hT hv
  go_enter Tryz.func21,Tryz.ntmps21
  go_wp2_with fail
  refine HA.out.mono ?_
  rintro e w1 ⟨rfl,hb⟩
  have HB1:=hh9 hb
  clear hb
  go_wp2_with fail
  refine (HJ.out _ HB1.out).mono ?_
  rintro e w2 ⟨rfl,hb⟩
  have HB2:=hh9 (za0 HB1.out hb)
  clear hb
  go_wp2_with fail
  go_ret2
  exact ⟨rfl,HB2.out⟩
end Go.Proofs.YtekjnfldgjcgeaaGreatDoor
namespace Go.Proofs.YtekjnfldgjcgeaaGreatDoor
open Go.RowKit Go.Shelf
def zd0 (W:World) (v:Value) (ys:List RV) (g:List GR):Prop :=
 RowAny W v g.length (ys.flatMap RV.cells)/\ys.length=g.length/\∀ (i:Nat) (y:RV) (r:GR),ys[i]?=some y->g[i]?=some r->y.name=za3 r.name/\zar r.name/\ETP W (fun _=>True) y.expr r.expr
theorem zd0.rules {W:World} {v:Value} {ys:List RV} {g:List GR} (h:zd0 W v ys g):zdg W v ys g :=
 ⟨h.1,h.2.1,fun i y r hy hr=>⟨(h.2.2 i y r hy hr).1,(h.2.2 i y r hy hr).2.1,(h.2.2 i y r hy hr).2.2.any⟩⟩
theorem zd0.below {W W':World} {v:Value} {ys:List RV} {g:List GR} (h:zd0 W v ys g) (hb:Below W.heap.size W W'):zd0 W' v ys g :=
 ⟨h.1.below hb,h.2.1,fun i y r hy hr=>⟨(h.2.2 i y r hy hr).1,(h.2.2 i y r hy hr).2.1,(h.2.2 i y r hy hr).2.2.kept (M:=fun _=>False) (zap.below hb) (fun b _ _=>⟨id,trivial⟩)⟩⟩
theorem zd0.nil (W:World):zd0 W (.slice none 0 0) [] []:=⟨.inl ⟨rfl,_,_,rfl⟩,rfl,fun i y r h=>by simp at h⟩
theorem zcr {W:World} {base size n:Nat} {e:TypeId} {v:Value} {xs:List Value} (h:W.ownsRow base e size v n xs):RowAny W v n xs:=by
 rcases zan h with ⟨rfl,rfl⟩ | ⟨b,cap,rfl⟩
 ·exact .inl ⟨rfl,_,_,rfl⟩
 ·obtain ⟨h1,h2,h3,h4⟩:=zb0 h
  exact .inr ⟨b,0,cap,rfl,h2,h3,h4,fun j u hj=>by rw [Nat.zero_add];exact zaq h hj⟩
theorem zg2.x {W:World} {base:Nat} {v:Value} {ys:List RV} {g:List GR} (h:zg2 W base v ys g):zd0 W v ys g :=
 ⟨zcr h.1,h.2.1,fun i y r hy hr=>⟨(h.2.2 i y r hy hr).1,(h.2.2 i y r hy hr).2.1,(h.2.2 i y r hy hr).2.2.weak (fun _ _ _=>trivial)⟩⟩
theorem GAt.x {W:World} {base R m:Nat} {v:Value} {ys:List RV} {g:List GR} (h:GAt W base R m v ys g) (he:zfa W ys g):zd0 W v ys g :=
 ⟨zcr h.row,h.len,fun i y r hy hr=>⟨(h.name i y r hy hr).1,(h.name i y r hy hr).2,(he i y r hy hr).1⟩⟩
def zki (l:List Rule) (w:World) (e:Ending) (w':World):Prop :=
 ∃ (v:Value) (ys:List RV) (g:List GR) (er:Int),e=.returned (.tuple #[v,.int .i64 er])/\zcm l g er/\zd0 w' v ys g/\Below w.heap.size w w'
theorem zib {d:Nat} {t:Tree} (h:zax d t=true):0<(zbt t).length:=by
 obtain ⟨k,x,ns,lo,hi,kids⟩:=t
 rw [zi9]
 by_cases hk:k=1
 ·rw [if_pos hk]
  have hf:ze4 k x ns lo hi kids.length=true:=by
   cases d with
   | zero=>unfold zax at h;rw [Bool.and_eq_true] at h;exact h.1
   | succ d=>unfold zax at h;rw [Bool.and_eq_true] at h;exact h.1
  unfold ze4 at hf
  rw [if_pos (.inl hk)] at hf
  simp only [Bool.and_eq_true,decide_eq_true_eq] at hf
  omega
 ·rw [if_neg hk]
  simp
theorem zj8:∀ (l:List Rule) (i:Nat),twl (l.take i)<=twl l
 | [],i=>by simp
 | r::l,0=>by simp [twl]
 | r::l,i+1=>by
  have:=zj8 l i
  simp only [twl,List.take_succ_cons,List.map_cons,List.sum_cons] at this ⊢
  omega
theorem zwp {l:List Rule} {r:Rule} (h:r∈l):r.expr.tw+1<=twl l:=by
 induction l with
 | nil=>cases h
 | cons u l ih =>
  simp only [twl,List.map_cons,List.sum_cons]
  rcases List.mem_cons.1 h with rfl | h
  ·omega
  ·have:=ih h
   simp only [twl] at this
   omega
theorem zkj:∀ l:List Rule,l.length<=twl l
 | []=>Nat.zero_le _
 | r::l=>by
  have:=zkj l
  simp only [twl,List.map_cons,List.sum_cons,List.length_cons] at this ⊢
  omega
theorem zip {l:List Rule} {i:Nat} {r:Rule} {g:List GR} (h:zbf [] (l.take i)=some g) (hr:l[i]?=some r):zbf [] (l.take (i+1))=zcv g r:=by
 have e:l.take (i+1)=l.take i++[r]:=by rw [List.take_add_one,hr];rfl
 have app:∀ (a b:List Rule) (g:List GR),zbf g (a++b)=(zbf g a).bind fun g'=>zbf g' b:=fun a=>by
  induction a with
  | nil=>exact fun b g=>rfl
  | cons u a ih =>
   intro b g
   rw [List.cons_append,zc3,zc3]
   cases zcv g u with
   | none=>rfl
   | some g'=>exact ih b g'
 rw [e,app,h]
 show zbf g [r]=_
 rw [zc3]
 cases zcv g r<;>rfl
theorem zfk {l:List Rule} {i:Nat} (h:zbf [] (l.take i)=none):zbf [] l=none:=by
 have app:∀ (a b:List Rule) (g:List GR),zbf g (a++b)=(zbf g a).bind fun g'=>zbf g' b:=fun a=>by
  induction a with
  | nil=>exact fun b g=>rfl
  | cons u a ih =>
   intro b g
   rw [List.cons_append,zc3,zc3]
   cases zcv g u with
   | none=>rfl
   | some g'=>exact ih b g'
 have e:=app (l.take i) (l.drop i) []
 rw [List.take_append_drop,h] at e
 exact e
theorem ze2 {l:List Rule} {g:List GR} {i:Nat} (h:zbf [] (l.take i)=some g) (ht:twl l<=9000):(∀ r∈g,r.expr.tw<=9000/\dep r.expr<=9000/\(zai r.expr).length<=1000000)/\g.length<=9000:=by
 have h1:=zkh h
 have h2:=zj8 l i
 have h3:=zkj (l.take i)
 simp only [tws,List.map_nil,List.sum_nil,List.length_nil] at h1
 constructor
 ·intro r hr
  have h4:=zwi hr
  unfold tws at h4
  have h5:=zrr r.expr.tw r.expr (Nat.le_refl _)
  omega
 ·omega
theorem zic (g:List GR):zce g<=16:=by
 unfold zce
 have:=List.length_filter_le (fun r=>(zay g r.name).isNone) zbs
 have:zbs.length=16:=by decide +kernel
 omega
theorem zm2 {l:List Rule} (h:l.all rlB=true):zia l=.tuple #[.string (za3 ((l.map zb9).flatten)),.int .i64 0]:=by unfold zia;rw [if_pos h]
theorem zm3 {l:List Rule} (h:l.all rlB=false):zia l=.tuple #[.string ⟨#[]⟩,.int .i64 1]:=by unfold zia;rw [if_neg (by rw [h];simp)]
theorem ztn {w:World} {v:Value} {ys:List LV} {l:List Rule} (h:LinesE w v ys l) (hT:Tabs w) (hw:l.all rlB=false):Calls Tryz.prog 8 #[v] w (zki l w):=by
 have HT:=hh9 (zrw h hT (fun h2=>by rw [hw] at h2;cases h2))
 unfold ze1 at HT
 rw [zm3 hw] at HT
 have HJ:Hid (zcm l [] 1):=.inl ⟨hw,rfl,rfl⟩
 obtain ⟨a,c,rfl,_⟩:=h.1.slice
 clear h hT hw
 go_enter Tryz.func8,Tryz.ntmps8
 go_wp2_with (go_at_call 21;refine HT.out.mono ?_;rintro e w1 ⟨rfl,hb⟩;have HB:=hh9 hb;clear hb)
 refine bodyPost_ret (results_tmp2 rfl _ _ _) rfl ?_
 exact ⟨_,[],[],1,rfl,HJ.out,zd0.nil _,HB.out⟩
theorem zto {w:World} {v:Value} {ys:List LV} {l:List Rule} (h:LinesE w v ys l) (hT:Tabs w) (hw:l.all rlB=true) (ht:twl l<=9000):Calls Tryz.prog 8 #[v] w (zki l w):=by
 have hlen:((l.map zb9).flatten).length<=1000000000000:=by
  have:∀ l:List Rule,l.all rlB=true->((l.map zb9).flatten).length<=60*twl l:=fun l=>by
   induction l with
   | nil=>simp
   | cons r l ih =>
    intro h
    rw [List.all_cons,Bool.and_eq_true] at h
    have h1:=ih h.2
    have h2:=h.1
    unfold rlB at h2
    rw [Bool.and_eq_true] at h2
    have h3:=zmk 50 r.expr h2.2
    have h4:r.name.length<=40:=(zf1 h2.1).1
    have h5:(zb9 r).length<=r.name.length+4+(zaf 50 r.expr).length+1:=by
     unfold zb9
     simp only [List.length_append,List.length_cons,List.length_nil]
     have:(if r.more=true then [32,61,47,32] else [32,61,32]:List Int).length<=4:=by split<;>simp
     omega
    unfold twl at h1 ⊢
    simp only [List.map_cons,List.flatten_cons,List.length_append,List.sum_cons] at h1 ⊢
    omega
  have:=this l hw
  omega
 have HT:=hh9 (zrw h hT (fun _=>hlen))
 unfold ze1 at HT
 rw [zm2 hw] at HT
 have HH:=hh9 h
 have HW:=hh9 hw
 obtain ⟨a,n,c,rfl,hn⟩:∃ a n c,v=.slice a n c/\n=l.length:=by
  obtain ⟨a,c,h,_⟩:=h.1.slice
  exact ⟨a,_,c,h,rfl⟩
 have HN:=hh9 hn
 have hl9:=zkj l
 have hn9:n<=9000:=by omega
 obtain ⟨TX,hTX⟩:∃ TX,TX=za3 ((l.map zb9).flatten):=⟨_,rfl⟩
 rw [<- hTX] at HT
 clear h hT hw hn hTX hlen
 go_enter Tryz.func8,Tryz.ntmps8
 have hmk:∀ u:World,(Instr.makeMap 57 none).run Tryz.prog u=.ok (.map (some u.heap.size)) (u.alloc (.map #[] 0)):=fun u=>run_makeMap _ u
 go_wp2_with (go_at_call 21;refine HT.out.mono ?_;rintro e w1 ⟨rfl,hb⟩;have HB:=hh9 hb;clear hb)
 have hb2:Below w1.heap.size w1 ((w1.alloc (.map #[] 0)).alloc (.cells #[.slice none 0 0,.map (some w1.heap.size)] 59)):=((Below.refl _ _).alloc (Nat.le_refl _) _).alloc (by simp) _
 have hstart:TS ((w1.alloc (.map #[] 0)).alloc (.cells #[.slice none 0 0,.map (some w1.heap.size)] 59)) (w1.heap.size+2) (w1.heap.size+1) w1.heap.size (.slice none 0 0) [] []:=by
  refine ⟨⟨?_,World.ownsRow_nil _ _ _ _,rfl,⟨.map [],(World.ownsMap_made w1 Tryz.prog 9 _).alloc _,MapG.start⟩,fun i y r h=>by simp at h⟩,fun i y r h=>by simp at h⟩
  have h:=heap_alloc_new (w1.alloc (.map #[] 0)) (.cells #[.slice none 0 0,.map (some w1.heap.size)] 59)
  rw [World.size_alloc] at h
  exact h
 have HSTART:=hh9 hstart
 have HB2:=hh9 (za0 HB.out hb2)
 have hs2:((w1.alloc (.map #[] 0)).alloc (.cells #[.slice none 0 0,.map (some w1.heap.size)] 59)).heap.size=w1.heap.size+2:=by simp
 have hw1:=HB.out.size
 clear hstart hb2
 go_loopw [23] (fun v wr=>∃ (i:Nat) (v':Value) (ys':List RV) (g':List GR),v=.int .i64 i/\i<=n/\Hid (zbf [] (l.take i)=some g')/\Hid (TS wr (w1.heap.size+2) (w1.heap.size+1) w1.heap.size v' ys' g')/\Hid (Below w.heap.size w wr)/\w1.heap.size+2<=wr.heap.size) (fun v _=>n-(intOf v).toNat)
 case atStart=>exact ⟨0,_,[],[],rfl,by omega,rfl,HSTART,HB2,by rw [hs2];exact Nat.le_refl _⟩
 case round =>
  obtain ⟨i,v',ys',g',rfl,hi,HTA,HTS,HBEL,hwr⟩:=hrel
  by_cases hlt:i<n
  ·obtain ⟨b,off,ha,hb3,hcs⟩:∃ b off,a=some ⟨b,off,none⟩/\b<w.heap.size/\∀ (j:Nat) (u:Value),(ys.flatMap LV.cells)[j]?=some u->w.cell? ⟨b,off+j,none⟩=some u:=by
    rcases HH.out.1 with ⟨h0,_⟩ | ⟨b,off,cap,h1,_,_,h3,h4⟩
    ·have:=HN.out
     omega
    ·injection h1 with h1
     exact ⟨b,off,h1,h3,h4⟩
   subst ha
   obtain ⟨Y,hY⟩:∃ y,ys[i]?=some y:=⟨_,List.getElem?_eq_getElem (by rw [HH.out.2.1,<- HN.out];exact hlt)⟩
   obtain ⟨r,hr⟩:∃ y,l[i]?=some y:=⟨_,List.getElem?_eq_getElem (by rw [<- HN.out];exact hlt)⟩
   have hLE:=(HH.out.2.2 i Y r hY hr).under HBEL.out
   have hmem:=List.mem_of_getElem? hr
   have hrr:zax 50 r.expr=true:=by
    have:=List.all_eq_true.1 HW.out r hmem
    unfold rlB at this
    rw [Bool.and_eq_true] at this
    exact this.2
   have hrt:=zwp hmem
   obtain ⟨hsm,hgl⟩:=ze2 HTA.out ht
   have CX:∀ (j:Nat) (u:Value),j<8->Y.cells[j]?=some u->wr.cell? ⟨b,off+(i*8+j),none⟩=some u:=fun j u hj hu =>
    (HBEL.out.cell (p:=⟨b,off+(i*8+j),none⟩) hb3).trans (hcs _ u ((zdy ys i j Y hY hj).trans hu))
   obtain ⟨_,_,_,_,_,_,_,r1,r2,_⟩:=hLE.2.2.2.2.forms
   obtain ⟨s1,d1,e1,_⟩:=r1.slice
   obtain ⟨s2,d2,e2,_⟩:=r2.slice
   have hstep:=zip HTA.out hr
   have hba:Below wr.heap.size wr (wr.alloc (lobj Y)):=(Below.refl _ _).alloc (Nat.le_refl _) _
   have HTAKE:=hh9 (zzr (HTS.out.under hba) (by omega) (by omega) (by omega) (by have:=hba.size;omega) (hLE.under hba) (zib hrr) (by omega) (fun u hu=>by have:=(hsm u hu).1;omega) (by omega))
   have HBA:=hh9 (za0 HBEL.out hba)
   obtain ⟨nm,mo,⟨k,tx,nv,lo,hi2,kv⟩⟩:=Y
   simp only [] at e1 e2
   subst e1 e2
   have f0:=CX 0 _ (by omega) rfl
   have f1:=CX 1 _ (by omega) rfl
   have f2:=CX 2 _ (by omega) rfl
   have f3:=CX 3 _ (by omega) rfl
   have f4:=CX 4 _ (by omega) rfl
   have f5:=CX 5 _ (by omega) rfl
   have f6:=CX 6 _ (by omega) rfl
   have f7:=CX 7 _ (by omega) rfl
   rw [<- Nat.add_assoc] at f0 f1 f2 f3 f4 f5 f6 f7
   rw [Nat.add_zero] at f0
   simp only [] at f0 f1 f2 f3 f4 f5 f6 f7
   have q1:decide ((i:Int)<(n:Int))=true:=decide_eq_true (by omega)
   have HSTEP:=hh9 hstep
   unfold lobj LV.arr LV.val LV.arr at HTAKE
   unfold lobj LV.arr at HBA
   simp only [] at HTAKE HBA
   clear CX hcs hLE hba r1 r2 hY hr hstep hmem hsm
   cases hq:zcv g' r with
   | none =>
    have HQ:=hh9 hq
    clear hq
    go_wp2_with (go_at_call 22;refine HTAKE.out.mono ?_;rintro e w4 ⟨h1,h2,h3⟩;obtain rfl:=h1 HQ.out;have HB4:=hh9 (HBA.out.trans (h3 w.heap.size (by omega) (by omega) (by omega)));clear h1 h2 h3)
    refine bodyPost_ret (results_tmp2 rfl _ _ _) rfl ?_
    exact ⟨_,[],[],41,rfl,.inr ⟨HW.out,.inl ⟨zfk (i:=i+1) (HSTEP.out.trans HQ.out),rfl,rfl⟩⟩,zd0.nil _,HB4.out⟩
   | some g2 =>
    have HQ:=hh9 hq
    clear hq
    go_wp2_with (go_at_call 22;refine HTAKE.out.mono ?_;rintro e w4 ⟨h1,h2,h3⟩;obtain ⟨rfl,v4,ys4,hTS4⟩:=h2 g2 HQ.out;have HTS4:=hh9 hTS4;have HB4:=hh9 (HBA.out.trans (h3 w.heap.size (by omega) (by omega) (by omega)));have hw4:=(h3 (w1.heap.size) (by omega) (by omega) (by omega)).size;clear h1 h2 h3 hTS4)
    go_roundw
    case rel=>exact ⟨i+1,v4,ys4,g2,by go_num,by omega,HSTEP.out.trans HQ.out,HTS4,HB4,by simp at hw4;omega⟩
    case measure=>simp [intOf];omega
  ·obtain rfl:i=n:=by omega
   have hall:zbf [] l=some g':=by
    have h:=HTA.out
    rwa [List.take_of_length_le (by rw [<- HN.out];exact Nat.le_refl _)] at h
   obtain ⟨hsm,hgl⟩:=ze2 HTA.out ht
   obtain ⟨nn,R,hC⟩:=Compl.is (g'.length+zce g') 0 g' (by omega)
   have HCO:=hh9 (zok HTS.out.gat (HTS.out.exprs (fun u hu=>(hsm u hu).2)) (by omega) (by omega) (by omega) hwr hC (by have:=zic g';omega))
   have HALL:=hh9 hall
   have HC:=hh9 hC
   have q1:decide ((i:Int)<(i:Int))=false:=decide_eq_false (by omega)
   clear hall hsm hC
   cases R with
   | none =>
    go_wp2_with (go_at_call 23;refine HCO.out.mono ?_;rintro e w4 ⟨h1,h2,h3⟩;obtain rfl:=h1 rfl;have HB4:=hh9 (HBEL.out.trans (h3 w.heap.size (by omega) (by omega) (by omega) (by omega)));clear h1 h2 h3)
    refine bodyPost_ret (results_tmp2 rfl _ _ _) rfl ?_
    exact ⟨_,[],[],40,rfl,.inr ⟨HW.out,.inr ⟨g',nn,none,HALL.out,HC.out,.inl ⟨rfl,rfl,rfl⟩⟩⟩,zd0.nil _,HB4.out⟩
   | some g2 =>
    go_wp2_with (go_at_call 23;refine HCO.out.mono ?_;rintro e w4 ⟨h1,h2,h3⟩;obtain ⟨rfl,v4,ys4,hG4,hE4⟩:=h2 g2 rfl;have r0:=hG4.cells.1;have HG4:=hh9 hG4;have HE4:=hh9 hE4;have HB4:=hh9 (HBEL.out.trans (h3 w.heap.size (by omega) (by omega) (by omega) (by omega)));clear h1 h2 h3 hG4 hE4)
    refine bodyPost_ret (results_tmp2 rfl _ _ _) rfl ?_
    exact ⟨_,ys4,g2,0,rfl,.inr ⟨HW.out,.inr ⟨g',nn,some g2,HALL.out,HC.out,.inr ⟨rfl,rfl⟩⟩⟩,HG4.out.x HE4.out,HB4.out⟩
theorem zn8 {w:World} {v:Value} {ys:List LV} {l:List Rule} (h:LinesE w v ys l) (hT:Tabs w) (ht:twl l<=9000):Calls Tryz.prog 8 #[v] w (zki l w):=by
 cases hw:l.all rlB with
 | true=>exact zto h hT hw ht
 | false=>exact ztn h hT hw
end Go.Proofs.YtekjnfldgjcgeaaGreatDoor
