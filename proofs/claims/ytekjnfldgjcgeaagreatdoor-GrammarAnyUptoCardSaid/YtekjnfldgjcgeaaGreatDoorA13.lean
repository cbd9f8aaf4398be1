/- Part 13 of what the laws of the grammar rest on. -/
import Derived.Test.YtekjnfldgjcgeaaGreatDoorA0
import Derived.Test.YtekjnfldgjcgeaaGreatDoorA10
import Derived.BigQuiet
import Derived.Deep.QuietTactic
import Derived.Defers
import Derived.Great.BuildSlice
import Derived.KernelRfl
import Derived.Laws.CopyOwn
import Derived.Laws.NewBlocks
import Derived.Laws.OwnMore
import Derived.Laws.Pointers
import Derived.Laws.Tables
import Derived.MapKept
import Derived.Maps.AppendAt
import Derived.OwnWalk
import Derived.Recover
import Derived.StillTailTactics
import Derived.WalkMore
set_option linter.all false
set_option maxRecDepth 100000
set_option maxHeartbeats 8000000
namespace Go.Proofs.YtekjnfldgjcgeaaGreatDoor
open Go.RowKit
def rd (s:ByteArray) (i:Nat):Int:=if h:i<s.size then (s[i].toNat:Int) else -1
def nx (f:Nat->Int) (p:Nat):Int:=if f p<0 then 0 else f p
theorem zes {s:ByteArray} {i:Nat} (h:i<s.size):rd s i=(s[i].toNat:Int):=by unfold rd;rw [dif_pos h]
theorem zbz {s:ByteArray} {i:Nat} (h:¬ i<s.size):rd s i=-1:=by unfold rd;rw [dif_neg h]
theorem zge (s:ByteArray) (i:Nat):-1<=rd s i/\rd s i<=255:=by
 by_cases h:i<s.size
 ·rw [zes h]
  have:=s[i].toNat_lt
  omega
 ·rw [zbz h]
  omega
theorem zrd {s:ByteArray} {i:Nat}:rd s i<0 ↔ ¬ i<s.size:=by
 by_cases h:i<s.size
 ·rw [zes h];omega
 ·rw [zbz h];omega
theorem zcu (s:ByteArray) (i:Nat):0<=nx (rd s) i/\nx (rd s) i<=255:=by
 have:=zge s i
 unfold nx
 split<;>omega
theorem zgf {c:Int}:isAl c=true ↔ (97<=c/\c<=122\/65<=c/\c<=90):=by unfold isAl;simp
theorem zjv (c:Int):0<=dig c/\dig c<=16:=by unfold dig;split<;>(try split)<;>(try split)<;>omega
theorem zj1 (c:Int):isDg 10 c=isDc c:=by
 unfold isDg isDc dig
 by_cases a:48<=c<;>by_cases b:c<=57
 all_goals simp only [a,b,and_true,and_false,if_true,if_false,decide_true,decide_false,Bool.and_true,Bool.and_false,false_and,true_and,decide_eq_true_eq,decide_eq_false_iff_not]
 all_goals (try split)<;>(try split)<;>omega
theorem zvk {c:Int} (ha:isAl c=false) (hd:isDc c=false) (h1:c≠34) (h2:c≠37) (h3:c≠40) (h4:c≠42) (h5:c≠91):isRp c=false:=by
 unfold isRp
 simp [ha,hd,h1,h2,h3,h4,h5]
def SaysC (c:Int) (w:World) (e:Ending) (w':World):Prop:=e=.returned (.int .u8 c)/\∃ n,w'=w.drewN n
theorem zvl (w:World) (a b:Nat):(w.drewN a).drewN b=w.drewN (a+b):=by
 unfold World.drewN
 simp
 omega
theorem zmt {s:ByteArray} {p:Nat} (h:p<s.size):nx (rd s) p=(s[p].toNat:Int):=by
 unfold nx
 rw [zes h,if_neg (by omega)]
theorem zil {s:ByteArray} {p:Nat} (h:¬ p<s.size):nx (rd s) p=0:=by
 unfold nx
 rw [zbz h]
 rfl
theorem zfz {s:ByteArray} {p:Nat} {c:Int} (hc:0<c):nx (rd s) p=c ↔ rd s p=c:=by
 have:=zge s p
 unfold nx
 split<;>omega
def zf4 (R:Nat) (w:World):Nat:=match w.cell? ⟨R,1,none⟩ with | some (.int _ p)=>p.toNat | _=>0
theorem zre {P:Int->Bool} {s:ByteArray} {q:Nat} (h0:P 0=false) (h:P (nx (rd s) q)=true):q<s.size:=by
 by_cases g:q<s.size
 ·exact g
 ·rw [zil g,h0] at h;cases h
theorem zmu {P:Int->Bool} {s:ByteArray} {q:Nat} (hlt:q<s.size) (h:P (nx (rd s) q)=true):P (rd s q)=true:=by rwa [zmt hlt,<- zes hlt] at h
theorem zj2 {P:Int->Bool} {s:ByteArray} {q:Nat} (h0:P 0=false) (hn:P (-1)=false) (h:P (nx (rd s) q)=false):P (rd s q)=false:=by
 by_cases g:q<s.size
 ·rwa [zmt g,<- zes g] at h
 ·rw [zbz g];exact hn
theorem ze9 {P:Int->Bool} {f:Nat->Int} {p q:Nat} (hall:∀ i,p<=i->i<q->P (f i)=true) (h:P (f q)=true):∀ i,p<=i->i<q+1->P (f i)=true:=by
 intro i h1 h2
 by_cases g:i=q
 ·subst g;exact h
 ·exact hall i h1 (by omega)
noncomputable def zf5 (f:Nat->Int) (p:Nat):Int:=match zas f p with | some e=>e | none=>-1
theorem qd9 {f:Nat->Int} {p q:Nat} (h:zbm f p=q) (h1:f q<0):zf5 f p=q:=by unfold zf5 zas;rw [h,if_pos h1]
theorem qda {f:Nat->Int} {p q:Nat} (h:zbm f p=q) (h1:f q=10):zf5 f p=(q:Int)+1:=by unfold zf5 zas;rw [h,if_neg (by omega),if_pos h1];simp
theorem qdb {f:Nat->Int} {p q:Nat} (h:zbm f p=q) (h1:f q=13) (h2:f (q+1)=10):zf5 f p=(q:Int)+2:=by unfold zf5 zas;rw [h,if_neg (by omega),if_neg (by omega),if_pos ⟨h1,h2⟩];simp
theorem zz5 {f:Nat->Int} {p q:Nat} (h:zbm f p=q) (h0:¬ f q<0) (h1:f q≠10) (h2:¬ (f q=13/\f (q+1)=10)):zf5 f p=-1:=by unfold zf5 zas;rw [h,if_neg h0,if_neg h1,if_neg h2]
theorem zbg {B:Nat} {a w w':World} {R:Nat} (h:Below B a w) (hg:w.grownBy w' (some R)) (hB:B<=w.heap.size) (hR:B<=R):Below B a w':=h.grown hg hB (fun k hk=>by cases hk;exact hR)
theorem zbw {a b:Int} (h:a=b):Ending.returned (.int .i64 a)=.returned (.int .i64 b):=by rw [h]
theorem zjw {f:Nat->Int} {p e:Nat} (h:zas f p=some e):zf5 f p=e:=by unfold zf5;rw [h]
theorem zjx {f:Nat->Int} {p:Nat} (h:zas f p=none):zf5 f p=-1:=by unfold zf5;rw [h]
theorem qbu {s:ByteArray} {q:Nat}:isBl (nx (rd s) q)=isBl (rd s q):=by
 by_cases g:q<s.size
 ·rw [zmt g,<- zes g]
 ·rw [zil g,zbz g];rfl
theorem zpy {s:ByteArray} {q:Nat} (h:isBl (rd s q)=true):q<s.size:=by
 by_cases g:q<s.size
 ·exact g
 ·rw [zbz g] at h;cases h
theorem qdc {P:Int->Bool} (hn:P (-1)=false) (s:ByteArray):∀ (k p:Nat),p<=s.size->s.size-p<=k->∃ q,IsRun P (rd s) p q/\q<=s.size:=by
 intro k
 induction k with
 | zero =>
  intro p hp hk
  exact ⟨p,⟨Nat.le_refl _,fun i h1 h2=>absurd h1 (by omega),by rw [zbz (by omega)];exact hn⟩,hp⟩
 | succ k ih =>
  intro p hp hk
  cases h:P (rd s p)
  ·exact ⟨p,⟨Nat.le_refl _,fun i h1 h2=>absurd h1 (by omega),h⟩,hp⟩
  ·have hlt:p<s.size:=by
    by_cases g:p<s.size
    ·exact g
    ·rw [zbz g,hn] at h;cases h
   obtain ⟨q,hr,hq⟩:=ih (p+1) (by omega) (by omega)
   refine ⟨q,⟨by have:=hr.le;omega,fun i h1 h2=>?_,hr.stop⟩,hq⟩
   by_cases g:i=p
   ·subst g;exact h
   ·exact hr.all i (by omega) h2
theorem zg0 {P:Int->Bool} (hn:P (-1)=false) {s:ByteArray} {p:Nat} (hp:p<=s.size):IsRun P (rd s) p (zbp P (rd s) p)/\zbp P (rd s) p<=s.size:=by
 obtain ⟨q,hr,hq⟩:=qdc hn s _ p hp (Nat.le_refl _)
 rw [hr.eq]
 exact ⟨hr,hq⟩
theorem qaw {s:ByteArray} {p:Nat} (hp:p<=s.size):p<=zbm (rd s) p/\zbm (rd s) p<=s.size:=by
 unfold zbm
 split
 ·rename_i h
  have hlt:p<s.size:=by
   by_cases g:p<s.size
   ·exact g
   ·rw [zbz g] at h;omega
  obtain ⟨hr,hq⟩:=zg0 (P:=isCm) (by decide) (s:=s) (p:=p+1) (by omega)
  have:=hr.le
  omega
 ·omega
theorem zda {s:ByteArray} {p e:Nat} (hp:p<=s.size) (h:zas (rd s) p=some e):p<=e/\e<=s.size:=by
 have hc:=qaw hp
 unfold zas at h
 split at h
 ·cases h;exact hc
 ·rename_i h0
  have hlt:zbm (rd s) p<s.size:=by
   by_cases g:zbm (rd s) p<s.size
   ·exact g
   ·exact absurd (zrd.2 g) h0
  split at h
  ·cases h;omega
  ·split at h
   ·rename_i h2
    have:zbm (rd s) p+1<s.size:=by
     by_cases g:zbm (rd s) p+1<s.size
     ·exact g
     ·have:=h2.2;rw [zbz g] at this;omega
    cases h;omega
   ·cases h
theorem zvm {s:ByteArray} {p e:Nat} (h:zas (rd s) p=some e) (h1:nx (rd s) p≠59) (h2:nx (rd s) p≠13) (h3:nx (rd s) p≠10):isBl (rd s e)=false:=by
 have g1:rd s p≠59:=fun g=>h1 ((zfz (by omega)).2 g)
 have g2:rd s p≠13:=fun g=>h2 ((zfz (by omega)).2 g)
 have g3:rd s p≠10:=fun g=>h3 ((zfz (by omega)).2 g)
 have hc:zbm (rd s) p=p:=by unfold zbm;rw [if_neg g1]
 unfold zas at h
 rw [hc] at h
 split at h
 ·rename_i g
  cases h
  rw [zbz (zrd.1 g)]
  decide
 ·rw [if_neg (fun k=>g2 k.1)] at h
  cases h
theorem zg1 {b:Int} (hb0:2<=b) (f:Nat->Int) (p:Nat):∀ n,0<=val b f p n
 | 0=>Int.le_refl 0
 | n+1=>by
  have h:=zg1 hb0 f p n
  have hd:=(zjv (f (p+n))).1
  have hm:0<=val b f p n*b:=Int.mul_nonneg h (by omega)
  unfold val
  omega
def zel (lim v:Int):Int:=min v (lim+1)
theorem zpz {b lim v x:Int} (hb:b=2\/b=10\/b=16) (hl:0<=lim) (hv:0<=v) (hx:0<=x):min (zel lim v*b+x) (lim+1)=zel lim (v*b+x):=by
 unfold zel
 rcases hb with rfl | rfl | rfl<;>omega
theorem zo6 {lim v:Int} (hl:0<=lim) (hv:0<=v):0<=zel lim v/\zel lim v<=lim+1:=by unfold zel;omega
theorem zmv {b:Int} (hb:b<=16) {s:ByteArray} {q:Nat}:isDg b (nx (rd s) q)=isDg b (rd s q):=by
 by_cases g:q<s.size
 ·rw [zmt g,<- zes g]
 ·rw [zil g,zbz g]
  unfold isDg dig
  simp
theorem qdd {s:ByteArray} {q:Nat}:dig (nx (rd s) q)=dig (rd s q):=by
 by_cases g:q<s.size
 ·rw [zmt g,<- zes g]
 ·rw [zil g,zbz g]
  unfold dig
  simp
theorem zvn {b:Int} (hb:b<=16) {s:ByteArray} {q:Nat} (h:isDg b (rd s q)=true):q<s.size:=by
 by_cases g:q<s.size
 ·exact g
 ·rw [zbz g] at h
  unfold isDg dig at h
  simp at h
  omega
theorem zhx {b lim:Int} {f:Nat->Int} {p:Nat} (h:isDg b (f p)=false):zbl b lim f p=.err 20:=by
 have hr:zbp (isDg b) f p=p:=IsRun.eq ⟨Nat.le_refl _,fun i h1 h2=>absurd h1 (by omega),h⟩
 unfold zbl
 rw [if_pos hr]
theorem zjy {b lim:Int} {f:Nat->Int} {p q:Nat} (h:IsRun (isDg b) f p q) (hlt:p<q):zbl b lim f p=if lim<val b f p (q-p) then .err 2 else .ok (val b f p (q-p)) q:=by
 unfold zbl
 rw [h.eq,if_neg (by omega)]
theorem zvo {a b:Int} (h:a=b):Value.int .i64 a=.int .i64 b:=by rw [h]
theorem zh5 {b lim:Int} {f:Nat->Int} {p q:Nat} {v:Int} (hb:2<=b) (h:zbl b lim f p=.ok v q):0<=v:=by
 unfold zbl at h
 split at h
 ·cases h
 ·split at h
  ·cases h
  ·cases h;exact zg1 hb _ _ _
theorem zj3 {f:Nat->Int} {p q:Nat} {lo:Int} (h:(if isDc (f p) then zbl 10 200 f p else .ok (-1) p)=.ok lo q) (hq:f q≠42):countAt f p=.ok (max lo 0,max lo 0,decide (0<=lo)) q:=by
 unfold countAt
 rw [h]
 show (if f q=42 then _ else _)=_
 rw [if_neg hq]
theorem zf6 {f:Nat->Int} {p q q':Nat} {lo hi:Int} (h:(if isDc (f p) then zbl 10 200 f p else .ok (-1) p)=.ok lo q) (hq:f q=42) (h2:(if isDc (f (q+1)) then zbl 10 200 f (q+1) else .ok (-1) (q+1))=.ok hi q') :
  countAt f p=.ok (max lo 0,hi,true) q':=by
 unfold countAt
 rw [h]
 show (if f q=42 then _ else _)=_
 rw [if_pos hq,h2]
theorem zjz {f:Nat->Int} {p q:Nat} {lo c:Int} (h:(if isDc (f p) then zbl 10 200 f p else .ok (-1) p)=.ok lo q) (hq:f q=42) (h2:(if isDc (f (q+1)) then zbl 10 200 f (q+1) else .ok (-1) (q+1))=.err c) :
  countAt f p=.err c:=by
 unfold countAt
 rw [h]
 show (if f q=42 then _ else _)=_
 rw [if_pos hq,h2]
theorem zk0 {f:Nat->Int} {p:Nat} {c:Int} (h:(if isDc (f p) then zbl 10 200 f p else .ok (-1) p)=.err c):countAt f p=.err c:=by
 unfold countAt
 rw [h]
theorem zhy {s:ByteArray} {q:Nat}:isDc (nx (rd s) q)=isDc (rd s q):=by
 by_cases g:q<s.size
 ·rw [zmt g,<- zes g]
 ·rw [zil g,zbz g];rfl
theorem zmw {s:ByteArray} {q:Nat}:isAl (nx (rd s) q)=isAl (rd s q):=by
 by_cases g:q<s.size
 ·rw [zmt g,<- zes g]
 ·rw [zil g,zbz g];rfl
theorem zbu {s:ByteArray} {q:Nat} {c:Int} (hc:0<=c) (h:rd s q=c):q<s.size:=by
 by_cases g:q<s.size
 ·exact g
 ·rw [zbz g] at h;omega
def cval (x:Int × Int × Bool):Value:=.tuple #[.int .i64 x.1,.int .i64 x.2.1,.bool x.2.2]
theorem qbv (b:UInt8):byt (b.toNat:Int)=b:=by unfold byt;simp
theorem zk1 (f:Nat->Int) (p n:Nat):(cut f p n).length=n:=by unfold cut;simp
theorem qde (f:Nat->Int) (p n i:Nat) (h:i<n):(cut f p n)[i]?=some (f (p+i)):=by unfold cut;simp [h]
theorem zhz {s:ByteArray} {p q:Nat} (hq:q<=s.size):s.extract p q=za3 (cut (rd s) p (q-p)):=by
 have hl:(s.extract p q).data.toList=(cut (rd s) p (q-p)).map byt:=by
  apply List.ext_getElem?
  intro i
  rw [ByteArray.data_extract,Array.toList_extract,List.getElem?_map,List.extract_eq_take_drop]
  by_cases h:i<q-p
  ·rw [qde _ _ _ _ h,List.getElem?_take_of_lt h,List.getElem?_drop]
   have hi:p+i<s.size:=by omega
   rw [zes hi]
   show _=some (byt _)
   rw [qbv]
   exact List.getElem?_eq_getElem (by simpa using hi)
  ·rw [List.getElem?_eq_none (by simp;omega),List.getElem?_eq_none (by rw [zk1];omega)]
   rfl
 unfold za3
 rw [<- hl]
theorem zk2 {P:Int->Bool} {s:ByteArray} {p q:Nat} (hP:∀ c,P c=true->0<=c/\c<128) (h:IsRun P (rd s) p q):∀ c∈cut (rd s) p (q-p),0<=c/\c<128:=by
 intro c hc
 unfold cut at hc
 obtain ⟨i,hi,rfl⟩:=List.mem_map.1 hc
 have:=List.mem_range.1 hi
 exact hP _ (h.all _ (by omega) (by omega))
theorem zmx (c:Int) (h:isNm c=true):0<=c/\c<128:=by
 unfold isNm isAl isDc at h
 simp at h
 omega
theorem zrf (c:Int) (h:isSt c=true):0<=c/\c<128:=by
 unfold isSt at h
 simp at h
 omega
theorem zlk {n:Nat} (h:n≠1):decide ((n:Int)=1)=false:=decide_eq_false (by omega)
theorem zee (k:Int) {l:List Tree} (h:l.length≠1):zgq k l=.mk k [] [] 0 0 l:=by
 match l,h with
 | [],_=>rfl
 | [_],h=>exact absurd rfl h
 | _::_::_,_=>rfl
theorem zk3 {x:List Int} (hx:∀ c∈x,0<=c/\c<128) (i:Nat) (h:i<(za3 x).size):x[i]?=some ((za3 x)[i].toNat:Int):=by
 have h':i<x.length:=by rwa [za9] at h
 have h1:(za3 x)[i]=byt x[i]:=by
  have e:(za3 x).data.toList[i]?=some (byt x[i]):=by rw [zcf,List.getElem?_map,List.getElem?_eq_getElem h'];rfl
  have e2:(za3 x).data.toList[i]?=some (za3 x)[i]:=List.getElem?_eq_getElem (by simpa using h)
  exact Option.some.inj (e2.symm.trans e)
 rw [h1,List.getElem?_eq_getElem h']
 have hm:=hx x[i] (List.getElem_mem h')
 unfold byt
 congr 1
 simp
 omega
theorem zmy:(Tryz.prog.info? 3).map (fun i=>(i.zero,i.size,i.bytes))=some (some (.int .i64 0),1,8):=by kernel_rfl
def qdf (x:List Int) (base g:Nat) (w wr:World) (i:Nat):Prop :=
 ∃ ys:List Int,ys.length=x.length/\wr.ownsRow base 3 1 (.slice (some ⟨g,0,none⟩) x.length x.length) x.length (zat ys)/\(∀ j,j<i->ys[j]?=x[j]?)/\Below w.heap.size w wr/\Res0 wr w.heap.size
theorem zt5 (ys:List Int) (i:Nat) (v:Int):(zat ys).set i (.int .i64 v)=zat (ys.set i v):=by unfold zat;simp
theorem zt6 (n:Nat):List.replicate n (Value.int .i64 0)=zat (List.replicate n 0):=by unfold zat;simp
theorem zvp {x:List Int} {b:Bool} (h:¬ (b=true/\x≠[])):litT x b=zmf x:=by unfold litT;rw [if_neg h]
theorem zo7 {x:List Int} (h:x≠[]):litT x true=.mk 6 [] x 0 0 []:=by unfold litT;rw [if_pos ⟨rfl,h⟩]
theorem zj4 {b lim:Int} {s:ByteArray} {p q:Nat} {v:Int} (hb:isDg b (-1)=false) (hp:p<=s.size) (h:zbl b lim (rd s) p=.ok v q):p<q/\q<=s.size:=by
 obtain ⟨hr,hq⟩:=zg0 (P:=isDg b) hb hp
 have hle:=hr.le
 unfold zbl at h
 split at h
 ·cases h
 ·split at h
  ·cases h
  ·cases h;omega
theorem zll (w:World) (base:Nat) (h:base<=w.heap.size) (v:Int):(w.alloc (.cells #[.int .i64 v] 3)).ownsRow base 3 1 (.slice (some ⟨w.heap.size,0,none⟩) 1 1) 1 (zat [v]) :=
 row_of_block h (heap_alloc_new w _) (by unfold maxLen;omega) rfl
theorem zk4 {W w':World} {base:Nat} {v':Value} {l:List Int} {u:Int} (h:w'.ownsRow base 3 1 v' (l.length+1) (zat l++[.int .i64 u])):w'.ownsRow base 3 1 v' (l++[u]).length (zat (l++[u])):=by
 rw [List.length_append,zat,List.map_append]
 exact h
theorem zfj {w w':World} {base size n R:Nat} {e:TypeId} {v:Value} {xs:List Value} (h:w.ownsRow base e size v n xs) (hg:w.grownBy w' (some R)) (hR:R<base):w'.ownsRow base e size v n xs:=by
 refine h.kept hg ?_
 rcases zan h with ⟨rfl,_⟩ | ⟨g,cap,rfl⟩
 ·exact .inl rfl
 ·refine .inr (fun e=>?_)
  have:=Option.some.inj e
  have:=(zb0 h).1
  simp at *
  omega
theorem qbw (s:ByteArray):∀ (k p:Nat),p<=s.size->s.size-p<=k->∃ q,Skip (rd s) p q/\p<=q/\q<=s.size:=by
 intro k
 induction k with
 | zero =>
  intro p hp hk
  refine ⟨p,.here (by rw [zbz (by omega)];decide) (fun e he=>?_),Nat.le_refl _,hp⟩
  have:=zda hp he
  rw [zbz (by omega)]
  decide
 | succ k ih =>
  intro p hp hk
  cases hb:isBl (rd s p)
  ·cases hl:zas (rd s) p with
   | none=>exact ⟨p,.here hb (fun e he=>by rw [hl] at he;cases he),Nat.le_refl _,hp⟩
   | some e =>
    cases he:isBl (rd s e)
    ·exact ⟨p,.here hb (fun e' he'=>by rw [hl] at he';cases he';exact he),Nat.le_refl _,hp⟩
    ·have h1:=zda hp hl
     have h2:=zpy he
     obtain ⟨q,hs,h3,h4⟩:=ih (e+1) (by omega) (by omega)
     exact ⟨q,.line hb hl he hs,by omega,h4⟩
  ·have h2:=zpy hb
   obtain ⟨q,hs,h3,h4⟩:=ih (p+1) (by omega) (by omega)
   exact ⟨q,.blank hb hs,by omega,h4⟩
theorem zdo {s:ByteArray} {p:Nat} (hp:p<=s.size):Skip (rd s) p (zad (rd s) p)/\p<=zad (rd s) p/\zad (rd s) p<=s.size:=by
 obtain ⟨q,hs,h1,h2⟩:=qbw s _ p hp (Nat.le_refl _)
 rw [hs.eq]
 exact ⟨hs,h1,h2⟩
theorem zrg {b:Int} (hb:b<=16):isDg b (-1)=false:=by
 unfold isDg dig
 simp
 exact hb
theorem zet {b lim:Int} {s:ByteArray} {p q:Nat} {v:Int} (hb:b<=16) (hp:p<=s.size) (h:zbl b lim (rd s) p=.ok v q):p<q/\q<=s.size:=zj4 (zrg hb) hp h
theorem zem {s:ByteArray} {p q:Nat} {x:List Int} (hp:p<=s.size) (h:zcc (rd s) p=.ok x q):p<=q/\q<=s.size:=by
 obtain ⟨hr,hq⟩:=zg0 (P:=isNm) (by decide) hp
 have hle:=hr.le
 unfold zcc at h
 split at h
 ·cases h
 ·cases h;omega
theorem zf7 {s:ByteArray} {p q:Nat} {x:List Int} (h:zb2 (rd s) p=.ok x q):p<q/\q<=s.size:=by
 unfold zb2 at h
 split at h
 ·rename_i h1
  have hlt:=zbu (by omega) h1
  obtain ⟨hr,hq⟩:=zg0 (P:=isSt) (by decide) (s:=s) (p:=p+1) (by omega)
  have hle:=hr.le
  split at h
  ·rename_i h2
   have hlt2:=zbu (by omega) h2
   cases h;omega
  ·cases h
 ·cases h
theorem zi0 {s:ByteArray} {p q:Nat} {x:Int × Int × Bool} (hp:p<=s.size) (h:countAt (rd s) p=.ok x q):p<=q/\q<=s.size:=by
 have first:∀ lo q,(if isDc (rd s p) then zbl 10 200 (rd s) p else .ok (-1) p)=.ok lo q->p<=q/\q<=s.size:=by
  intro lo q h
  split at h
  ·have:=zet (by omega) hp h;omega
  ·cases h;omega
 unfold countAt at h
 cases h1:(if isDc (rd s p) then zbl 10 200 (rd s) p else .ok (-1) p) with
 | err c=>rw [h1] at h;cases h
 | ok lo q1 =>
  rw [h1] at h
  have hq1:=first lo q1 h1
  simp only at h
  split at h
  ·rename_i h42
   have hlt:=zbu (by omega) h42
   cases h2:(if isDc (rd s (q1+1)) then zbl 10 200 (rd s) (q1+1) else .ok (-1) (q1+1)) with
   | err c=>rw [h2] at h;cases h
   | ok hi q2 =>
    rw [h2] at h
    simp only at h
    cases h
    split at h2
    ·have:=zet (by omega) (by omega) h2;omega
    ·cases h2;omega
  ·cases h;exact hq1
theorem zq0 {c b:Int} (h:zc0 c=.base b):b=2\/b=10\/b=16:=by
 unfold zc0 at h
 (repeat' split at h)<;>cases h<;>simp
def qbx:Ask->Prop
 | .nums b=>b<=16
 | .dots b _=>b<=16
 | _=>True
theorem Ans.bound {s:ByteArray} {k:Ask} {d p:Nat} {r:Got Tree} (h:Ans (rd s) k d p r):qbx k->p<=s.size->∀ t q,r=.ok t q->p<=q/\q<=s.size:=by
 induction h with
 | altsOk _ _ ih1 ih2 =>
  intro _ hp t q e
  have h1:=ih1 trivial hp _ _ rfl
  have h2:=ih2 trivial h1.2 t q e
  omega
 | altsErr=>intro _ _ t q e;cases e
 | moreEnd=>intro _ hp t q e;cases e;omega
 | moreOk h1 _ _ ih1 ih2 =>
  intro _ hp t q e
  have hlt:=zbu (by omega) h1
  have hs:=zdo (s:=s) (p:=_+1) hlt
  have h1:=ih1 trivial hs.2.2 _ _ rfl
  have h2:=ih2 trivial h1.2 t q e
  omega
 | moreErr=>intro _ _ t q e;cases e
 | concOk _ _ ih1 ih2 =>
  intro _ hp t q e
  have h1:=ih1 trivial hp _ _ rfl
  have h2:=ih2 trivial h1.2 t q e
  omega
 | concErr=>intro _ _ t q e;cases e
 | cmoreEnd =>
  intro _ hp t q e
  cases e
  exact (zdo hp).2
 | cmoreOk h1 _ _ ih1 ih2 =>
  intro _ hp t q e
  have hs:=zdo hp
  have h1:=ih1 trivial hs.2.2 _ _ rfl
  have h2:=ih2 trivial h1.2 t q e
  omega
 | cmoreErr=>intro _ _ t q e;cases e
 | repCount=>intro _ _ t q e;cases e
 | repErr=>intro _ _ t q e;cases e
 | repBare hc _ ih =>
  intro _ hp t q e
  have h1:=zi0 hp hc
  have h2:=ih trivial h1.2 t q e
  omega
 | repLess=>intro _ _ t q e;cases e
 | repOk hc _ _ ih =>
  intro _ hp t q e
  have h1:=zi0 hp hc
  cases e
  have h2:=ih trivial h1.2 _ _ rfl
  omega
 | nameOk _ hn=>intro _ hp t q e;cases e;exact zem hp hn
 | nameErr=>intro _ _ t q e;cases e
 | deep=>intro _ _ t q e;cases e
 | inErr=>intro _ _ t q e;cases e
 | inOpen=>intro _ _ t q e;cases e
 | round h1 _ _ h4 ih =>
  intro _ hp t q e
  cases e
  have hlt:=zbu (by omega) h1
  have hs:=zdo (s:=s) (p:=_+1) hlt
  have h2:=ih trivial hs.2.2 _ _ rfl
  have hlt4:=zbu (by omega) h4
  omega
 | square h1 _ _ h4 ih =>
  intro _ hp t q e
  cases e
  have hlt:=zbu (by omega) h1
  have hs:=zdo (s:=s) (p:=_+1) hlt
  have h2:=ih trivial hs.2.2 _ _ rfl
  have hlt4:=zbu (by omega) h4
  omega
 | quoteOk _ hq=>intro _ hp t q e;cases e;have:=zf7 hq;omega
 | quoteErr=>intro _ _ t q e;cases e
 | litOk _ _ hq=>intro _ hp t q e;cases e;have:=zf7 hq;omega
 | litErr=>intro _ _ t q e;cases e
 | @value d0 p0 b0 r0 h1 hk hn ih =>
  intro _ hp t q e
  have hb:=zq0 hk
  have hlt:=zbu (by omega) h1
  by_cases h2:p0+1<s.size
  ·have:=ih (show b0<=16 by omega) h2 t q e
   omega
  ·exfalso
   rw [zbz h2] at hk
   unfold zc0 at hk
   simp at hk
 | valueNo=>intro _ _ t q e;cases e
 | no=>intro _ _ t q e;cases e
 | numsErr=>intro _ _ t q e;cases e
 | spanErr=>intro _ _ t q e;cases e
 | spanLess=>intro _ _ t q e;cases e
 | span h1 h2 h3 h4 =>
  intro hg hp t q e
  cases e
  have g1:=zet hg hp h1
  have hlt:=zbu (by omega) h2
  have g2:=zet hg hlt h3
  omega
 | nums h1 h2 _ ih =>
  intro hg hp t q e
  have g1:=zet hg hp h1
  have g2:=ih hg g1.2 t q e
  omega
 | dotsEnd=>intro _ hp t q e;cases e;omega
 | dotsErr=>intro _ _ t q e;cases e
 | dotsOk h1 h2 _ ih =>
  intro hg hp t q e
  have hlt:=zbu (by omega) h1
  have g1:=zet hg hlt h2
  have g2:=ih hg g1.2 t q e
  omega
theorem zvq {s:ByteArray} {q:Nat}:isRp (nx (rd s) q)=isRp (rd s q):=by
 by_cases g:q<s.size
 ·rw [zmt g,<- zes g]
 ·rw [zil g,zbz g];decide
inductive InBr (f:Nat->Int) (d p:Nat) (cl:Int):Got Tree->Prop
 | deep:d=50->InBr f d p cl (.err 2)
 | err {c:Int}:d<50->Ans f .alts (d+1) (zad f (p+1)) (.err c)->InBr f d p cl (.err c)
 | opened {t:Tree} {q:Nat}:d<50->Ans f .alts (d+1) (zad f (p+1)) (.ok t q)->f q≠cl->InBr f d p cl (.err 20)
 | ok {t:Tree} {q:Nat}:d<50->Ans f .alts (d+1) (zad f (p+1)) (.ok t q)->f q=cl->InBr f d p cl (.ok t (q+1))
theorem zdh {W:World} {g R k:Nat} {v:Value} (hr:Res0 W g) (hne:g≠R):Res0 (W.setCell ⟨R,k,none⟩ v) g:=hr.kept (Below.heap_setCell _ _ _ _ hne)
theorem TreeAt.cell {W:World} {P:Nat->Prop} {x:XV} {t:Tree} {R k:Nat} {v:Value} (h:TreeAt W P x t) (hR:∀ b,P b->b≠R):TreeAt (W.setCell ⟨R,k,none⟩ v) P x t :=
 h.kept (fun b hP hl=>⟨Below.heap_setCell _ _ _ _ (hR b hP),hP⟩) (by simp)
theorem zmz {f:Nat->Int} {d p:Nat} {r:Got Tree} (h:f p=40) (hb:InBr f d p 41 r):Ans f .elem d p r:=by
 cases hb with
 | deep e=>exact .deep (.inl h) e
 | err hd ha=>exact .inErr (.inl h) hd ha
 | opened hd ha hc=>exact .inOpen (.inl h) hd ha (by rw [if_pos h];exact hc)
 | ok hd ha hc=>exact .round h hd ha hc
theorem zh6 {f:Nat->Int} {d p:Nat} {c:Int} (h:f p=91) (hb:InBr f d p 93 (.err c)):Ans f .elem d p (.err c):=by
 cases hb with
 | deep e=>exact .deep (.inr h) e
 | err hd ha=>exact .inErr (.inr h) hd ha
 | opened hd ha hc=>exact .inOpen (.inr h) hd ha (by rw [if_neg (by omega)];exact hc)
theorem zim {f:Nat->Int} {d p q:Nat} {t:Tree} (h:f p=91) (hb:InBr f d p 93 (.ok t q)):Ans f .elem d p (.ok (repT 0 1 t) q):=by
 cases hb with
 | ok hd ha hc=>exact .square h hd ha hc
theorem zen {s:ByteArray} {p q:Nat} {x:List Int} (h:zb2 (rd s) p=.ok x q):(∀ c∈x,0<=c/\c<128)/\x.length<=s.size:=by
 unfold zb2 at h
 split at h
 ·rename_i h1
  have hlt:=zbu (by omega) h1
  obtain ⟨hr,hq⟩:=zg0 (P:=isSt) (by decide) (s:=s) (p:=p+1) (by omega)
  split at h
  ·cases h
   exact ⟨zk2 zrf hr,by rw [zk1];omega⟩
  ·cases h
 ·cases h
theorem zh7 {s:ByteArray} {p:Nat} {c:Int} (hc:0<c) (h:rd s p=c):nx (rd s) p=c:=(zfz hc).2 h
theorem zq1 {s:ByteArray} {p:Nat} (h:∀ c,(c=105\/c=73\/c=115\/c=83\/c=98\/c=66\/c=100\/c=68\/c=120\/c=88)->rd s p≠c):zc0 (rd s p)=.none:=by
 unfold zc0
 have h1:=h 105 (by omega)
 have h2:=h 73 (by omega)
 have h3:=h 115 (by omega)
 have h4:=h 83 (by omega)
 have h5:=h 98 (by omega)
 have h6:=h 66 (by omega)
 have h7:=h 100 (by omega)
 have h8:=h 68 (by omega)
 have h9:=h 120 (by omega)
 have h10:=h 88 (by omega)
 simp [h1,h2,h3,h4,h5,h6,h7,h8,h9,h10]
theorem qby:(Tryz.prog.info? 37).map (·.size)=some 8:=by kernel_rfl
def zcn (W:World) (g:Nat) (cs:Array Value):Prop:=W.heap[g]?=some (.cells cs 37 (0,0))/\cs.size=8
theorem zcn.lt {W:World} {g:Nat} {cs:Array Value} (h:zcn W g cs):g<W.heap.size:=(Array.getElem?_eq_some_iff.1 h.1).1
theorem zcn.keep {W W':World} {g:Nat} {cs:Array Value} (h:zcn W g cs) (hk:W'.heap[g]?=W.heap[g]?):zcn W' g cs:=⟨hk.trans h.1,h.2⟩
theorem zcn.grown {W W':World} {g R:Nat} {cs:Array Value} (h:zcn W g cs) (hg:W.grownBy W' (some R)) (hne:g≠R):zcn W' g cs:=h.keep (hg.block g h.lt (fun e=>hne (Option.some.inj e)))
theorem zcn.set {W:World} {g j:Nat} {cs:Array Value} (h:zcn W g cs) (v:Value):zcn (W.setCell ⟨g,j,none⟩ v) g (cs.setIfInBounds j v) :=
 ⟨by rw [setCell_eq_setRow _ _ _ _ _ _ _ h.1];exact setRow_heap _ _ _ _ _ _ h.1,by rw [Array.size_setIfInBounds];exact h.2⟩
theorem zcn.other {W:World} {g k j:Nat} {cs:Array Value} (h:zcn W g cs) (v:Value) (hne:g≠k):zcn (W.setCell ⟨k,j,none⟩ v) g cs:=h.keep (Below.heap_setCell _ _ _ _ hne)
theorem zcn.row {W:World} {g:Nat} {cs:Array Value} (h:zcn W g cs) (cs':Array Value) (hs:cs'.size=8):zcn (W.setRow g cs') g cs':=⟨setRow_heap _ _ _ _ _ _ h.1,hs⟩
theorem zcn.orow {W:World} {g k:Nat} {cs:Array Value} (h:zcn W g cs) (cs':Array Value) (hne:g≠k):zcn (W.setRow k cs') g cs:=h.keep (setRow_other _ _ _ _ hne)
theorem zcn.cell {W:World} {g:Nat} {cs:Array Value} (h:zcn W g cs) (j:Nat) (v:Value) (hj:cs[j]?=some v):W.cell? ⟨g,j,none⟩=some v/\W.frozen? ⟨g,j,none⟩=false:=by
 constructor
 ·simp only [World.cell?,h.1];exact hj
 ·simp [World.frozen?,h.1]
theorem zlm (g:Nat):∀ (vs:List Value) (i:Nat),storeCells ⟨g,2,none⟩ vs i=storeCells ⟨g,0,none⟩ vs (2+i)
 | [],_=>rfl
 | v::rest,i=>by
  have e:(⟨g,2,none⟩:Addr).add i=(⟨g,0,none⟩:Addr).add (2+i):=by
   unfold Addr.add
   by_cases h:i=0
   ·subst h;simp
   ·simp [h]
  unfold storeCells
  rw [e,zlm g rest (i+1)]
  rfl
theorem zef {ops:Array Oper} {rest:List Oper} {o:Oper} {a:Act} {w:World} {Q:Exit->Act->World->Prop} (hgd:o.guard=none) (x y:Operand) (ho:o.op=.store 35 x y)
  (g:Nat) (X:XV) (cs:Array Value) (n m:Value) (hx:a.eval x=.pointer (some ⟨g,2,none⟩)) (hy:a.eval y=X.val) (hg:zcn w g cs) (hcs:cs.toList.take 2=[n,m]) (h1:X.ns.oneCell'=true) (h2:X.ks.oneCell'=true)
  (h:wpList Tryz.prog ops Q rest (a.put o.dst undef) (w.setRow g #[n,m,.int .i64 X.kind,.string X.text,X.ns,.int .i64 X.lo,.int .i64 X.hi,X.ks])):wpList Tryz.prog ops Q (o::rest) a w:=by
 have hrun:(storeVar 35 ⟨g,2,none⟩ X.val).run Tryz.prog w=.ok () (w.setRow g #[n,m,.int .i64 X.kind,.string X.text,X.ns,.int .i64 X.lo,.int .i64 X.hi,X.ks]):=by
  have h3:=run_storeCells_from (P:=Tryz.prog) g 37 X.cells 2 cs w hg.1 (by rw [hg.2];rfl) (by
   intro u hu
   simp [XV.cells] at hu
   rcases hu with rfl | rfl | rfl | rfl | rfl | rfl
   all_goals first | rfl | assumption)
  rw [hcs] at h3
  cases hq:Tryz.prog.info? 35 with
  | none=>have:=zt1;rw [hq] at this;cases this
  | some i =>
   have hs:i.size=6:=by have:=zt1;rw [hq] at this;simpa using this
   have hc:=zlm g X.cells 0
   simp [storeVar,sizeOf,typeInfo,hq,XV.val,Value.cells,hs]
   exact (congrArg (fun m=>Sem.run Tryz.prog m w) hc).trans h3
 refine wpList_plain hgd fun K hK=>?_
 unfold Oper.wp execOp
 simp only [ho,hx,hy,Instr.storeAt,Instr.sureAddr,Sem.run_bind,Sem.run_pure,Result.andThen_ok,hrun]
 exact hK _ _ h
theorem zd5 {ops:Array Oper} {rest:List Oper} {o:Oper} {a:Act} {w:World} {Q:Exit->Act->World->Prop} (hgd:o.guard=none) (x:Operand) (ho:o.op=.load 37 x)
  (g:Nat) (y:LV) (hx:a.eval x=.pointer (some ⟨g,0,none⟩)) (hg:zcn w g y.arr)
  (h:wpList Tryz.prog ops Q rest (a.put o.dst y.val) w):wpList Tryz.prog ops Q (o::rest) a w :=
 wpList_load_row hgd 37 x ho g hx 37 y.arr (0,0) _ hg.1 Tryz.underlying37 rfl qby h
theorem zck {ops:Array Oper} {rest:List Oper} {o:Oper} {a:Act} {w:World} {Q:Exit->Act->World->Prop} (hgd:o.guard=none) (x z:Operand) (ho:o.op=.store 37 x z)
  (g:Nat) (y:LV) (cs:Array Value) (hx:a.eval x=.pointer (some ⟨g,0,none⟩)) (hy:a.eval z=y.val) (hg:zcn w g cs) (h1:y.expr.ns.oneCell'=true) (h2:y.expr.ks.oneCell'=true)
  (h:wpList Tryz.prog ops Q rest (a.put o.dst undef) (w.setRow g y.arr)):wpList Tryz.prog ops Q (o::rest) a w :=
 wpList_store_row hgd 37 x z ho g y.arr hx hy 37 cs hg.1 qby (by rw [hg.2];rfl) (by simp [LV.arr,h1,h2];exact ⟨rfl,rfl,rfl,rfl,rfl,rfl⟩) h
theorem zds {fn:Func} {p:Tmp} (h:fn.results=#[.cell p 37]) (tmps:Array Value) (w:World) (g:Nat) (y:LV) (cs:Array Value) (hp:tmps.getD p undef=.pointer (some ⟨g,0,none⟩)) (hg:zcn w g cs) :
  (results fn tmps).run Tryz.prog (w.setRow g y.arr)=.ok y.val (w.setRow g y.arr) :=
 results_cell_row h tmps _ g 37 y.arr (0,0) _ hp (setRow_heap _ _ _ _ _ _ hg.1) Tryz.underlying37 rfl qby
def zvr:Array Value:=#[.string ⟨#[]⟩,.bool false,.int .i64 0,.string ⟨#[]⟩,.slice none 0 0,.int .i64 0,.int .i64 0,.slice none 0 0]
theorem zh8 (w:World):zcn (w.alloc (.cells #[.string ⟨#[]⟩,.bool false,.int .i64 0,.string ⟨#[]⟩,.slice none 0 0,.int .i64 0,.int .i64 0,.slice none 0 0] 37)) w.heap.size zvr:=⟨heap_alloc_new w _,rfl⟩
theorem zln {W:World} {g:Nat} {cs:Array Value} (h:zcn W g cs) (o:Obj):zcn (W.alloc o) g cs:=h.keep (Below.heap_alloc W o g h.lt)
theorem zcn.under {W W':World} {g:Nat} {cs:Array Value} (h:zcn W g cs) (hb:Below W.heap.size W W'):zcn W' g cs:=h.keep (hb.block g h.lt)
theorem zlp {x:List Int} (m:Bool):(((zvr.setIfInBounds 0 (.string (za3 x))).setIfInBounds 1 (.bool m)).toList.take 2)=[.string (za3 x),.bool m]:=rfl
theorem qdg:(Tryz.prog.info? 37).map (fun i=>(i.zero,i.size,i.bytes))=some (some (.agg #[.string ⟨#[]⟩,.bool false,.int .i64 0,.string ⟨#[]⟩,.slice none 0 0,.int .i64 0,.int .i64 0,.slice none 0 0]),8,112):=by kernel_rfl
theorem zvs (y:LV) (h1:y.expr.ns.oneCell'=true) (h2:y.expr.ks.oneCell'=true) :
  Instr.fill (fun i=>some (i*8,8)) ((Array.range (1*8)).map ((Value.agg #[.string ⟨#[]⟩,.bool false,.int .i64 0,.string ⟨#[]⟩,.slice none 0 0,.int .i64 0,.int .i64 0,.slice none 0 0]).cells[·%8]!)) [(0,y.val)]=some y.arr:=by
 obtain ⟨a,b,c⟩:=y
 cases c
 kernel_rfl
theorem zlq {ops:Array Oper} {rest:List Oper} {o:Oper} {a:Act} {w:World} {Q:Exit->Act->World->Prop} (hgd:o.guard=none) (z:Operand) (ho:o.op=.buildSlice 22 1 #[(0,z)])
  (y:LV) (hy:a.eval z=y.val) (h1:y.expr.ns.oneCell'=true) (h2:y.expr.ks.oneCell'=true)
  (h:wpList Tryz.prog ops Q rest (a.put o.dst (.slice (some ⟨w.heap.size,0,none⟩) 1 1)) (w.alloc (.cells y.arr 37))):wpList Tryz.prog ops Q (o::rest) a w:=by
 obtain ⟨i0,hi0,hi1⟩:=Option.map_eq_some_iff.1 qdg
 obtain ⟨hz0,hz1,hz2⟩:i0.zero=some _/\i0.size=8/\i0.bytes=_:=by simpa using hi1
 refine wpList_buildSlice hgd 22 37 1 #[(0,z)] ho y.arr i0 _ Tryz.underlying22 hi0 hz0 (by rw [hz1];decide) (by rw [hz1];decide) ?_ h
 rw [hz1]
 simp only [List.map_toArray,List.map_cons,List.map_nil,hy]
 exact zvs y h1 h2
theorem zl1 {w:World} {g:Nat} {y:LV} (hb:w.heap[g]?=some (.cells y.arr 37 (0,0))):∀ (j:Nat) (u:Value),y.cells[j]?=some u->w.cell? ((⟨g,0,none⟩:Addr).add j)=some u:=by
 intro j u hj
 have e:(⟨g,0,none⟩:Addr).add j=⟨g,j,none⟩:=by cases j<;>simp [Addr.add]
 rw [e]
 simp only [World.cell?,hb]
 have:y.arr.toList=y.cells:=rfl
 rw [<- this] at hj
 simpa using hj
theorem zlr {ops:Array Oper} {rest:List Oper} {o:Oper} {a:Act} {w:World} {Q:Exit->Act->World->Prop} (hgd:o.guard=none) (sx xx:Operand)
  (ho:o.op=.call { callee:=.builtin .append,args:=#[sx,xx],argTypes:=#[22,22] }) (base:Nat) (v:Value) (l:List Rule) (t:Rule) (x:LV) (g:Nat)
  (hs:a.eval sx=v) (hx:a.eval xx=.slice (some ⟨g,0,none⟩) 1 1) (hk:zb4 w base v l) (ht:zej w (fun b=>base<=b/\some b≠v.ownBlock) x t)
  (hb:w.heap[g]?=some (.cells x.arr 37 (0,0))) (hl:l.length<=100000) (hbase:base<=w.heap.size)
  (h:∀ v' w',zb4 w' base v' (l++[t])->w.grownBy w' v.ownBlock->wpList Tryz.prog ops Q rest (a.put o.dst v') w'):wpList Tryz.prog ops Q (o::rest) a w:=by
 obtain ⟨i0,hi0,hi1⟩:=Option.map_eq_some_iff.1 qdg
 obtain ⟨hz0,hz1,hz2⟩:i0.zero=some _/\i0.size=8/\i0.bytes=_:=by simpa using hi1
 obtain ⟨vs,h1,h2,h3⟩:=hk
 have o2:=zaa ht.2.2
 have o5:=zab ht.2.2
 refine wpList_append_own_at _ hgd sx xx 22 ho base 37 i0 _ 8 112 Tryz.underlying22 hi0 hz0 hz1 hz2 rfl (by decide) v l.length (vs.flatMap LV.cells) hs h2 ⟨g,0,none⟩ 1 1 x.cells hx rfl (zl1 hb) ?_ (by unfold maxLen;omega) (by omega) hbase ?_
 ·intro u hu
  simp [LV.cells] at hu
  rcases hu with rfl | rfl | rfl | rfl | rfl | rfl | rfl | rfl
  all_goals first | rfl | assumption
 ·intro v' w' hown hgrow _ hat
  exact h v' w' (zb4.push h1 h2 h3 ht hown hgrow (hat.imp id (fun e=>⟨_,e,Nat.le_refl _⟩))) hgrow
theorem zq2 {W w w':World} {base R:Nat} {v:Value} {l:List Rule} (hk:zb4 w base v l) (h:W.grownBy w (some R)) (hg:w.grownBy w' v.ownBlock) (hW:W.heap.size<=base):W.grownBy w' (some R):=by
 obtain ⟨vs,_,h2,_⟩:=hk
 rcases zan h2 with ⟨rfl,_⟩ | ⟨g,cap,rfl⟩
 ·exact h.trans ⟨hg.os,hg.tape,hg.output,hg.size,fun k hk _=>hg.block k hk (by simp [Value.ownBlock])⟩
 ·have hb:=(zb0 h2).1
  exact zh2 h hg (show W.heap.size<=g by omega)
theorem zo8 {w w1:World} {base:Nat} {v:Value} {l:List Rule} {x:LV} {t:Rule} (hk:zb4 w base v l) (ht:zej w1 (fun b=>w.heap.size<=b) x t) (hb:base<=w.heap.size):zej w1 (fun b=>base<=b/\some b≠v.ownBlock) x t:=by
 obtain ⟨vs,_,h2,_⟩:=hk
 refine ht.kept (fun b hP _=>⟨rfl,by omega,fun e=>?_⟩) (Nat.le_refl _)
 rcases zan h2 with ⟨rfl,_⟩ | ⟨k,cap,rfl⟩
 ·simp [Value.ownBlock] at e
 ·have hb:=(zb0 h2).2.2.2
  have:=Option.some.inj e
  simp at this
  omega
theorem qax {s:ByteArray} {p e:Nat} (hp:p<s.size) (h:zas (rd s) p=some e):p<e:=by
 have h1:=zda (by omega) h
 by_cases hpe:p<e
 ·exact hpe
 ·have he:e=p:=by omega
  subst he
  exfalso
  have hc:=qaw (s:=s) (p:=e) (by omega)
  unfold zas at h
  split at h
  ·rename_i h0
   have h2:zbm (rd s) e=e:=by have:=Option.some.inj h;omega
   rw [h2,zes hp] at h0
   omega
  ·split at h
   ·have:=Option.some.inj h;omega
   ·split at h
    ·have:=Option.some.inj h;omega
    ·cases h
theorem zt7 {s:ByteArray} {p q:Nat} {x:Rule} (hp:p<=s.size) (h:RuleAt (rd s) p (.ok x q)):p+1<=q/\q<=s.size/\(isAl (rd s p)=true->p+2<=q):=by
 cases h with
 | ok hn h61 ha he =>
  rename_i q1 q2 x0 t0
  have h1:=zem hp hn
  have h2:=zdo h1.2
  have hlt:=zbu (by omega) h61
  have h3:zad (rd s) q1+1<=eqAt (rd s) q1/\eqAt (rd s) q1<=s.size:=by
   unfold eqAt
   split
   ·rename_i h47
    have:=zbu (by omega) h47
    omega
   ·omega
  have h4:=zdo h3.2
  have h5:=ha.bound trivial h4.2.2 _ _ rfl
  have h6:=zda h5.2 he
  refine ⟨by omega,by omega,fun hal=>?_⟩
  have h7:p+1<=q1:=by
   obtain ⟨hr,hq⟩:=zg0 (P:=isNm) (by decide) hp
   unfold zcc at hn
   split at hn
   ·cases hn
   ·cases hn
    have hle:=hr.le
    by_cases g:p+1<=zbp isNm (rd s) p
    ·exact g
    ·have e:zbp isNm (rd s) p=p:=by omega
     have hst:=hr.stop
     rw [e] at hst
     have:isNm (rd s p)=true:=by unfold isNm;simp [hal]
     rw [this] at hst
     cases hst
  omega
theorem zk5 {W:World} {base:Nat} {v:Value} {l:List Rule} (h:zb4 W base v l):(v=.slice none 0 0/\l.length=0)\/∃ g cap,v=.slice (some ⟨g,0,none⟩) l.length cap:=by
 obtain ⟨vs,_,h2,_⟩:=h
 exact zan h2
def Caught (B g0 g1:Nat) (c:Int) (w w':World):Prop:=w'.cell? ⟨g0,0,none⟩=some (.slice none 0 0)/\w'.cell? ⟨g1,0,none⟩=some (.int .i64 c)/\Below B w w'
theorem zgg {w:World} {g h:Nat} {x:Value} (hne:g≠h) (v:Value) (hc:w.cell? ⟨h,0,none⟩=some x):((w.drew).setCell ⟨g,0,none⟩ v).cell? ⟨h,0,none⟩=some x:=by
 rw [World.cell?_setCell_other _ _ _ _ (fun e=>hne (by injection e))]
 exact hc
theorem zgh {w:World} {g:Nat} {x:Value} (v:Value) (hc:w.cell? ⟨g,0,none⟩=some x):(w.setCell ⟨g,0,none⟩ v).cell? ⟨g,0,none⟩=some v:=by
 obtain ⟨o,ho⟩:∃ o,w.heap[g]?=some o:=by
  cases h:w.heap[g]? with
  | some o=>exact ⟨o,rfl⟩
  | none=>simp [World.cell?,h] at hc
 cases o with
 | cells cs t fr =>
  have hs:0<cs.size:=by
   simp only [World.cell?,ho] at hc
   exact (Array.getElem?_eq_some_iff.1 hc).1
  rw [setCell_eq_setRow _ _ _ _ _ _ _ ho,cell_setRow_same _ _ _ _ _ _ _ ho]
  simp [hs]
 | _=>simp [World.cell?,ho] at hc
theorem zz6 {w:World} {B g0 g1:Nat} {x y:Value} {c:Int} (hne:g0≠g1) (hb0:B<=g0) (hb1:B<=g1) (h0:w.cell? ⟨g0,0,none⟩=some x) (h1:w.cell? ⟨g1,0,none⟩=some y) :
  Caught B g0 g1 c w ((w.drew.setCell ⟨g0,0,none⟩ (.slice none 0 0)).setCell ⟨g1,0,none⟩ (.int .i64 c)) :=
 ⟨by rw [World.cell?_setCell_other _ _ _ _ (fun e=>hne (by injection e with e;exact e.symm))];exact zgh (w:=w.drew) _ h0,zgh _ (zgg hne _ h1),((Below.refl _ _).drew.setCell hb0 _).setCell hb1 _⟩
theorem zz7 {w:World} {B g0 g1:Nat} {x y:Value} {c:Int} (hne:g0≠g1) (hb0:B<=g0) (hb1:B<=g1) (h0:w.cell? ⟨g0,0,none⟩=some x) (h1:w.cell? ⟨g1,0,none⟩=some y) :
  Caught B g0 g1 c w ((w.drew.setCell ⟨g1,0,none⟩ (.int .i64 c)).setCell ⟨g0,0,none⟩ (.slice none 0 0)) :=
 ⟨zgh _ (zgg (fun e=>hne e.symm) _ h0),by rw [World.cell?_setCell_other _ _ _ _ (fun e=>hne (by injection e))];exact zgh (w:=w.drew) _ h1,((Below.refl _ _).drew.setCell hb1 _).setCell hb0 _⟩
theorem zb4.base {W:World} {base base':Nat} {v:Value} {l:List Rule} (h:zb4 W base v l) (hb:base'<=base):zb4 W base' v l:=by
 obtain ⟨vs,h1,h2,h3⟩:=h
 exact ⟨vs,h1,zy2 h2 hb,fun i y r hy hr=>(h3 i y r hy hr).kept (fun b hP _=>⟨rfl,by omega,hP.2⟩) (Nat.le_refl _)⟩
def zeo (s:ByteArray) (r:Got (List Rule)):Prop:=if 50000<s.size then r=.err 2 else Rules (rd s) [] 0 r
def zo9 (s:ByteArray) (w:World) (e:Ending) (w':World):Prop :=
 ∃ r:Got (List Rule),zeo s r/\Below w.heap.size w w'/\match r with
  | .ok l _=>∃ v,e=.returned (.tuple #[v,.int .i64 0])/\zb4 w' w.heap.size v l
  | .err c=>e=.returned (.tuple #[.slice none 0 0,.int .i64 c])
theorem zdi {c:Int} (h:isAl c=true):c≠40/\c≠91/\c≠34/\c≠37:=by
 unfold isAl at h
 simp at h
 omega
theorem Ans.one {f:Nat->Int} {k:Ask} {d p:Nat} {r:Got Tree} (h:Ans f k d p r):∀ r',Ans f k d p r'->r=r':=by
 induction h with
 | altsOk _ _ ih1 ih2=>intro r' h';cases h' with | altsOk a b=>cases ih1 _ a;exact ih2 _ b | altsErr a=>cases ih1 _ a
 | altsErr _ ih=>intro r' h';cases h' with | altsOk a b=>cases ih _ a | altsErr a=>exact ih _ a
 | moreEnd h=>intro r' h';cases h' with | moreEnd=>rfl | moreOk e=>exact absurd e h | moreErr e=>exact absurd e h
 | moreOk h _ _ ih1 ih2=>intro r' h';cases h' with | moreEnd e=>exact absurd h e | moreOk _ a b=>cases ih1 _ a;exact ih2 _ b | moreErr _ a=>cases ih1 _ a
 | moreErr h _ ih=>intro r' h';cases h' with | moreEnd e=>exact absurd h e | moreOk _ a b=>cases ih _ a | moreErr _ a=>exact ih _ a
 | concOk _ _ ih1 ih2=>intro r' h';cases h' with | concOk a b=>cases ih1 _ a;exact ih2 _ b | concErr a=>cases ih1 _ a
 | concErr _ ih=>intro r' h';cases h' with | concOk a b=>cases ih _ a | concErr a=>exact ih _ a
 | cmoreEnd h=>intro r' h';cases h' with | cmoreEnd=>rfl | cmoreOk e=>exact absurd e h | cmoreErr e=>exact absurd e h
 | cmoreOk h _ _ ih1 ih2=>intro r' h';cases h' with | cmoreEnd e=>exact absurd h e | cmoreOk _ a b=>cases ih1 _ a;exact ih2 _ b | cmoreErr _ a=>cases ih1 _ a
 | cmoreErr h _ ih=>intro r' h';cases h' with | cmoreEnd e=>exact absurd h e | cmoreOk _ a b=>cases ih _ a | cmoreErr _ a=>exact ih _ a
 | repCount h=>intro r' h';cases h' with
  | repCount e=>rw [h] at e;cases e;rfl
  | repErr e _=>rw [h] at e;cases e
  | repBare e _=>rw [h] at e;cases e
  | repLess e _ _=>rw [h] at e;cases e
  | repOk e _ _=>rw [h] at e;cases e
 | repErr h _ ih=>intro r' h';cases h' with
  | repCount e=>rw [h] at e;cases e
  | repErr e a=>rw [h] at e;cases e;exact ih _ a
  | repBare e a=>rw [h] at e;cases e;cases ih _ a
  | repLess e a _=>rw [h] at e;cases e;cases ih _ a
  | repOk e a _=>rw [h] at e;cases e;cases ih _ a
 | repBare h _ ih=>intro r' h';cases h' with
  | repCount e=>rw [h] at e;cases e
  | repErr e a=>rw [h] at e;cases e;cases ih _ a
  | repBare e a=>rw [h] at e;cases e;exact ih _ a
  | repLess e a _=>rw [h] at e;cases e
  | repOk e a _=>rw [h] at e;cases e
 | repLess h _ hb ih=>intro r' h';cases h' with
  | repCount e=>rw [h] at e;cases e
  | repErr e a=>rw [h] at e;cases e;cases ih _ a
  | repBare e a=>rw [h] at e;cases e
  | repLess e a _=>rfl
  | repOk e a n=>rw [h] at e;cases e;exact absurd hb n
 | repOk h _ hb ih=>intro r' h';cases h' with
  | repCount e=>rw [h] at e;cases e
  | repErr e a=>rw [h] at e;cases e;cases ih _ a
  | repBare e a=>rw [h] at e;cases e
  | repLess e a n=>rw [h] at e;cases e;exact absurd n hb
  | repOk e a n=>rw [h] at e;cases e;cases ih _ a;rfl
 | nameOk h1 h2=>intro r' h';have hne:=zdi h1;cases h'<;>first | rfl | (exfalso;omega) | grind
 | nameErr h1 h2=>intro r' h';have hne:=zdi h1;cases h'<;>first | rfl | (exfalso;omega) | grind
 | deep h1 h2=>intro r' h';cases h'<;>first | rfl | (exfalso;omega) | (have hne:=zdi ‹_›;exfalso;omega) | grind
 | inErr h1 h2 _ ih=>intro r' h';cases h'<;>first | (exfalso;omega) | (have hne:=zdi ‹_›;exfalso;omega) | (exact ih _ ‹_›) | (cases ih _ ‹_›;done) | grind
 | inOpen h1 h2 _ h4 ih=>intro r' h';cases h'<;>first | rfl | (exfalso;omega) | (have hne:=zdi ‹_›;exfalso;omega) | (cases ih _ ‹_›;done) | grind
 | round h1 h2 _ h4 ih=>intro r' h';cases h'<;>first | (exfalso;omega) | (have hne:=zdi ‹_›;exfalso;omega) | (cases ih _ ‹_›;done) | (cases ih _ ‹_›;rfl) | grind
 | square h1 h2 _ h4 ih=>intro r' h';cases h'<;>first | (exfalso;omega) | (have hne:=zdi ‹_›;exfalso;omega) | (cases ih _ ‹_›;done) | (cases ih _ ‹_›;rfl) | grind
 | quoteOk h1 h2=>intro r' h';cases h'<;>first | (exfalso;omega) | (have hne:=zdi ‹_›;exfalso;omega) | grind
 | quoteErr h1 h2=>intro r' h';cases h'<;>first | (exfalso;omega) | (have hne:=zdi ‹_›;exfalso;omega) | grind
 | litOk h1 h2 h3=>intro r' h';cases h'<;>first | (exfalso;omega) | (have hne:=zdi ‹_›;exfalso;omega) | grind
 | litErr h1 h2 h3=>intro r' h';cases h'<;>first | (exfalso;omega) | (have hne:=zdi ‹_›;exfalso;omega) | grind
 | value h1 h2 _ ih=>intro r' h';cases h' with
  | value _ e a=>rw [h2] at e;cases e;exact ih _ a
  | litOk _ e _=>rw [h2] at e;cases e
  | litErr _ e _=>rw [h2] at e;cases e
  | valueNo _ e=>rw [h2] at e;cases e
  | nameOk e _=>have:=zdi e;omega
  | nameErr e _=>have:=zdi e;omega
  | _=>exfalso;omega
 | valueNo h1 h2=>intro r' h';cases h'<;>first | rfl | (exfalso;omega) | (have hne:=zdi ‹_›;exfalso;omega) | grind
 | no h1 h2 h3 h4 h5=>intro r' h';cases h'<;>first | rfl | (exfalso;omega) | grind
 | numsErr h=>intro r' h';cases h' with
  | numsErr e=>rw [h] at e;cases e;rfl
  | spanErr e _ _=>rw [h] at e;cases e
  | spanLess e _ _ _=>rw [h] at e;cases e
  | span e _ _ _=>rw [h] at e;cases e
  | nums e _ _=>rw [h] at e;cases e
 | spanErr h h2 h3=>intro r' h';cases h' with
  | numsErr e=>rw [h] at e;cases e
  | spanErr e _ e3=>rw [h] at e;cases e;rw [h3] at e3;cases e3;rfl
  | spanLess e _ e3 _=>rw [h] at e;cases e;rw [h3] at e3;cases e3
  | span e _ e3 _=>rw [h] at e;cases e;rw [h3] at e3;cases e3
  | nums e e2 _=>rw [h] at e;cases e;exact absurd h2 e2
 | spanLess h h2 h3 h4=>intro r' h';cases h' with
  | numsErr e=>rw [h] at e;cases e
  | spanErr e _ e3=>rw [h] at e;cases e;rw [h3] at e3;cases e3
  | spanLess e _ e3 _=>rfl
  | span e _ e3 e4=>rw [h] at e;cases e;rw [h3] at e3;cases e3;exact absurd h4 e4
  | nums e e2 _=>rw [h] at e;cases e;exact absurd h2 e2
 | span h h2 h3 h4=>intro r' h';cases h' with
  | numsErr e=>rw [h] at e;cases e
  | spanErr e _ e3=>rw [h] at e;cases e;rw [h3] at e3;cases e3
  | spanLess e _ e3 e4=>rw [h] at e;cases e;rw [h3] at e3;cases e3;exact absurd e4 h4
  | span e _ e3 e4=>rw [h] at e;cases e;rw [h3] at e3;cases e3;rfl
  | nums e e2 _=>rw [h] at e;cases e;exact absurd h2 e2
 | nums h h2 _ ih=>intro r' h';cases h' with
  | numsErr e=>rw [h] at e;cases e
  | spanErr e e2 e3=>rw [h] at e;cases e;exact absurd e2 h2
  | spanLess e e2 e3 e4=>rw [h] at e;cases e;exact absurd e2 h2
  | span e e2 e3 e4=>rw [h] at e;cases e;exact absurd e2 h2
  | nums e e2 a=>rw [h] at e;cases e;exact ih _ a
 | dotsEnd h=>intro r' h';cases h' with | dotsEnd=>rfl | dotsErr e _=>exact absurd e h | dotsOk e _ _=>exact absurd e h
 | dotsErr h h2=>intro r' h';cases h' with
  | dotsEnd e=>exact absurd h e
  | dotsErr _ e=>rw [h2] at e;cases e;rfl
  | dotsOk _ e _=>rw [h2] at e;cases e
 | dotsOk h h2 _ ih=>intro r' h';cases h' with
  | dotsEnd e=>exact absurd h e
  | dotsErr _ e=>rw [h2] at e;cases e
  | dotsOk _ e a=>rw [h2] at e;cases e;exact ih _ a
theorem RuleAt.one {f:Nat->Int} {p:Nat} {r r':Got Rule} (h:RuleAt f p r) (h':RuleAt f p r'):r=r':=by
 cases h with
 | name h=>cases h' with
  | name e=>rw [h] at e;cases e;rfl
  | noEq e _=>rw [h] at e;cases e
  | err e _ _=>rw [h] at e;cases e
  | noEnd e _ _ _=>rw [h] at e;cases e
  | ok e _ _ _=>rw [h] at e;cases e
 | noEq h h2=>cases h' with
  | name e=>rw [h] at e;cases e
  | noEq e _=>rfl
  | err e e2 _=>rw [h] at e;cases e;exact absurd e2 h2
  | noEnd e e2 _ _=>rfl
  | ok e e2 _ _=>rw [h] at e;cases e;exact absurd e2 h2
 | err h h2 h3=>cases h' with
  | name e=>rw [h] at e;cases e
  | noEq e e2=>rw [h] at e;cases e;exact absurd h2 e2
  | err e _ a=>rw [h] at e;cases e;cases h3.one _ a;rfl
  | noEnd e _ a _=>rw [h] at e;cases e;cases h3.one _ a
  | ok e _ a _=>rw [h] at e;cases e;cases h3.one _ a
 | noEnd h h2 h3 h4=>cases h' with
  | name e=>rw [h] at e;cases e
  | noEq e e2=>rfl
  | err e _ a=>rw [h] at e;cases e;cases h3.one _ a
  | noEnd e _ a _=>rfl
  | ok e _ a e4=>rw [h] at e;cases e;cases h3.one _ a;rw [h4] at e4;cases e4
 | ok h h2 h3 h4=>cases h' with
  | name e=>rw [h] at e;cases e
  | noEq e e2=>rw [h] at e;cases e;exact absurd h2 e2
  | err e _ a=>rw [h] at e;cases e;cases h3.one _ a
  | noEnd e _ a e4=>rw [h] at e;cases e;cases h3.one _ a;rw [h4] at e4;cases e4
  | ok e _ a e4=>rw [h] at e;cases e;cases h3.one _ a;rw [h4] at e4;cases e4;rfl
theorem Rules.one {f:Nat->Int} {l:List Rule} {p:Nat} {r:Got (List Rule)} (h:Rules f l p r):∀ r',Rules f l p r'->r=r':=by
 have key:∀ c:Int,c<0->isAl c=true->False:=by
  intro c hc h
  unfold isAl at h
  simp at h
  omega
 induction h with
 | done h=>intro r' h';cases h' with
  | done=>rfl
  | empty e _ _ _=>omega
  | bad e _ _=>omega
  | err e _=>exact (key _ h e).elim
  | many e _ _=>exact (key _ h e).elim
  | rule e _ _ _=>exact (key _ h e).elim
 | empty h h2 h3 _ ih=>intro r' h';cases h' with
  | done e=>omega
  | empty _ _ e a=>rw [h3] at e;cases e;exact ih _ a
  | bad _ _ e=>rw [h3] at e;cases e
  | err e _=>rw [h2] at e;cases e
  | many e _ _=>rw [h2] at e;cases e
  | rule e _ _ _=>rw [h2] at e;cases e
 | bad h h2 h3=>intro r' h';cases h' with
  | done e=>omega
  | empty _ _ e a=>rw [h3] at e;cases e
  | bad _ _ e=>rfl
  | err e _=>rw [h2] at e;cases e
  | many e _ _=>rw [h2] at e;cases e
  | rule e _ _ _=>rw [h2] at e;cases e
 | err h h2=>intro r' h';cases h' with
  | done e=>exact (key _ e h).elim
  | empty _ e _ _=>rw [h] at e;cases e
  | bad _ e _=>rw [h] at e;cases e
  | err _ a=>cases h2.one a;rfl
  | many _ a _=>cases h2.one a
  | rule _ a _ _=>cases h2.one a
 | many h h2 h3=>intro r' h';cases h' with
  | done e=>exact (key _ e h).elim
  | empty _ e _ _=>rw [h] at e;cases e
  | bad _ e _=>rw [h] at e;cases e
  | err _ a=>cases h2.one a
  | many _ a _=>rfl
  | rule _ a e _=>omega
 | rule h h2 h3 _ ih=>intro r' h';cases h' with
  | done e=>exact (key _ e h).elim
  | empty _ e _ _=>rw [h] at e;cases e
  | bad _ e _=>rw [h] at e;cases e
  | err _ a=>cases h2.one a
  | many _ a e=>omega
  | rule _ a _ b=>cases h2.one a;exact ih _ b
theorem zeo.one {s:ByteArray} {r r':Got (List Rule)} (h:zeo s r) (h':zeo s r'):r=r':=by
 unfold zeo at h h'
 split at h
 ·rw [if_pos ‹_›] at h'
  rw [h,h']
 ·rw [if_neg ‹_›] at h'
  exact h.one _ h'
theorem zrh (s:ByteArray):(s==s)=true:=(Go.MapKept.bytes_beq s s).2 rfl
theorem zvt (s:ByteArray):(s != s)=false:=by
 show (!(s==s))=false
 rw [zrh];rfl
def zk6 (W:World) (g:Nat) (k:Int) (s:ByteArray) (ns:Value) (lo hi:Int) (ks:Value):Prop :=
 W.cell? ⟨g,0,none⟩=some (.int .i64 k)/\W.cell? ⟨g,1,none⟩=some (.string s)/\W.cell? ⟨g,2,none⟩=some ns/\W.cell? ⟨g,3,none⟩=some (.int .i64 lo)/\W.cell? ⟨g,4,none⟩=some (.int .i64 hi)/\W.cell? ⟨g,5,none⟩=some ks
def Boxed (w:World) (k lo hi:Int) (s:ByteArray) (a b c d:Option Addr) (n m ca cb cc cd:Nat) (wr:World):Prop :=
 zk6 wr w.heap.size k s (.slice a n ca) lo hi (.slice c m cc)/\zk6 wr (w.heap.size+1) k s (.slice b n cb) lo hi (.slice d m cd)/\Below w.heap.size w wr
theorem zvu (w:World) (k lo hi:Int) (s:ByteArray) (a b c d:Option Addr) (n m ca cb cc cd:Nat) :
  Boxed w k lo hi s a b c d n m ca cb cc cd ((w.alloc (.cells #[.int .i64 k,.string s,.slice a n ca,.int .i64 lo,.int .i64 hi,.slice c m cc] 35)).alloc (.cells #[.int .i64 k,.string s,.slice b n cb,.int .i64 lo,.int .i64 hi,.slice d m cd] 35)):=by
 refine ⟨?_,?_,((Below.refl _ _).alloc (Nat.le_refl _) _).alloc (by simp) _⟩
 ·unfold zk6;simp [go_sem]
 ·unfold zk6;simp [go_sem]
theorem Boxed.drew {w:World} {k lo hi:Int} {s:ByteArray} {a b c d:Option Addr} {n m ca cb cc cd:Nat} {wr:World} (h:Boxed w k lo hi s a b c d n m ca cb cc cd wr) (q:Nat):Boxed w k lo hi s a b c d n m ca cb cc cd (wr.drewN q):=⟨h.1,h.2.1,za7 h.2.2 q⟩
theorem zk6.under {W W1:World} {g:Nat} {k lo hi:Int} {s:ByteArray} {ns ks:Value} (h:zk6 W g k s ns lo hi ks) (hb:Below W.heap.size W W1):zk6 W1 g k s ns lo hi ks:=by
 have hg:g<W.heap.size:=World.block_lt_of_cell? W ⟨g,0,none⟩ h.1
 obtain ⟨h0,h1,h2,h3,h4,h5⟩:=h
 exact ⟨(hb.cell (p:=⟨g,0,none⟩) hg).trans h0,(hb.cell (p:=⟨g,1,none⟩) hg).trans h1,(hb.cell (p:=⟨g,2,none⟩) hg).trans h2,(hb.cell (p:=⟨g,3,none⟩) hg).trans h3,(hb.cell (p:=⟨g,4,none⟩) hg).trans h4,(hb.cell (p:=⟨g,5,none⟩) hg).trans h5⟩
theorem Boxed.under {w:World} {k lo hi:Int} {s:ByteArray} {a b c d:Option Addr} {n m ca cb cc cd:Nat} {wr w1:World} (h:Boxed w k lo hi s a b c d n m ca cb cc cd wr) (hb:Below wr.heap.size wr.drew w1):Boxed w k lo hi s a b c d n m ca cb cc cd w1:=by
 have h2:Below wr.heap.size wr w1:=⟨hb.os,hb.tape,hb.output,hb.size,hb.block⟩
 exact ⟨h.1.under h2,h.2.1.under h2,h.2.2.trans (h2.mono h.2.2.size)⟩
end Go.Proofs.YtekjnfldgjcgeaaGreatDoor
