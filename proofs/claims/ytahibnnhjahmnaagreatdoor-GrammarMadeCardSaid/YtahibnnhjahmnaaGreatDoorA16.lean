/- Part 16 of what the laws of the grammar rest on. -/
import Derived.Test.YtahibnnhjahmnaaGreatDoorA0
import Derived.Defers
import Derived.Laws.OwnMore
import Derived.Laws.Pointers
import Derived.MapKept
import Derived.OwnWalk
import Derived.Recover
import Derived.StillTailTactics
import Derived.WalkMore
set_option linter.all false
set_option maxRecDepth 100000
set_option maxHeartbeats 8000000
namespace Go.Proofs.YtahibnnhjahmnaaGreatDoor
open Go.RowKit
def rd(s:ByteArray)(i:Nat):Int:=if h:i<s.size then (s[i].toNat:Int) else -1
def nx(f:Nat->Int)(p:Nat):Int:=if f p<0 then 0 else f p
theorem pO{s:ByteArray}{i:Nat}(h:i<s.size):rd s i=(s[i].toNat:Int):=by unfold rd;rw[dif_pos h]
theorem kL{s:ByteArray}{i:Nat}(h:¬ i<s.size):rd s i=-1:=by unfold rd;rw[dif_neg h]
theorem H6(s:ByteArray)(i:Nat):-1<=rd s i/\rd s i<=255:=by
 by_cases h:i<s.size
 ·rw[pO h];have:=s[i].toNat_lt;omega
 ·rw[kL h];omega
theorem Oa{s:ByteArray}{i:Nat}:rd s i<0 ↔ ¬ i<s.size:=by
 by_cases h:i<s.size
 ·rw[pO h];omega
 ·rw[kL h];omega
theorem vR(s:ByteArray)(i:Nat):0<=nx (rd s) i/\nx (rd s) i<=255:=by
 have:=H6 s i;unfold nx;split<;>omega
theorem H7{c:Int}:aH c=true ↔ (97<=c/\c<=122\/65<=c/\c<=90):=by unfold aH;simp
theorem R4(c:Int):0<=iN c/\iN c<=16:=by unfold iN;split<;>(try split)<;>(try split)<;>omega
theorem Ob(c:Int):bC 10 c=aS c:=by
 unfold bC aS iN;by_cases a:48<=c<;>by_cases b:c<=57
 all_goals simp only[a,b,and_true,and_false,if_true,if_false,decide_true,decide_false,Bool.and_true,Bool.and_false,false_and,true_and,decide_eq_true_eq,decide_eq_false_iff_not]
 all_goals (try split)<;>(try split)<;>omega
theorem Ya{c:Int}(ha:aH c=false)(hd:aS c=false)(h1:c≠34)(h2:c≠37)(h3:c≠40)(h4:c≠42)(h5:c≠91):dB c=false:=by
 unfold dB;simp[ha,hd,h1,h2,h3,h4,h5]
def Kk(c:Int)(w:World)(e:Ending)(w':World):Prop:=e=.returned (.int .u8 c)/\∃ n,w'=w.drewN n
theorem zx5(w:World)(a b:Nat):(w.drewN a).drewN b=w.drewN (a+b):=by
 unfold World.drewN;simp;omega
theorem Cb{s:ByteArray}{p:Nat}(h:p<s.size):nx (rd s) p=(s[p].toNat:Int):=by
 unfold nx;rw[pO h,if_neg (by omega)]
theorem DN{s:ByteArray}{p:Nat}(h:¬ p<s.size):nx (rd s) p=0:=by
 unfold nx;rw[kL h];rfl
theorem sK{s:ByteArray}{p:Nat}{c:Int}(hc:0<c):nx (rd s) p=c ↔ rd s p=c:=by
 have:=H6 s p;unfold nx;split<;>omega
def qH(R:Nat)(w:World):Nat:=match w.cell? ⟨R,1,none⟩ with|some (.int _ p)=>p.toNat|_=>0
theorem Oc{P:Int->Bool}{s:ByteArray}{q:Nat}(h0:P 0=false)(h:P (nx (rd s) q)=true):q<s.size:=by
 by_cases g:q<s.size
 ·exact g
 ·rw[DN g,h0]at h;cases h
theorem Od{P:Int->Bool}{s:ByteArray}{q:Nat}(hlt:q<s.size)(h:P (nx (rd s) q)=true):P (rd s q)=true:=by rwa[Cb hlt,<- pO hlt]at h
theorem Oe{P:Int->Bool}{s:ByteArray}{q:Nat}(h0:P 0=false)(hn:P (-1)=false)(h:P (nx (rd s) q)=false):P (rd s q)=false:=by
 by_cases g:q<s.size
 ·rwa[Cb g,<- pO g]at h
 ·rw[kL g];exact hn
theorem Cc{P:Int->Bool}{f:Nat->Int}{p q:Nat}(hall:∀ i,p<=i->i<q->P (f i)=true)(h:P (f q)=true):∀ i,p<=i->i<q+1->P (f i)=true:=by
 intro i h1 h2;by_cases g:i=q
 ·subst g;exact h
 ·exact hall i h1 (by omega)
noncomputable def wS (f:Nat->Int) (p:Nat):Int:=match eH f p with|some e=>e|none=>-1
theorem Yb{f:Nat->Int}{p q:Nat}(h:ji f p=q)(h1:f q<0):wS f p=q:=by unfold wS eH;rw[h,if_pos h1]
theorem Yd{f:Nat->Int}{p q:Nat}(h:ji f p=q)(h1:f q=10):wS f p=(q:Int)+1:=by unfold wS eH;rw[h,if_neg (by omega),if_pos h1];simp
theorem Ye{f:Nat->Int}{p q:Nat}(h:ji f p=q)(h1:f q=13)(h2:f (q+1)=10):wS f p=(q:Int)+2:=by unfold wS eH;rw[h,if_neg (by omega),if_neg (by omega),if_pos ⟨h1,h2⟩];simp
theorem Og{f:Nat->Int}{p q:Nat}(h:ji f p=q)(h0:¬ f q<0)(h1:f q≠10)(h2:¬ (f q=13/\f (q+1)=10)):wS f p=-1:=by unfold wS eH;rw[h,if_neg h0,if_neg h1,if_neg h2]
theorem uK{B:Nat}{a w w':World}{R:Nat}(h:Below B a w)(hg:w.grownBy w' (some R))(hB:B<=w.heap.size)(hR:B<=R):Below B a w':=h.grown hg hB (fun k hk=>by cases hk;exact hR)
theorem nk{a b:Int}(h:a=b):Ending.returned (.int .i64 a)=.returned (.int .i64 b):=by rw[h]
theorem Yf{f:Nat->Int}{p e:Nat}(h:eH f p=some e):wS f p=e:=by unfold wS;rw[h]
theorem Yg{f:Nat->Int}{p:Nat}(h:eH f p=none):wS f p=-1:=by unfold wS;rw[h]
theorem qd4{s:ByteArray}{q:Nat}:aZ (nx (rd s) q)=aZ (rd s q):=by
 by_cases g:q<s.size
 ·rw[Cb g,<- pO g]
 ·rw[DN g,kL g];rfl
theorem R5{s:ByteArray}{q:Nat}(h:aZ (rd s q)=true):q<s.size:=by
 by_cases g:q<s.size
 ·exact g
 ·rw[kL g]at h;cases h
theorem qen{P:Int->Bool}(hn:P (-1)=false)(s:ByteArray):∀ (k p:Nat),p<=s.size->s.size-p<=k->∃ q,eG P (rd s) p q/\q<=s.size:=by
 intro k
 induction k with
 |zero =>
  intro p hp hk;exact⟨p,⟨zbA _,fun i h1 h2=>absurd h1 (by omega),by rw[kL (by omega)];exact hn⟩,hp⟩
 |succ k ih =>
  intro p hp hk
  cases h:P (rd s p)
  ·exact⟨p,⟨zbA _,fun i h1 h2=>absurd h1 (by omega),h⟩,hp⟩
  ·have hlt:p<s.size:=by
    by_cases g:p<s.size
    ·exact g
    ·rw[kL g,hn]at h;cases h
   obtain⟨q,hr,hq⟩:=ih (p+1) (by omega) (by omega);refine⟨q,⟨by have:=hr.le;omega,fun i h1 h2=>?_,hr.stop⟩,hq⟩;by_cases g:i=p
   ·subst g;exact h
   ·exact hr.all i (by omega) h2
theorem yT{P:Int->Bool}(hn:P (-1)=false){s:ByteArray}{p:Nat}(hp:p<=s.size):eG P (rd s) p (jC P (rd s) p)/\jC P (rd s) p<=s.size:=by
 obtain⟨q,hr,hq⟩:=qen hn s _ p hp (zbA _);rw[hr.eq];exact⟨hr,hq⟩
theorem Yh{s:ByteArray}{p:Nat}(hp:p<=s.size):p<=ji (rd s) p/\ji (rd s) p<=s.size:=by
 unfold ji;split
 ·rename_i h
  have hlt:p<s.size:=by
   by_cases g:p<s.size
   ·exact g
   ·rw[kL g]at h;omega
  obtain⟨hr,hq⟩:=yT (P:=mR) (by decide) (s:=s) (p:=p+1) (by omega);have:=hr.le;omega
 ·omega
theorem qI{s:ByteArray}{p e:Nat}(hp:p<=s.size)(h:eH (rd s) p=some e):p<=e/\e<=s.size:=by
 have hc:=Yh hp;unfold eH at h;split at h
 ·cases h;exact hc
 ·rename_i h0
  have hlt:ji (rd s) p<s.size:=by
   by_cases g:ji (rd s) p<s.size
   ·exact g
   ·exact absurd (Oa.2 g) h0
  split at h
  ·cases h;omega
  ·split at h
   ·rename_i h2
    have:ji (rd s) p+1<s.size:=by
     by_cases g:ji (rd s) p+1<s.size
     ·exact g
     ·have:=h2.2;rw[kL g]at this;omega
    cases h;omega
   ·cases h
theorem zx6{s:ByteArray}{p e:Nat}(h:eH (rd s) p=some e)(h1:nx (rd s) p≠59)(h2:nx (rd s) p≠13)(h3:nx (rd s) p≠10):aZ (rd s e)=false:=by
 have g1:rd s p≠59:=fun g=>h1 ((sK (by omega)).2 g)
 have g2:rd s p≠13:=fun g=>h2 ((sK (by omega)).2 g)
 have g3:rd s p≠10:=fun g=>h3 ((sK (by omega)).2 g)
 have hc:ji (rd s) p=p:=by unfold ji;rw[if_neg g1]
 unfold eH at h;rw[hc]at h;split at h
 ·rename_i g
  cases h
  rw[kL (Oa.1 g)]
  decide
 ·rw[if_neg (fun k=>g2 k.1)]at h
  cases h
theorem Kl{b:Int}(hb0:2<=b)(f:Nat->Int)(p:Nat):∀ n,0<=val b f p n
 |0=>Int.le_refl 0
 |n+1=>by
  have h:=Kl hb0 f p n;have hd:=(R4 (f (p+n))).1;have hm:0<=val b f p n*b:=Int.mul_nonneg h (by omega);unfold val;omega
def uL(lim v:Int):Int:=min v (lim+1)
theorem zr8{b lim v x:Int}(hb:b=2\/b=10\/b=16)(hl:0<=lim)(hv:0<=v)(hx:0<=x):min (uL lim v*b+x) (lim+1)=uL lim (v*b+x):=by
 unfold uL;rcases hb with rfl|rfl|rfl<;>omega
theorem zp9{lim v:Int}(hl:0<=lim)(hv:0<=v):0<=uL lim v/\uL lim v<=lim+1:=by unfold uL;omega
theorem Oh{b:Int}(hb:b<=16){s:ByteArray}{q:Nat}:bC b (nx (rd s) q)=bC b (rd s q):=by
 by_cases g:q<s.size
 ·rw[Cb g,<- pO g]
 ·rw[DN g,kL g];unfold bC iN;simp
theorem qeo{s:ByteArray}{q:Nat}:iN (nx (rd s) q)=iN (rd s q):=by
 by_cases g:q<s.size
 ·rw[Cb g,<- pO g]
 ·rw[DN g,kL g];unfold iN;simp
theorem Yi{b:Int}(hb:b<=16){s:ByteArray}{q:Nat}(h:bC b (rd s q)=true):q<s.size:=by
 by_cases g:q<s.size
 ·exact g
 ·rw[kL g]at h;unfold bC iN at h;simp at h;omega
theorem R7{b lim:Int}{f:Nat->Int}{p:Nat}(h:bC b (f p)=false):fC b lim f p=.err 20:=by
 have hr:jC (bC b) f p=p:=eG.eq ⟨zbA _,fun i h1 h2=>absurd h1 (by omega),h⟩;unfold fC;rw[if_pos hr]
theorem R8{b lim:Int}{f:Nat->Int}{p q:Nat}(h:eG (bC b) f p q)(hlt:p<q):fC b lim f p=if lim<val b f p (q-p) then .err 2 else .ok (val b f p (q-p)) q:=by
 unfold fC;rw[h.eq,if_neg (by omega)]
theorem R9{a b:Int}(h:a=b):Value.int .i64 a=.int .i64 b:=by rw[h]
theorem Oi{b lim:Int}{f:Nat->Int}{p q:Nat}{v:Int}(hb:2<=b)(h:fC b lim f p=.ok v q):0<=v:=by
 unfold fC at h;split at h
 ·cases h
 ·split at h
  ·cases h
  ·cases h;exact Kl hb _ _ _
theorem Oj{f:Nat->Int}{p q:Nat}{lo:Int}(h:(if aS (f p) then fC 10 200 f p else .ok (-1) p)=.ok lo q)(hq:f q≠42):aN f p=.ok (max lo 0,max lo 0,decide (0<=lo)) q:=by
 unfold aN;rw[h];show (if f q=42 then _ else _)=_
 rw[if_neg hq]
theorem Km{f:Nat->Int}{p q q':Nat}{lo hi:Int}(h:(if aS (f p) then fC 10 200 f p else .ok (-1) p)=.ok lo q)(hq:f q=42)(h2:(if aS (f (q+1)) then fC 10 200 f (q+1) else .ok (-1) (q+1))=.ok hi q') :
  aN f p=.ok (max lo 0,hi,true) q':=by
 unfold aN;rw[h];show (if f q=42 then _ else _)=_
 rw[if_pos hq,h2]
theorem Sb{f:Nat->Int}{p q:Nat}{lo c:Int}(h:(if aS (f p) then fC 10 200 f p else .ok (-1) p)=.ok lo q)(hq:f q=42)(h2:(if aS (f (q+1)) then fC 10 200 f (q+1) else .ok (-1) (q+1))=.err c) :
  aN f p=.err c:=by
 unfold aN;rw[h];show (if f q=42 then _ else _)=_
 rw[if_pos hq,h2]
theorem Sc{f:Nat->Int}{p:Nat}{c:Int}(h:(if aS (f p) then fC 10 200 f p else .ok (-1) p)=.err c):aN f p=.err c:=by
 unfold aN;rw[h]
theorem H8{s:ByteArray}{q:Nat}:aS (nx (rd s) q)=aS (rd s q):=by
 by_cases g:q<s.size
 ·rw[Cb g,<- pO g]
 ·rw[DN g,kL g];rfl
theorem Ol{s:ByteArray}{q:Nat}:aH (nx (rd s) q)=aH (rd s q):=by
 by_cases g:q<s.size
 ·rw[Cb g,<- pO g]
 ·rw[DN g,kL g];rfl
theorem fP{s:ByteArray}{q:Nat}{c:Int}(hc:0<=c)(h:rd s q=c):q<s.size:=by
 by_cases g:q<s.size
 ·exact g
 ·rw[kL g]at h;omega
def cval(x:Int × Int × Bool):Value:=.tuple #[.int .i64 x.1,.int .i64 x.2.1,.bool x.2.2]
theorem qd5(b:UInt8):ig (b.toNat:Int)=b:=by unfold ig;simp
theorem Kn(f:Nat->Int)(p n:Nat):(cut f p n).length=n:=by unfold cut;simp
theorem qep(f:Nat->Int)(p n i:Nat)(h:i<n):(cut f p n)[i]?=some (f (p+i)):=by unfold cut;simp[h]
theorem Sd{s:ByteArray}{p q:Nat}(hq:q<=s.size):s.extract p q=ak (cut (rd s) p (q-p)):=by
 have hl:(s.extract p q).data.toList=(cut (rd s) p (q-p)).map ig:=by
  apply List.ext_getElem?;intro i;rw[ByteArray.data_extract,Array.toList_extract,List.getElem?_map,List.extract_eq_take_drop];by_cases h:i<q-p
  ·rw[qep _ _ _ _ h,List.getElem?_take_of_lt h,List.getElem?_drop];have hi:p+i<s.size:=by omega
   rw[pO hi];show _=some (ig _)
   rw[qd5];exact zbC (by simpa using hi)
  ·rw[List.getElem?_eq_none (by simp;omega),List.getElem?_eq_none (by rw[Kn];omega)];rfl
 unfold ak;rw[<- hl]
theorem Sg{P:Int->Bool}{s:ByteArray}{p q:Nat}(hP:∀ c,P c=true->0<=c/\c<128)(h:eG P (rd s) p q):∀ c∈cut (rd s) p (q-p),0<=c/\c<128:=by
 intro c hc;unfold cut at hc;obtain⟨i,hi,rfl⟩:=List.mem_map.1 hc;have:=List.mem_range.1 hi;exact hP _ (h.all _ (by omega) (by omega))
theorem Sk(c:Int)(h:dM c=true):0<=c/\c<128:=by
 unfold dM aH aS at h;simp at h;omega
theorem Yj(c:Int)(h:gT c=true):0<=c/\c<128:=by
 unfold gT at h;simp at h;omega
theorem H9{n:Nat}(h:n≠1):decide ((n:Int)=1)=false:=zbM (by omega)
theorem Ia(k:Int){l:List Tree}(h:l.length≠1):uj k l=.mk k [] [] 0 0 l:=by
 match l,h with
 |[],_=>rfl
 |[_],h=>exact absurd rfl h
 |_::_::_,_=>rfl
theorem Sl{x:List Int}(hx:∀ c∈x,0<=c/\c<128)(i:Nat)(h:i<(ak x).size):x[i]?=some ((ak x)[i].toNat:Int):=by
 have h':i<x.length:=by rwa[eP]at h
 have h1:(ak x)[i]=ig x[i]:=by
  have e:(ak x).data.toList[i]?=some (ig x[i]):=by rw[Ag,List.getElem?_map,zbC h'];rfl
  have e2:(ak x).data.toList[i]?=some (ak x)[i]:=zbC (by simpa using h);exact zbB (e2.symm.trans e)
 rw[h1,zbC h'];have hm:=hx x[i] (List.getElem_mem h');unfold ig
 congr 1
 simp;omega
theorem Om:(Tryz.prog.info? 3).map (fun i=>(i.zero,i.size,i.bytes))=some (some (.int .i64 0),1,8):=by kernel_rfl
def Yk(x:List Int)(base g:Nat)(w wr:World)(i:Nat):Prop :=
 ∃ ys:List Int,ys.length=x.length/\wr.ownsRow base 3 1 (.slice (some ⟨g,0,none⟩) x.length x.length) x.length (dA ys)/\(∀ j,j<i->ys[j]?=x[j]?)/\Below w.heap.size w wr/\bg wr w.heap.size
theorem zue(ys:List Int)(i:Nat)(v:Int):(dA ys).set i (.int .i64 v)=dA (ys.set i v):=by unfold dA;simp
theorem zuf(n:Nat):List.replicate n (Value.int .i64 0)=dA (List.replicate n 0):=by unfold dA;simp
theorem zx9{x:List Int}{b:Bool}(h:¬ (b=true/\x≠[])):mU x b=Bh x:=by unfold mU;rw[if_neg h]
theorem Yl{x:List Int}(h:x≠[]):mU x true=.mk 6 [] x 0 0 []:=by unfold mU;rw[if_pos ⟨rfl,h⟩]
theorem Oo{b lim:Int}{s:ByteArray}{p q:Nat}{v:Int}(hb:bC b (-1)=false)(hp:p<=s.size)(h:fC b lim (rd s) p=.ok v q):p<q/\q<=s.size:=by
 obtain⟨hr,hq⟩:=yT (P:=bC b) hb hp;have hle:=hr.le;unfold fC at h;split at h
 ·cases h
 ·split at h
  ·cases h
  ·cases h;omega
theorem Ym(w:World)(base:Nat)(h:base<=w.heap.size)(v:Int):(w.alloc (.cells #[.int .i64 v] 3)).ownsRow base 3 1 (.slice (some ⟨w.heap.size,0,none⟩) 1 1) 1 (dA [v]) :=
 bq h (zbO w _) (by unfold maxLen;omega) rfl
theorem Sm{W w':World}{base:Nat}{v':Value}{l:List Int}{u:Int}(h:w'.ownsRow base 3 1 v' (l.length+1) (dA l++[.int .i64 u])):w'.ownsRow base 3 1 v' (l++[u]).length (dA (l++[u])):=by
 rw[zbG,dA,List.map_append];exact h
theorem E5{w w':World}{base size n R:Nat}{e:TypeId}{v:Value}{xs:List Value}(h:w.ownsRow base e size v n xs)(hg:w.grownBy w' (some R))(hR:R<base):w'.ownsRow base e size v n xs:=by
 refine h.kept hg ?_;rcases fB h with ⟨rfl,_⟩|⟨g,cap,rfl⟩
 ·exact .inl rfl
 ·refine .inr (fun e=>?_);have:=zbB e;have:=(iX h).1;simp at *;omega
theorem qd6(s:ByteArray):∀ (k p:Nat),p<=s.size->s.size-p<=k->∃ q,Skip (rd s) p q/\p<=q/\q<=s.size:=by
 intro k
 induction k with
 |zero =>
  intro p hp hk;refine⟨p,.here (by rw[kL (by omega)];decide) (fun e he=>?_),zbA _,hp⟩;have:=qI hp he;rw[kL (by omega)]
  decide
 |succ k ih =>
  intro p hp hk
  cases hb:aZ (rd s p)
  ·cases hl:eH (rd s) p with
   |none=>exact⟨p,.here hb (fun e he=>by rw[hl]at he;cases he),zbA _,hp⟩
   |some e =>
    cases he:aZ (rd s e)
    ·exact⟨p,.here hb (fun e' he'=>by rw[hl]at he';cases he';exact he),zbA _,hp⟩
    ·have h1:=qI hp hl;have h2:=R5 he;obtain⟨q,hs,h3,h4⟩:=ih (e+1) (by omega) (by omega);exact⟨q,.line hb hl he hs,by omega,h4⟩
  ·have h2:=R5 hb;obtain⟨q,hs,h3,h4⟩:=ih (p+1) (by omega) (by omega);exact⟨q,.blank hb hs,by omega,h4⟩
theorem wT{s:ByteArray}{p:Nat}(hp:p<=s.size):Skip (rd s) p (bN (rd s) p)/\p<=bN (rd s) p/\bN (rd s) p<=s.size:=by
 obtain⟨q,hs,h1,h2⟩:=qd6 s _ p hp (zbA _);rw[hs.eq];exact⟨hs,h1,h2⟩
theorem Yn{b:Int}(hb:b<=16):bC b (-1)=false:=by
 unfold bC iN;simp;exact hb
theorem DR{b lim:Int}{s:ByteArray}{p q:Nat}{v:Int}(hb:b<=16)(hp:p<=s.size)(h:fC b lim (rd s) p=.ok v q):p<q/\q<=s.size:=Oo (Yn hb) hp h
theorem E8{s:ByteArray}{p q:Nat}{x:List Int}(hp:p<=s.size)(h:lU (rd s) p=.ok x q):p<=q/\q<=s.size:=by
 obtain⟨hr,hq⟩:=yT (P:=dM) (by decide) hp;have hle:=hr.le;unfold lU at h;split at h
 ·cases h
 ·cases h;omega
theorem Ko{s:ByteArray}{p q:Nat}{x:List Int}(h:iY (rd s) p=.ok x q):p<q/\q<=s.size:=by
 unfold iY at h;split at h
 ·rename_i h1;have hlt:=fP (by omega) h1;obtain⟨hr,hq⟩:=yT (P:=gT) (by decide) (s:=s) (p:=p+1) (by omega);have hle:=hr.le;split at h
  ·rename_i h2;have hlt2:=fP (by omega) h2
   cases h;omega
  ·cases h
 ·cases h
theorem Sn{s:ByteArray}{p q:Nat}{x:Int × Int × Bool}(hp:p<=s.size)(h:aN (rd s) p=.ok x q):p<=q/\q<=s.size:=by
 have first:∀ lo q,(if aS (rd s p) then fC 10 200 (rd s) p else .ok (-1) p)=.ok lo q->p<=q/\q<=s.size:=by
  intro lo q h;split at h
  ·have:=DR (by omega) hp h;omega
  ·cases h;omega
 unfold aN at h
 cases h1:(if aS (rd s p) then fC 10 200 (rd s) p else .ok (-1) p) with
 |err c=>rw[h1]at h;cases h
 |ok lo q1 =>
  rw[h1]at h;have hq1:=first lo q1 h1;simp only at h;split at h
  ·rename_i lW;have hlt:=fP (by omega) lW
   cases h2:(if aS (rd s (q1+1)) then fC 10 200 (rd s) (q1+1) else .ok (-1) (q1+1)) with
   |err c=>rw[h2]at h;cases h
   |ok hi q2 =>
    rw[h2]at h;simp only at h
    cases h
    split at h2
    ·have:=DR (by omega) (by omega) h2;omega
    ·cases h2;omega
  ·cases h;exact hq1
theorem zr9{c b:Int}(h:kP c=.base b):b=2\/b=10\/b=16:=by
 unfold kP at h
 (repeat' split at h)<;>cases h<;>simp
def qd7:Ask->Prop
 |.nums b=>b<=16
 |.dots b _=>b<=16
 |_=>True
theorem aK.bound{s:ByteArray}{k:Ask}{d p:Nat}{r:Got Tree}(h:aK (rd s) k d p r):qd7 k->p<=s.size->∀ t q,r=.ok t q->p<=q/\q<=s.size:=by
 induction h with
 |jS _ _ ih1 ih2 =>
  intro _ hp t q e;have h1:=ih1 trivial hp _ _ rfl;have h2:=ih2 trivial h1.2 t q e;omega
 |ku=>intro _ _ t q e;cases e
 |gV=>intro _ hp t q e;cases e;omega
 |jT h1 _ _ ih1 ih2 =>
  intro _ hp t q e;have hlt:=fP (by omega) h1;have hs:=wT (s:=s) (p:=_+1) hlt;have h1:=ih1 trivial hs.2.2 _ _ rfl;have h2:=ih2 trivial h1.2 t q e;omega
 |jk=>intro _ _ t q e;cases e
 |jU _ _ ih1 ih2 =>
  intro _ hp t q e;have h1:=ih1 trivial hp _ _ rfl;have h2:=ih2 trivial h1.2 t q e;omega
 |kC=>intro _ _ t q e;cases e
 |dS =>
  intro _ hp t q e
  cases e
  exact(wT hp).2
 |iO h1 _ _ ih1 ih2 =>
  intro _ hp t q e;have hs:=wT hp;have h1:=ih1 trivial hs.2.2 _ _ rfl;have h2:=ih2 trivial h1.2 t q e;omega
 |iy=>intro _ _ t q e;cases e
 |dU=>intro _ _ t q e;cases e
 |iA=>intro _ _ t q e;cases e
 |fE hc _ ih =>
  intro _ hp t q e;have h1:=Sn hp hc;have h2:=ih trivial h1.2 t q e;omega
 |gW=>intro _ _ t q e;cases e
 |kQ hc _ _ ih =>
  intro _ hp t q e;have h1:=Sn hp hc
  cases e
  have h2:=ih trivial h1.2 _ _ rfl;omega
 |mV _ hn=>intro _ hp t q e;cases e;exact E8 hp hn
 |l9=>intro _ _ t q e;cases e
 |deep=>intro _ _ t q e;cases e
 |vO=>intro _ _ t q e;cases e
 |qJ=>intro _ _ t q e;cases e
 |round h1 _ _ h4 ih =>
  intro _ hp t q e
  cases e
  have hlt:=fP (by omega) h1;have hs:=wT (s:=s) (p:=_+1) hlt;have h2:=ih trivial hs.2.2 _ _ rfl;have Sq:=fP (by omega) h4;omega
 |square h1 _ _ h4 ih =>
  intro _ hp t q e
  cases e
  have hlt:=fP (by omega) h1;have hs:=wT (s:=s) (p:=_+1) hlt;have h2:=ih trivial hs.2.2 _ _ rfl;have Sq:=fP (by omega) h4;omega
 |mg _ hq=>intro _ hp t q e;cases e;have:=Ko hq;omega
 |mh=>intro _ _ t q e;cases e
 |mq _ _ hq=>intro _ hp t q e;cases e;have:=Ko hq;omega
 |jl=>intro _ _ t q e;cases e
 |@value d0 p0 b0 r0 h1 hk hn ih =>
  intro _ hp t q e;have hb:=zr9 hk;have hlt:=fP (by omega) h1;by_cases h2:p0+1<s.size
  ·have:=ih (show b0<=16 by omega) h2 t q e;omega
  ·exfalso;rw[kL h2]at hk;unfold kP at hk;simp at hk
 |kD=>intro _ _ t q e;cases e
 |no=>intro _ _ t q e;cases e
 |gF=>intro _ _ t q e;cases e
 |gX=>intro _ _ t q e;cases e
 |fF=>intro _ _ t q e;cases e
 |span h1 h2 h3 h4 =>
  intro hg hp t q e
  cases e
  have g1:=DR hg hp h1;have hlt:=fP (by omega) h2;have g2:=DR hg hlt h3;omega
 |nums h1 h2 _ ih =>
  intro hg hp t q e;have g1:=DR hg hp h1;have g2:=ih hg g1.2 t q e;omega
 |iP=>intro _ hp t q e;cases e;omega
 |jm=>intro _ _ t q e;cases e
 |jV h1 h2 _ ih =>
  intro hg hp t q e;have hlt:=fP (by omega) h1;have g1:=DR hg hlt h2;have g2:=ih hg g1.2 t q e;omega
theorem Yo{s:ByteArray}{q:Nat}:dB (nx (rd s) q)=dB (rd s q):=by
 by_cases g:q<s.size
 ·rw[Cb g,<- pO g]
 ·rw[DN g,kL g];decide
inductive qg (f:Nat->Int) (d p:Nat) (cl:Int):Got Tree->Prop
 |deep:d=50->qg f d p cl (.err 2)
 |err {c:Int}:d<50->aK f .alts (d+1) (bN f (p+1)) (.err c)->qg f d p cl (.err c)
 |opened {t:Tree} {q:Nat}:d<50->aK f .alts (d+1) (bN f (p+1)) (.ok t q)->f q≠cl->qg f d p cl (.err 20)
 |ok {t:Tree} {q:Nat}:d<50->aK f .alts (d+1) (bN f (p+1)) (.ok t q)->f q=cl->qg f d p cl (.ok t (q+1))
theorem zdt{W:World}{g R k:Nat}{v:Value}(hr:bg W g)(hne:g≠R):bg (W.setCell ⟨R,k,none⟩ v) g:=hr.kept (zbQ _ _ _ _ hne)
theorem av.cell{W:World}{P:Nat->Prop}{x:XV}{t:Tree}{R k:Nat}{v:Value}(h:av W P x t)(hR:∀ b,P b->b≠R):av (W.setCell ⟨R,k,none⟩ v) P x t :=
 h.kept (fun b hP hl=>⟨zbQ _ _ _ _ (hR b hP),hP⟩) (by simp)
theorem Sr{f:Nat->Int}{d p:Nat}{r:Got Tree}(h:f p=40)(hb:qg f d p 41 r):aK f .elem d p r:=by
 cases hb with
 |deep e=>exact .deep (.inl h) e
 |err hd ha=>exact .vO (.inl h) hd ha
 |opened hd ha hc=>exact .qJ (.inl h) hd ha (by rw[if_pos h];exact hc)
 |ok hd ha hc=>exact .round h hd ha hc
theorem Yp{f:Nat->Int}{d p:Nat}{c:Int}(h:f p=91)(hb:qg f d p 93 (.err c)):aK f .elem d p (.err c):=by
 cases hb with
 |deep e=>exact .deep (.inr h) e
 |err hd ha=>exact .vO (.inr h) hd ha
 |opened hd ha hc=>exact .qJ (.inr h) hd ha (by rw[if_neg (by omega)];exact hc)
theorem Yq{f:Nat->Int}{d p q:Nat}{t:Tree}(h:f p=91)(hb:qg f d p 93 (.ok t q)):aK f .elem d p (.ok (pU 0 1 t) q):=by
 cases hb with
 |ok hd ha hc=>exact .square h hd ha hc
theorem Kq{s:ByteArray}{p q:Nat}{x:List Int}(h:iY (rd s) p=.ok x q):(∀ c∈x,0<=c/\c<128)/\x.length<=s.size:=by
 unfold iY at h;split at h
 ·rename_i h1;have hlt:=fP (by omega) h1;obtain⟨hr,hq⟩:=yT (P:=gT) (by decide) (s:=s) (p:=p+1) (by omega);split at h
  ·cases h
   exact⟨Sg Yj hr,by rw[Kn];omega⟩
  ·cases h
 ·cases h
theorem vS{s:ByteArray}{p:Nat}{c:Int}(hc:0<c)(h:rd s p=c):nx (rd s) p=c:=(sK hc).2 h
theorem zra{s:ByteArray}{p:Nat}(h:∀ c,(c=105\/c=73\/c=115\/c=83\/c=98\/c=66\/c=100\/c=68\/c=120\/c=88)->rd s p≠c):kP (rd s p)=.none:=by
 unfold kP;have h1:=h 105 (by omega);have h2:=h 73 (by omega);have h3:=h 115 (by omega);have h4:=h 83 (by omega);have h5:=h 98 (by omega);have h6:=h 66 (by omega);have h7:=h 100 (by omega);have h8:=h 68 (by omega);have h9:=h 120 (by omega);have h10:=h 88 (by omega);simp[h1,h2,h3,h4,h5,h6,h7,h8,h9,h10]
theorem Sv:(Tryz.prog.info? 31).map (·.size)=some 8:=by kernel_rfl
def jF(W:World)(g:Nat)(cs:Array Value):Prop:=W.heap[g]?=some (.cells cs 31 (0,0))/\cs.size=8
theorem jF.lt{W:World}{g:Nat}{cs:Array Value}(h:jF W g cs):g<W.heap.size:=(zbD.1 h.1).1
theorem jF.keep{W W':World}{g:Nat}{cs:Array Value}(h:jF W g cs)(hk:W'.heap[g]?=W.heap[g]?):jF W' g cs:=⟨hk.trans h.1,h.2⟩
theorem jF.grown{W W':World}{g R:Nat}{cs:Array Value}(h:jF W g cs)(hg:W.grownBy W' (some R))(hne:g≠R):jF W' g cs:=h.keep (hg.block g h.lt (fun e=>hne (zbB e)))
theorem jF.set{W:World}{g j:Nat}{cs:Array Value}(h:jF W g cs)(v:Value):jF (W.setCell ⟨g,j,none⟩ v) g (cs.setIfInBounds j v) :=
 ⟨by rw[setCell_eq_setRow _ _ _ _ _ _ _ h.1];exact setRow_heap _ _ _ _ _ _ h.1,by rw[Array.size_setIfInBounds];exact h.2⟩
theorem jF.other{W:World}{g k j:Nat}{cs:Array Value}(h:jF W g cs)(v:Value)(hne:g≠k):jF (W.setCell ⟨k,j,none⟩ v) g cs:=h.keep (zbQ _ _ _ _ hne)
theorem jF.row{W:World}{g:Nat}{cs:Array Value}(h:jF W g cs)(cs':Array Value)(hs:cs'.size=8):jF (W.setRow g cs') g cs':=⟨setRow_heap _ _ _ _ _ _ h.1,hs⟩
theorem jF.Ce{W:World}{g k:Nat}{cs:Array Value}(h:jF W g cs)(cs':Array Value)(hne:g≠k):jF (W.setRow k cs') g cs:=h.keep (setRow_other _ _ _ _ hne)
theorem jF.cell{W:World}{g:Nat}{cs:Array Value}(h:jF W g cs)(j:Nat)(v:Value)(hj:cs[j]?=some v):W.cell? ⟨g,j,none⟩=some v/\W.frozen? ⟨g,j,none⟩=false:=by
 constructor
 ·simp only[World.cell?,h.1];exact hj
 ·simp[World.frozen?,h.1]
theorem Yr(g:Nat):∀ (vs:List Value) (i:Nat),storeCells ⟨g,2,none⟩ vs i=storeCells ⟨g,0,none⟩ vs (2+i)
 |[],_=>rfl
 |v::rest,i=>by
  have e:(⟨g,2,none⟩:Addr).add i=(⟨g,0,none⟩:Addr).add (2+i):=by
   unfold Addr.add;by_cases h:i=0
   ·subst h;simp
   ·simp[h]
  unfold storeCells;rw[e,Yr g rest (i+1)];rfl
theorem Ib{ops:Array Oper}{rest:List Oper}{o:Oper}{a:Act}{w:World}{Q:Exit->Act->World->Prop}(hgd:o.guard=none)(x y:Operand)(ho:o.op=.store 29 x y)
  (g:Nat) (X:XV) (cs:Array Value) (n m:Value) (hx:a.eval x=.pointer (some ⟨g,2,none⟩)) (hy:a.eval y=X.val) (hg:jF w g cs) (hcs:cs.toList.take 2=[n,m]) (h1:X.ns.oneCell'=true) (h2:X.ks.oneCell'=true)
  (h:wpList Tryz.prog ops Q rest (a.put o.dst undef) (w.setRow g #[n,m,.int .i64 X.kind,.string X.text,X.ns,.int .i64 X.lo,.int .i64 X.hi,X.ks])):wpList Tryz.prog ops Q (o::rest) a w:=by
 have hrun:(storeVar 29 ⟨g,2,none⟩ X.val).run Tryz.prog w=.ok () (w.setRow g #[n,m,.int .i64 X.kind,.string X.text,X.ns,.int .i64 X.lo,.int .i64 X.hi,X.ks]):=by
  have h3:=run_storeCells_from (P:=Tryz.prog) g 31 X.cells 2 cs w hg.1 (by rw[hg.2];rfl) (by
   intro u hu;simp[XV.cells]at hu;rcases hu with rfl|rfl|rfl|rfl|rfl|rfl
   all_goals first|rfl|assumption)
  rw[hcs]at h3
  cases hq:Tryz.prog.info? 29 with
  |none=>have:=GV;rw[hq]at this;cases this
  |some i =>
   have hs:i.size=6:=by have:=GV;rw[hq]at this;simpa using this
   have hc:=Yr g X.cells 0;simp[storeVar,sizeOf,typeInfo,hq,XV.val,Value.cells,hs];exact(congrArg (fun m=>Sem.run Tryz.prog m w) hc).trans h3
 refine wpList_plain hgd fun K hK=>?_
 unfold Oper.wp execOp;simp only[ho,hx,hy,Instr.storeAt,Instr.sureAddr,Sem.run_bind,Sem.run_pure,Result.andThen_ok,hrun];exact hK _ _ h
theorem AO{ops:Array Oper}{rest:List Oper}{o:Oper}{a:Act}{w:World}{Q:Exit->Act->World->Prop}(hgd:o.guard=none)(x:Operand)(ho:o.op=.load 31 x)
  (g:Nat) (y:LV) (hx:a.eval x=.pointer (some ⟨g,0,none⟩)) (hg:jF w g y.arr)
  (h:wpList Tryz.prog ops Q rest (a.put o.dst y.val) w):wpList Tryz.prog ops Q (o::rest) a w :=
 wpList_load_row hgd 31 x ho g hx 31 y.arr (0,0) _ hg.1 Tryz.underlying31 rfl Sv h
theorem yU{ops:Array Oper}{rest:List Oper}{o:Oper}{a:Act}{w:World}{Q:Exit->Act->World->Prop}(hgd:o.guard=none)(x z:Operand)(ho:o.op=.store 31 x z)
  (g:Nat) (y:LV) (cs:Array Value) (hx:a.eval x=.pointer (some ⟨g,0,none⟩)) (hy:a.eval z=y.val) (hg:jF w g cs) (h1:y.expr.ns.oneCell'=true) (h2:y.expr.ks.oneCell'=true)
  (h:wpList Tryz.prog ops Q rest (a.put o.dst undef) (w.setRow g y.arr)):wpList Tryz.prog ops Q (o::rest) a w :=
 wpList_store_row hgd 31 x z ho g y.arr hx hy 31 cs hg.1 Sv (by rw[hg.2];rfl) (by simp[LV.arr,h1,h2];exact⟨rfl,rfl,rfl,rfl,rfl,rfl⟩) h
theorem AP{fn:Func}{p:Tmp}(h:fn.results=#[.cell p 31])(tmps:Array Value)(w:World)(g:Nat)(y:LV)(cs:Array Value)(hp:tmps.getD p undef=.pointer (some ⟨g,0,none⟩))(hg:jF w g cs) :
  (results fn tmps).run Tryz.prog (w.setRow g y.arr)=.ok y.val (w.setRow g y.arr) :=
 results_cell_row h tmps _ g 31 y.arr (0,0) _ hp (setRow_heap _ _ _ _ _ _ hg.1) Tryz.underlying31 rfl Sv
def Kr:Array Value:=#[.string ⟨#[]⟩,.bool false,.int .i64 0,.string ⟨#[]⟩,.slice none 0 0,.int .i64 0,.int .i64 0,.slice none 0 0]
theorem Kt(w:World):jF (w.alloc (.cells #[.string ⟨#[]⟩,.bool false,.int .i64 0,.string ⟨#[]⟩,.slice none 0 0,.int .i64 0,.int .i64 0,.slice none 0 0] 31)) w.heap.size Kr:=⟨zbO w _,rfl⟩
theorem Yt{W:World}{g:Nat}{cs:Array Value}(h:jF W g cs)(o:Obj):jF (W.alloc o) g cs:=h.keep (zbP W o g h.lt)
theorem jF.under{W W':World}{g:Nat}{cs:Array Value}(h:jF W g cs)(hb:Below W.heap.size W W'):jF W' g cs:=h.keep (hb.block g h.lt)
theorem Yu{x:List Int}(m:Bool):(((Kr.setIfInBounds 0 (.string (ak x))).setIfInBounds 1 (.bool m)).toList.take 2)=[.string (ak x),.bool m]:=rfl
theorem Yv:(Tryz.prog.info? 31).map (fun i=>(i.zero,i.size,i.bytes))=some (some (.agg #[.string ⟨#[]⟩,.bool false,.int .i64 0,.string ⟨#[]⟩,.slice none 0 0,.int .i64 0,.int .i64 0,.slice none 0 0]),8,112):=by kernel_rfl
theorem zxc(y:LV)(h1:y.expr.ns.oneCell'=true)(h2:y.expr.ks.oneCell'=true) :
  Instr.fill (fun i=>some (i*8,8)) ((Array.range (1*8)).map ((Value.agg #[.string ⟨#[]⟩,.bool false,.int .i64 0,.string ⟨#[]⟩,.slice none 0 0,.int .i64 0,.int .i64 0,.slice none 0 0]).cells[·%8]!)) [(0,y.val)]=some y.arr:=by
 obtain⟨a,b,c⟩:=y
 cases c
 kernel_rfl
theorem Yw{ops:Array Oper}{rest:List Oper}{o:Oper}{a:Act}{w:World}{Q:Exit->Act->World->Prop}(hgd:o.guard=none)(z:Operand)(ho:o.op=.buildSlice 23 1 #[(0,z)])
  (y:LV) (hy:a.eval z=y.val) (h1:y.expr.ns.oneCell'=true) (h2:y.expr.ks.oneCell'=true)
  (h:wpList Tryz.prog ops Q rest (a.put o.dst (.slice (some ⟨w.heap.size,0,none⟩) 1 1)) (w.alloc (.cells y.arr 31))):wpList Tryz.prog ops Q (o::rest) a w:=by
 obtain⟨i0,hi0,hi1⟩:=Option.map_eq_some_iff.1 Yv;obtain⟨hz0,hz1,hz2⟩:i0.zero=some _/\i0.size=8/\i0.bytes=_:=by simpa using hi1
 refine wpList_buildSlice hgd 23 31 1 #[(0,z)] ho y.arr i0 _ Tryz.underlying23 hi0 hz0 (by rw[hz1];decide) (by rw[hz1];decide) ?_ h;rw[hz1];simp only[List.map_toArray,List.map_cons,List.map_nil,hy];exact zxc y h1 h2
theorem zlx{w:World}{g:Nat}{y:LV}(hb:w.heap[g]?=some (.cells y.arr 31 (0,0))):∀ (j:Nat) (u:Value),y.cells[j]?=some u->w.cell? ((⟨g,0,none⟩:Addr).add j)=some u:=by
 intro j u hj;have e:(⟨g,0,none⟩:Addr).add j=⟨g,j,none⟩:=by cases j<;>simp[Addr.add]
 rw[e];simp only[World.cell?,hb];have:y.arr.toList=y.cells:=rfl;rw[<- this]at hj;simpa using hj
theorem Yx{ops:Array Oper}{rest:List Oper}{o:Oper}{a:Act}{w:World}{Q:Exit->Act->World->Prop}(hgd:o.guard=none)(sx xx:Operand)
  (ho:o.op=.call { callee:=.builtin .append,args:=#[sx,xx],argTypes:=#[23,23] }) (base:Nat) (v:Value) (l:List Rule) (t:Rule) (x:LV) (g:Nat)
  (hs:a.eval sx=v) (hx:a.eval xx=.slice (some ⟨g,0,none⟩) 1 1) (hk:jD w base v l) (ht:tH w (fun b=>base<=b/\some b≠v.ownBlock) x t)
  (hb:w.heap[g]?=some (.cells x.arr 31 (0,0))) (hl:l.length<=100000) (hbase:base<=w.heap.size)
  (h:∀ v' w',jD w' base v' (l++[t])->w.grownBy w' v.ownBlock->wpList Tryz.prog ops Q rest (a.put o.dst v') w'):wpList Tryz.prog ops Q (o::rest) a w:=by
 obtain⟨i0,hi0,hi1⟩:=Option.map_eq_some_iff.1 Yv;obtain⟨hz0,hz1,hz2⟩:i0.zero=some _/\i0.size=8/\i0.bytes=_:=by simpa using hi1
 obtain⟨vs,h1,h2,h3⟩:=hk;have o2:=fq ht.2.2;have o5:=eU ht.2.2;refine wpList_append_own_at _ hgd sx xx 23 ho base 31 i0 _ 8 112 Tryz.underlying23 hi0 hz0 hz1 hz2 rfl (by decide) v l.length (vs.flatMap LV.cells) hs h2 ⟨g,0,none⟩ 1 1 x.cells hx rfl (zlx hb) ?_ (by unfold maxLen;omega) (by omega) hbase ?_
 ·intro u hu;simp[LV.cells]at hu;rcases hu with rfl|rfl|rfl|rfl|rfl|rfl|rfl|rfl
  all_goals first|rfl|assumption
 ·intro v' w' hown hgrow _ hat;exact h v' w' (jD.push h1 h2 h3 ht hown hgrow (hat.imp id (fun e=>⟨_,e,zbA _⟩))) hgrow
theorem zrb{W w w':World}{base R:Nat}{v:Value}{l:List Rule}(hk:jD w base v l)(h:W.grownBy w (some R))(hg:w.grownBy w' v.ownBlock)(hW:W.heap.size<=base):W.grownBy w' (some R):=by
 obtain⟨vs,_,h2,_⟩:=hk;rcases fB h2 with ⟨rfl,_⟩|⟨g,cap,rfl⟩
 ·exact h.trans ⟨hg.os,hg.tape,hg.output,hg.size,fun k hk _=>hg.block k hk (by simp[Value.ownBlock])⟩
 ·have hb:=(iX h2).1;exact Nr h hg (show W.heap.size<=g by omega)
theorem Yy{w w1:World}{base:Nat}{v:Value}{l:List Rule}{x:LV}{t:Rule}(hk:jD w base v l)(ht:tH w1 (fun b=>w.heap.size<=b) x t)(hb:base<=w.heap.size):tH w1 (fun b=>base<=b/\some b≠v.ownBlock) x t:=by
 obtain⟨vs,_,h2,_⟩:=hk;refine ht.kept (fun b hP _=>⟨rfl,by omega,fun e=>?_⟩) (zbA _);rcases fB h2 with ⟨rfl,_⟩|⟨k,cap,rfl⟩
 ·simp[Value.ownBlock]at e
 ·have hb:=(iX h2).2.2.2;have:=zbB e;simp at this;omega
theorem Yz{s:ByteArray}{p e:Nat}(hp:p<s.size)(h:eH (rd s) p=some e):p<e:=by
 have h1:=qI (by omega) h;by_cases hpe:p<e
 ·exact hpe
 ·have he:e=p:=by omega
  subst he;exfalso;have hc:=Yh (s:=s) (p:=e) (by omega);unfold eH at h;split at h
  ·rename_i h0;have h2:ji (rd s) e=e:=by have:=zbB h;omega
   rw[h2,pO hp]at h0;omega
  ·split at h
   ·have:=zbB h;omega
   ·split at h
    ·have:=zbB h;omega
    ·cases h
theorem zug{s:ByteArray}{p q:Nat}{x:Rule}(hp:p<=s.size)(h:bU (rd s) p (.ok x q)):p+1<=q/\q<=s.size/\(aH (rd s p)=true->p+2<=q):=by
 cases h with
 |ok hn nK ha he =>
  rename_i q1 q2 x0 t0;have h1:=E8 hp hn;have h2:=wT h1.2;have hlt:=fP (by omega) nK
  have h3:bN (rd s) q1+1<=iB (rd s) q1/\iB (rd s) q1<=s.size:=by
   unfold iB;split
   ·rename_i h47;have:=fP (by omega) h47;omega
   ·omega
  have h4:=wT h3.2;have h5:=ha.bound trivial h4.2.2 _ _ rfl;have h6:=qI h5.2 he;refine⟨by omega,by omega,fun hal=>?_⟩
  have h7:p+1<=q1:=by
   obtain⟨hr,hq⟩:=yT (P:=dM) (by decide) hp;unfold lU at hn;split at hn
   ·cases hn
   ·cases hn
    have hle:=hr.le;by_cases g:p+1<=jC dM (rd s) p
    ·exact g
    ·have e:jC dM (rd s) p=p:=by omega
     have hst:=hr.stop;rw[e]at hst;have:dM (rd s p)=true:=by unfold dM;simp[hal]
     rw[this]at hst
     cases hst
  omega
theorem Sw{W:World}{base:Nat}{v:Value}{l:List Rule}(h:jD W base v l):(v=.slice none 0 0/\l.length=0)\/∃ g cap,v=.slice (some ⟨g,0,none⟩) l.length cap:=by
 obtain⟨vs,_,h2,_⟩:=h;exact fB h2
def uM(B g0 g1:Nat)(c:Int)(w w':World):Prop:=w'.cell? ⟨g0,0,none⟩=some (.slice none 0 0)/\w'.cell? ⟨g1,0,none⟩=some (.int .i64 c)/\Below B w w'
theorem Oq{w:World}{g h:Nat}{x:Value}(hne:g≠h)(v:Value)(hc:w.cell? ⟨h,0,none⟩=some x):((w.drew).setCell ⟨g,0,none⟩ v).cell? ⟨h,0,none⟩=some x:=by
 rw[World.cell?_setCell_other _ _ _ _ (fun e=>hne (by injection e))];exact hc
theorem Ic{w:World}{g:Nat}{x:Value}(v:Value)(hc:w.cell? ⟨g,0,none⟩=some x):(w.setCell ⟨g,0,none⟩ v).cell? ⟨g,0,none⟩=some v:=by
 obtain⟨o,ho⟩:∃ o,w.heap[g]?=some o:=by
  cases h:w.heap[g]? with
  |some o=>exact⟨o,rfl⟩
  |none=>simp[World.cell?,h]at hc
 cases o with
 |cells cs t fr =>
  have hs:0<cs.size:=by
   simp only[World.cell?,ho]at hc;exact(zbD.1 hc).1
  rw[setCell_eq_setRow _ _ _ _ _ _ _ ho,cell_setRow_same _ _ _ _ _ _ _ ho];simp[hs]
 |_=>simp[World.cell?,ho]at hc
theorem qal{w:World}{B g0 g1:Nat}{x y:Value}{c:Int}(hne:g0≠g1)(hb0:B<=g0)(hb1:B<=g1)(h0:w.cell? ⟨g0,0,none⟩=some x)(h1:w.cell? ⟨g1,0,none⟩=some y) :
  uM B g0 g1 c w ((w.drew.setCell ⟨g0,0,none⟩ (.slice none 0 0)).setCell ⟨g1,0,none⟩ (.int .i64 c)) :=
 ⟨by rw[World.cell?_setCell_other _ _ _ _ (fun e=>hne (by injection e with e;exact e.symm))];exact Ic (w:=w.drew) _ h0,Ic _ (Oq hne _ h1),((zbE _ _).drew.setCell hb0 _).setCell hb1 _⟩
theorem qam{w:World}{B g0 g1:Nat}{x y:Value}{c:Int}(hne:g0≠g1)(hb0:B<=g0)(hb1:B<=g1)(h0:w.cell? ⟨g0,0,none⟩=some x)(h1:w.cell? ⟨g1,0,none⟩=some y) :
  uM B g0 g1 c w ((w.drew.setCell ⟨g1,0,none⟩ (.int .i64 c)).setCell ⟨g0,0,none⟩ (.slice none 0 0)) :=
 ⟨Ic _ (Oq (fun e=>hne e.symm) _ h0),by rw[World.cell?_setCell_other _ _ _ _ (fun e=>hne (by injection e))];exact Ic (w:=w.drew) _ h1,((zbE _ _).drew.setCell hb1 _).setCell hb0 _⟩
theorem jD.base{W:World}{base base':Nat}{v:Value}{l:List Rule}(h:jD W base v l)(hb:base'<=base):jD W base' v l:=by
 obtain⟨vs,h1,h2,h3⟩:=h;exact⟨vs,h1,zzf h2 hb,fun i y r hy hr=>(h3 i y r hy hr).kept (fun b hP _=>⟨rfl,by omega,hP.2⟩) (zbA _)⟩
def uN(s:ByteArray)(r:Got (List Rule)):Prop:=if 50000<s.size then r=.err 2 else Rules (rd s) [] 0 r
def YA(s:ByteArray)(w:World)(e:Ending)(w':World):Prop :=
 ∃ r:Got (List Rule),uN s r/\Below w.heap.size w w'/\match r with
  |.ok l _=>∃ v,e=.returned (.tuple #[v,.int .i64 0])/\jD w' w.heap.size v l
  |.err c=>e=.returned (.tuple #[.slice none 0 0,.int .i64 c])
theorem vT{c:Int}(h:aH c=true):c≠40/\c≠91/\c≠34/\c≠37:=by
 unfold aH at h;simp at h;omega
theorem aK.one{f:Nat->Int}{k:Ask}{d p:Nat}{r:Got Tree}(h:aK f k d p r):∀ r',aK f k d p r'->r=r':=by
 induction h with
 |jS _ _ ih1 ih2=>intro r' h';cases h' with|jS a b=>cases ih1 _ a;exact ih2 _ b|ku a=>cases ih1 _ a
 |ku _ ih=>intro r' h';cases h' with|jS a b=>cases ih _ a|ku a=>exact ih _ a
 |gV h=>intro r' h';cases h' with|gV=>rfl|jT e=>exact absurd e h|jk e=>exact absurd e h
 |jT h _ _ ih1 ih2=>intro r' h';cases h' with|gV e=>exact absurd h e|jT _ a b=>cases ih1 _ a;exact ih2 _ b|jk _ a=>cases ih1 _ a
 |jk h _ ih=>intro r' h';cases h' with|gV e=>exact absurd h e|jT _ a b=>cases ih _ a|jk _ a=>exact ih _ a
 |jU _ _ ih1 ih2=>intro r' h';cases h' with|jU a b=>cases ih1 _ a;exact ih2 _ b|kC a=>cases ih1 _ a
 |kC _ ih=>intro r' h';cases h' with|jU a b=>cases ih _ a|kC a=>exact ih _ a
 |dS h=>intro r' h';cases h' with|dS=>rfl|iO e=>exact absurd e h|iy e=>exact absurd e h
 |iO h _ _ ih1 ih2=>intro r' h';cases h' with|dS e=>exact absurd h e|iO _ a b=>cases ih1 _ a;exact ih2 _ b|iy _ a=>cases ih1 _ a
 |iy h _ ih=>intro r' h';cases h' with|dS e=>exact absurd h e|iO _ a b=>cases ih _ a|iy _ a=>exact ih _ a
 |dU h=>intro r' h';cases h' with
  |dU e=>rw[h]at e;cases e;rfl
  |iA e _=>rw[h]at e;cases e
  |fE e _=>rw[h]at e;cases e
  |gW e _ _=>rw[h]at e;cases e
  |kQ e _ _=>rw[h]at e;cases e
 |iA h _ ih=>intro r' h';cases h' with
  |dU e=>rw[h]at e;cases e
  |iA e a=>rw[h]at e;cases e;exact ih _ a
  |fE e a=>rw[h]at e;cases e;cases ih _ a
  |gW e a _=>rw[h]at e;cases e;cases ih _ a
  |kQ e a _=>rw[h]at e;cases e;cases ih _ a
 |fE h _ ih=>intro r' h';cases h' with
  |dU e=>rw[h]at e;cases e
  |iA e a=>rw[h]at e;cases e;cases ih _ a
  |fE e a=>rw[h]at e;cases e;exact ih _ a
  |gW e a _=>rw[h]at e;cases e
  |kQ e a _=>rw[h]at e;cases e
 |gW h _ hb ih=>intro r' h';cases h' with
  |dU e=>rw[h]at e;cases e
  |iA e a=>rw[h]at e;cases e;cases ih _ a
  |fE e a=>rw[h]at e;cases e
  |gW e a _=>rfl
  |kQ e a n=>rw[h]at e;cases e;exact absurd hb n
 |kQ h _ hb ih=>intro r' h';cases h' with
  |dU e=>rw[h]at e;cases e
  |iA e a=>rw[h]at e;cases e;cases ih _ a
  |fE e a=>rw[h]at e;cases e
  |gW e a n=>rw[h]at e;cases e;exact absurd n hb
  |kQ e a n=>rw[h]at e;cases e;cases ih _ a;rfl
 |mV h1 h2=>intro r' h';have hne:=vT h1;cases h'<;>first|rfl|(exfalso;omega)|grind
 |l9 h1 h2=>intro r' h';have hne:=vT h1;cases h'<;>first|rfl|(exfalso;omega)|grind
 |deep h1 h2=>intro r' h';cases h'<;>first|rfl|(exfalso;omega)|(have hne:=vT ‹_›;exfalso;omega)|grind
 |vO h1 h2 _ ih=>intro r' h';cases h'<;>first|(exfalso;omega)|(have hne:=vT ‹_›;exfalso;omega)|(exact ih _ ‹_›)|(cases ih _ ‹_›;done)|grind
 |qJ h1 h2 _ h4 ih=>intro r' h';cases h'<;>first|rfl|(exfalso;omega)|(have hne:=vT ‹_›;exfalso;omega)|(cases ih _ ‹_›;done)|grind
 |round h1 h2 _ h4 ih=>intro r' h';cases h'<;>first|(exfalso;omega)|(have hne:=vT ‹_›;exfalso;omega)|(cases ih _ ‹_›;done)|(cases ih _ ‹_›;rfl)|grind
 |square h1 h2 _ h4 ih=>intro r' h';cases h'<;>first|(exfalso;omega)|(have hne:=vT ‹_›;exfalso;omega)|(cases ih _ ‹_›;done)|(cases ih _ ‹_›;rfl)|grind
 |mg h1 h2=>intro r' h';cases h'<;>first|(exfalso;omega)|(have hne:=vT ‹_›;exfalso;omega)|grind
 |mh h1 h2=>intro r' h';cases h'<;>first|(exfalso;omega)|(have hne:=vT ‹_›;exfalso;omega)|grind
 |mq h1 h2 h3=>intro r' h';cases h'<;>first|(exfalso;omega)|(have hne:=vT ‹_›;exfalso;omega)|grind
 |jl h1 h2 h3=>intro r' h';cases h'<;>first|(exfalso;omega)|(have hne:=vT ‹_›;exfalso;omega)|grind
 |value h1 h2 _ ih=>intro r' h';cases h' with
  |value _ e a=>rw[h2]at e;cases e;exact ih _ a
  |mq _ e _=>rw[h2]at e;cases e
  |jl _ e _=>rw[h2]at e;cases e
  |kD _ e=>rw[h2]at e;cases e
  |mV e _=>have:=vT e;omega
  |l9 e _=>have:=vT e;omega
  |_=>exfalso;omega
 |kD h1 h2=>intro r' h';cases h'<;>first|rfl|(exfalso;omega)|(have hne:=vT ‹_›;exfalso;omega)|grind
 |no h1 h2 h3 h4 h5=>intro r' h';cases h'<;>first|rfl|(exfalso;omega)|grind
 |gF h=>intro r' h';cases h' with
  |gF e=>rw[h]at e;cases e;rfl
  |gX e _ _=>rw[h]at e;cases e
  |fF e _ _ _=>rw[h]at e;cases e
  |span e _ _ _=>rw[h]at e;cases e
  |nums e _ _=>rw[h]at e;cases e
 |gX h h2 h3=>intro r' h';cases h' with
  |gF e=>rw[h]at e;cases e
  |gX e _ e3=>rw[h]at e;cases e;rw[h3]at e3;cases e3;rfl
  |fF e _ e3 _=>rw[h]at e;cases e;rw[h3]at e3;cases e3
  |span e _ e3 _=>rw[h]at e;cases e;rw[h3]at e3;cases e3
  |nums e e2 _=>rw[h]at e;cases e;exact absurd h2 e2
 |fF h h2 h3 h4=>intro r' h';cases h' with
  |gF e=>rw[h]at e;cases e
  |gX e _ e3=>rw[h]at e;cases e;rw[h3]at e3;cases e3
  |fF e _ e3 _=>rfl
  |span e _ e3 e4=>rw[h]at e;cases e;rw[h3]at e3;cases e3;exact absurd h4 e4
  |nums e e2 _=>rw[h]at e;cases e;exact absurd h2 e2
 |span h h2 h3 h4=>intro r' h';cases h' with
  |gF e=>rw[h]at e;cases e
  |gX e _ e3=>rw[h]at e;cases e;rw[h3]at e3;cases e3
  |fF e _ e3 e4=>rw[h]at e;cases e;rw[h3]at e3;cases e3;exact absurd e4 h4
  |span e _ e3 e4=>rw[h]at e;cases e;rw[h3]at e3;cases e3;rfl
  |nums e e2 _=>rw[h]at e;cases e;exact absurd h2 e2
 |nums h h2 _ ih=>intro r' h';cases h' with
  |gF e=>rw[h]at e;cases e
  |gX e e2 e3=>rw[h]at e;cases e;exact absurd e2 h2
  |fF e e2 e3 e4=>rw[h]at e;cases e;exact absurd e2 h2
  |span e e2 e3 e4=>rw[h]at e;cases e;exact absurd e2 h2
  |nums e e2 a=>rw[h]at e;cases e;exact ih _ a
 |iP h=>intro r' h';cases h' with|iP=>rfl|jm e _=>exact absurd e h|jV e _ _=>exact absurd e h
 |jm h h2=>intro r' h';cases h' with
  |iP e=>exact absurd h e
  |jm _ e=>rw[h2]at e;cases e;rfl
  |jV _ e _=>rw[h2]at e;cases e
 |jV h h2 _ ih=>intro r' h';cases h' with
  |iP e=>exact absurd h e
  |jm _ e=>rw[h2]at e;cases e
  |jV _ e a=>rw[h2]at e;cases e;exact ih _ a
theorem bU.one{f:Nat->Int}{p:Nat}{r r':Got Rule}(h:bU f p r)(h':bU f p r'):r=r':=by
 cases h with
 |name h=>cases h' with
  |name e=>rw[h]at e;cases e;rfl
  |sj e _=>rw[h]at e;cases e
  |err e _ _=>rw[h]at e;cases e
  |mD e _ _ _=>rw[h]at e;cases e
  |ok e _ _ _=>rw[h]at e;cases e
 |sj h h2=>cases h' with
  |name e=>rw[h]at e;cases e
  |sj e _=>rfl
  |err e e2 _=>rw[h]at e;cases e;exact absurd e2 h2
  |mD e e2 _ _=>rfl
  |ok e e2 _ _=>rw[h]at e;cases e;exact absurd e2 h2
 |err h h2 h3=>cases h' with
  |name e=>rw[h]at e;cases e
  |sj e e2=>rw[h]at e;cases e;exact absurd h2 e2
  |err e _ a=>rw[h]at e;cases e;cases h3.one _ a;rfl
  |mD e _ a _=>rw[h]at e;cases e;cases h3.one _ a
  |ok e _ a _=>rw[h]at e;cases e;cases h3.one _ a
 |mD h h2 h3 h4=>cases h' with
  |name e=>rw[h]at e;cases e
  |sj e e2=>rfl
  |err e _ a=>rw[h]at e;cases e;cases h3.one _ a
  |mD e _ a _=>rfl
  |ok e _ a e4=>rw[h]at e;cases e;cases h3.one _ a;rw[h4]at e4;cases e4
 |ok h h2 h3 h4=>cases h' with
  |name e=>rw[h]at e;cases e
  |sj e e2=>rw[h]at e;cases e;exact absurd h2 e2
  |err e _ a=>rw[h]at e;cases e;cases h3.one _ a
  |mD e _ a e4=>rw[h]at e;cases e;cases h3.one _ a;rw[h4]at e4;cases e4
  |ok e _ a e4=>rw[h]at e;cases e;cases h3.one _ a;rw[h4]at e4;cases e4;rfl
theorem Rules.one{f:Nat->Int}{l:List Rule}{p:Nat}{r:Got (List Rule)}(h:Rules f l p r):∀ r',Rules f l p r'->r=r':=by
 have key:∀ c:Int,c<0->aH c=true->False:=by
  intro c hc h;unfold aH at h;simp at h;omega
 induction h with
 |done h=>intro r' h';cases h' with
  |done=>rfl
  |empty e _ _ _=>omega
  |bad e _ _=>omega
  |err e _=>exact(key _ h e).elim
  |many e _ _=>exact(key _ h e).elim
  |rule e _ _ _=>exact(key _ h e).elim
 |empty h h2 h3 _ ih=>intro r' h';cases h' with
  |done e=>omega
  |empty _ _ e a=>rw[h3]at e;cases e;exact ih _ a
  |bad _ _ e=>rw[h3]at e;cases e
  |err e _=>rw[h2]at e;cases e
  |many e _ _=>rw[h2]at e;cases e
  |rule e _ _ _=>rw[h2]at e;cases e
 |bad h h2 h3=>intro r' h';cases h' with
  |done e=>omega
  |empty _ _ e a=>rw[h3]at e;cases e
  |bad _ _ e=>rfl
  |err e _=>rw[h2]at e;cases e
  |many e _ _=>rw[h2]at e;cases e
  |rule e _ _ _=>rw[h2]at e;cases e
 |err h h2=>intro r' h';cases h' with
  |done e=>exact(key _ e h).elim
  |empty _ e _ _=>rw[h]at e;cases e
  |bad _ e _=>rw[h]at e;cases e
  |err _ a=>cases h2.one a;rfl
  |many _ a _=>cases h2.one a
  |rule _ a _ _=>cases h2.one a
 |many h h2 h3=>intro r' h';cases h' with
  |done e=>exact(key _ e h).elim
  |empty _ e _ _=>rw[h]at e;cases e
  |bad _ e _=>rw[h]at e;cases e
  |err _ a=>cases h2.one a
  |many _ a _=>rfl
  |rule _ a e _=>omega
 |rule h h2 h3 _ ih=>intro r' h';cases h' with
  |done e=>exact(key _ e h).elim
  |empty _ e _ _=>rw[h]at e;cases e
  |bad _ e _=>rw[h]at e;cases e
  |err _ a=>cases h2.one a
  |many _ a e=>omega
  |rule _ a _ b=>cases h2.one a;exact ih _ b
theorem uN.one{s:ByteArray}{r r':Got (List Rule)}(h:uN s r)(h':uN s r'):r=r':=by
 unfold uN at h h';split at h
 ·rw[if_pos ‹_›]at h';rw[h,h']
 ·rw[if_neg ‹_›]at h';exact h.one _ h'
theorem YB(s:ByteArray):(s==s)=true:=(Go.MapKept.bytes_beq s s).2 rfl
theorem zxd(s:ByteArray):(s != s)=false:=by
 show (!(s==s))=false
 rw[YB];rfl
def E9(W:World)(g:Nat)(k:Int)(s:ByteArray)(ns:Value)(lo hi:Int)(ks:Value):Prop :=
 W.cell? ⟨g,0,none⟩=some (.int .i64 k)/\W.cell? ⟨g,1,none⟩=some (.string s)/\W.cell? ⟨g,2,none⟩=some ns/\W.cell? ⟨g,3,none⟩=some (.int .i64 lo)/\W.cell? ⟨g,4,none⟩=some (.int .i64 hi)/\W.cell? ⟨g,5,none⟩=some ks
def Boxed(w:World)(k lo hi:Int)(s:ByteArray)(a b c d:Option Addr)(n m ca cb cc cd:Nat)(wr:World):Prop :=
 E9 wr w.heap.size k s (.slice a n ca) lo hi (.slice c m cc)/\E9 wr (w.heap.size+1) k s (.slice b n cb) lo hi (.slice d m cd)/\Below w.heap.size w wr
theorem zxe(w:World)(k lo hi:Int)(s:ByteArray)(a b c d:Option Addr)(n m ca cb cc cd:Nat) :
  Boxed w k lo hi s a b c d n m ca cb cc cd ((w.alloc (.cells #[.int .i64 k,.string s,.slice a n ca,.int .i64 lo,.int .i64 hi,.slice c m cc] 29)).alloc (.cells #[.int .i64 k,.string s,.slice b n cb,.int .i64 lo,.int .i64 hi,.slice d m cd] 29)):=by
 refine⟨?_,?_,((zbE _ _).alloc (zbA _) _).alloc (by simp) _⟩
 ·unfold E9;simp[go_sem]
 ·unfold E9;simp[go_sem]
theorem Boxed.drew{w:World}{k lo hi:Int}{s:ByteArray}{a b c d:Option Addr}{n m ca cb cc cd:Nat}{wr:World}(h:Boxed w k lo hi s a b c d n m ca cb cc cd wr)(q:Nat):Boxed w k lo hi s a b c d n m ca cb cc cd (wr.drewN q):=⟨h.1,h.2.1,dJ h.2.2 q⟩
theorem E9.under{W W1:World}{g:Nat}{k lo hi:Int}{s:ByteArray}{ns ks:Value}(h:E9 W g k s ns lo hi ks)(hb:Below W.heap.size W W1):E9 W1 g k s ns lo hi ks:=by
 have hg:g<W.heap.size:=World.block_lt_of_cell? W ⟨g,0,none⟩ h.1;obtain⟨h0,h1,h2,h3,h4,h5⟩:=h;exact⟨(hb.cell (p:=⟨g,0,none⟩) hg).trans h0,(hb.cell (p:=⟨g,1,none⟩) hg).trans h1,(hb.cell (p:=⟨g,2,none⟩) hg).trans h2,(hb.cell (p:=⟨g,3,none⟩) hg).trans h3,(hb.cell (p:=⟨g,4,none⟩) hg).trans h4,(hb.cell (p:=⟨g,5,none⟩) hg).trans h5⟩
theorem Boxed.under{w:World}{k lo hi:Int}{s:ByteArray}{a b c d:Option Addr}{n m ca cb cc cd:Nat}{wr w1:World}(h:Boxed w k lo hi s a b c d n m ca cb cc cd wr)(hb:Below wr.heap.size wr.drew w1):Boxed w k lo hi s a b c d n m ca cb cc cd w1:=by
 have h2:Below wr.heap.size wr w1:=⟨hb.os,hb.tape,hb.output,hb.size,hb.block⟩
 exact⟨h.1.under h2,h.2.1.under h2,h.2.2.trans (h2.mono h.2.2.size)⟩
end Go.Proofs.YtahibnnhjahmnaaGreatDoor
