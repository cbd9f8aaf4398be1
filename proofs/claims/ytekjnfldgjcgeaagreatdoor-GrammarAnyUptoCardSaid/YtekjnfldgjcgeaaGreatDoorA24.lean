/- Part 24 of what the laws of the grammar rest on. -/
import Derived.Test.YtekjnfldgjcgeaaGreatDoorA0
import Derived.Test.YtekjnfldgjcgeaaGreatDoorA9
set_option linter.all false
set_option maxRecDepth 100000
set_option maxHeartbeats 8000000
namespace Go.Proofs.YtekjnfldgjcgeaaGreatDoor
def Once (g:List GR):Prop:=(g.map GR.name).Nodup
def Has8 (g:List GR) (xs:List (List Int)):Prop:=∀ x∈xs,zay g x≠none
theorem zor {g:List GR} {r:GR} (h:Once g) (hn:zay g r.name=none):Once (g++[r]):=by
 unfold Once at *
 rw [List.map_append,List.nodup_append]
 refine ⟨h,by simp,fun a ha b hb=>?_⟩
 simp at hb
 subst hb
 obtain ⟨u,hu,rfl⟩:=List.mem_map.1 ha
 exact zg9.1 hn u hu
theorem zzj {g:List GR} {i:Nat} {r:GR} {e:Tree} (h:Once g) (hr:g[i]?=some r):Once (g.set i ⟨r.name,e⟩):=by
 unfold Once at *
 have e1:(g.set i ⟨r.name,e⟩).map GR.name=g.map GR.name:=by
  rw [List.map_set]
  apply List.ext_getElem?
  intro j
  by_cases hj:j=i
  ·subst hj
   have hl:=(List.getElem?_eq_some_iff.1 hr).1
   rw [List.getElem?_set_self (by simpa using hl),List.getElem?_map,hr]
   rfl
  ·rw [List.getElem?_set_ne (by omega)]
 rw [e1]
 exact h
theorem zwg {g g':List GR} {l:Rule} (h:Once g) (ht:zcv g l=some g'):Once g':=by
 unfold zcv at ht
 cases hf:zay g l.name with
 | none =>
  rw [hf] at ht
  simp only [] at ht
  split at ht
  ·cases ht
  ·have e:=Option.some.inj ht
   subst e
   exact zor h hf
 | some i =>
  rw [hf] at ht
  simp only [] at ht
  split at ht
  ·obtain ⟨⟨r,h1,h2⟩,_⟩:=zbv.1 hf
   rw [h1] at ht
   have e:=Option.some.inj ht
   subst e
   exact zzj h h1
  ·cases ht
theorem zm0:∀ {ls:List Rule} {g g':List GR},Once g->zbf g ls=some g'->Once g'
 | [],g,g',h,ht=>by
  have e:=Option.some.inj ht
  subst e
  exact h
 | l::ls,g,g',h,ht=>by
  rw [zc3] at ht
  cases hm:zcv g l with
  | none=>rw [hm] at ht;cases ht
  | some g1 =>
   rw [hm] at ht
   exact zm0 (zwg h hm) ht
theorem zzk {g g':List GR} {x:List Int} (h:addM g x=some g'):∃ t,g'=g++t/\(Once g->Once g')/\zay g' x≠none:=by
 unfold addM at h
 cases hf:zay g x with
 | some i =>
  rw [hf] at h
  have e:=Option.some.inj h
  subst e
  exact ⟨[],by simp,id,by rw [hf];simp⟩
 | none =>
  rw [hf] at h
  simp only [] at h
  cases hc:zay zbs x with
  | none=>rw [hc] at h;cases h
  | some c =>
   rw [hc] at h
   obtain ⟨⟨r,h1,h2⟩,_⟩:=zbv.1 hc
   simp only [h1,Option.map_some] at h
   have e:=Option.some.inj h
   subst e
   refine ⟨[r],rfl,fun ho=>zor ho (by rw [h2];exact hf),?_⟩
   rw [zdu,hf]
   simp [zay,h2]
theorem zos {g t:List GR} {x:List Int} (h:zay g x≠none):zay (g++t) x≠none:=by
 rw [zdu]
 cases hf:zay g x with
 | none=>exact absurd hf h
 | some i=>simp
theorem zot:∀ {xs:List (List Int)} {g g':List GR},zbn g xs=some g'->∃ t,g'=g++t/\(Once g->Once g')/\Has8 g' xs
 | [],g,g',h=>by
  have e:=Option.some.inj h
  subst e
  exact ⟨[],by simp,id,fun x hx=>by cases hx⟩
 | x::xs,g,g',h=>by
  change (addM g x).bind (fun g'=>zbn g' xs)=some g' at h
  cases hm:addM g x with
  | none=>rw [hm] at h;cases h
  | some g1 =>
   rw [hm] at h
   obtain ⟨t1,e1,o1,f1⟩:=zzk hm
   obtain ⟨t2,e2,o2,f2⟩:=zot (xs:=xs) (g:=g1) (g':=g') h
   subst e2
   refine ⟨t1++t2,by rw [e1,List.append_assoc],fun h=>o2 (o1 h),fun y hy=>?_⟩
   rcases List.mem_cons.1 hy with rfl | hy
   ·exact zos f1
   ·exact f2 y hy
theorem Compl.gives {n i:Nat} {g:List GR} {R:Option (List GR)} (h:Compl n i g R):∀ g',R=some g'->∃ t,g'=g++t/\(Once g->Once g')/\∀ (j:Nat) (r:GR),i<=j->g'[j]?=some r->Has8 g' (zai r.expr):=by
 induction h with
 | done h =>
  intro g' e
  have e:=Option.some.inj e
  subst e
  exact ⟨[],by simp,id,fun j r hj hr=>by have:=(List.getElem?_eq_some_iff.1 hr).1;omega⟩
 | fail=>intro g' e;cases e
 | @step n i g g1 r R h1 h2 _ ih =>
  intro g' e
  obtain ⟨t1,e1,o1,f1⟩:=zot h2
  obtain ⟨t2,e2,o2,f2⟩:=ih g' e
  refine ⟨t1++t2,by rw [e2,e1,List.append_assoc],fun h=>o2 (o1 h),fun j r' hj hr'=>?_⟩
  by_cases hji:j=i
  ·subst hji
   have hl:=(List.getElem?_eq_some_iff.1 h1).1
   rw [e2,e1,List.append_assoc,List.getElem?_append_left hl,h1] at hr'
   have e3:=Option.some.inj hr'
   subst e3
   intro x hx
   rw [e2]
   exact zos (f1 x hx)
  ·exact f2 j r' (by omega) hr'
def zkf (g:List GR):List Rule:=g.map fun r=>⟨r.name,false,r.expr⟩
theorem zkg:∀ (h g:List GR),Once (g++h)->zbf g (zkf h)=some (g++h)
 | [],g,_=>by simp [zkf,zbf]
 | r::h,g,ho=>by
  have hn:zay g r.name=none:=zg9.2 fun u hu e=>by
   unfold Once at ho
   rw [List.map_append,List.nodup_append] at ho
   exact ho.2.2 u.name (List.mem_map_of_mem hu) r.name (by simp) e
  have e1:zcv g ⟨r.name,false,r.expr⟩=some (g++[r]):=by
   unfold zcv
   simp only [hn]
   rfl
  show zbf g (⟨r.name,false,r.expr⟩::zkf h)=_
  rw [zc3,e1]
  have:=zkg h (g++[r]) (by rw [List.append_assoc];exact ho)
  simpa using this
theorem zou:∀ {xs:List (List Int)} {g:List GR},Has8 g xs->zbn g xs=some g
 | [],g,_=>rfl
 | x::xs,g,h=>by
  have h1:addM g x=some g:=by
   unfold addM
   cases hf:zay g x with
   | none=>exact absurd hf (h x (by simp))
   | some i=>rfl
  show (addM g x).bind (fun g'=>zbn g' xs)=some g
  rw [h1]
  exact zou (fun y hy=>h y (by simp [hy]))
theorem Compl.again:∀ (k i:Nat) (g:List GR),g.length<=i+k->(∀ (j:Nat) (r:GR),g[j]?=some r->Has8 g (zai r.expr))->∃ n,Compl n i g (some g)
 | 0,i,g,h,_=>⟨0,.done (by omega)⟩
 | k+1,i,g,h,ha=>by
  by_cases hi:g.length<=i
  ·exact ⟨0,.done hi⟩
  ·have hr:g[i]?=some g[i]:=List.getElem?_eq_getElem (by omega)
   obtain ⟨n,hc⟩:=Compl.again k (i+1) g (by omega) ha
   exact ⟨n+1,.step hr (zou (ha i _ hr)) hc⟩
theorem zcm.whole {l:List Rule} {g:List GR} (h:zcm l g 0):Once g/\(∀ (j:Nat) (r:GR),g[j]?=some r->Has8 g (zai r.expr))/\((zkf g).all (fun r=>zdc r.name&&zax 50 r.expr)=true->zcm (zkf g) g 0):=by
 rcases h with ⟨_,_,e⟩ | ⟨_,⟨_,_,e⟩ | ⟨g0,n,R,h1,h2,⟨_,_,e⟩ | ⟨h3,_⟩⟩⟩
 ·cases e
 ·cases e
 ·cases e
 ·obtain ⟨t,e1,o1,f1⟩:=h2.gives g h3
  have ho:=o1 (zm0 (by unfold Once;simp) h1)
  have hh:∀ (j:Nat) (r:GR),g[j]?=some r->Has8 g (zai r.expr):=fun j r hr=>f1 j r (Nat.zero_le _) hr
  refine ⟨ho,hh,fun ha=>.inr ⟨ha,.inr ?_⟩⟩
  obtain ⟨n',hc⟩:=Compl.again g.length 0 g (by omega) hh
  exact ⟨g,n',some g,by simpa using zkg g [] (by simpa using ho),hc,.inr ⟨rfl,rfl⟩⟩
end Go.Proofs.YtekjnfldgjcgeaaGreatDoor
namespace Go.Proofs.YtekjnfldgjcgeaaGreatDoor
def tws (g:List GR):Nat:=(g.map fun r=>r.expr.tw).sum
def twl (l:List Rule):Nat:=(l.map fun r=>r.expr.tw+1).sum
theorem zti (k lo hi:Int) (x ns:List Int) (kids:List Tree):(Tree.mk k x ns lo hi kids).tw=1+x.length+ns.length+(kids.map Tree.tw).sum:=by rw [Tree.tw]
theorem zi9 (k lo hi:Int) (x ns:List Int) (kids:List Tree):zbt (.mk k x ns lo hi kids)=if k=1 then kids else [.mk k x ns lo hi kids]:=rfl
theorem ztj (a b:Tree):zbt (zeh a b)=zbt a++zbt b:=by
 unfold zeh
 rw [zi9,if_pos rfl]
theorem zqc (t:Tree):((zbt t).map Tree.tw).sum<=t.tw:=by
 obtain ⟨k,x,ns,lo,hi,kids⟩:=t
 rw [zi9]
 by_cases h:k=1
 ·rw [if_pos h,zti];omega
 ·rw [if_neg h];simp
theorem zzl (a b:Tree):(zeh a b).tw<=a.tw+b.tw+1:=by
 unfold zeh
 rw [zti,List.map_append,List.sum_append]
 have:=zqc a
 have:=zqc b
 simp
 omega
theorem zrq (g:List GR) (r:GR):tws (g++[r])=tws g+r.expr.tw:=by simp [tws]
theorem zwh:∀ {g:List GR} {i:Nat} {r:GR} (e:GR),g[i]?=some r->tws (g.set i e)+r.expr.tw=tws g+e.expr.tw
 | [],i,r,e,h=>by simp at h
 | u::g,0,r,e,h=>by
  simp at h
  subst h
  simp [tws]
  omega
 | u::g,i+1,r,e,h=>by
  simp at h
  have:=zwh e h
  simp [tws] at this ⊢
  omega
theorem zwi {g:List GR} {r:GR} (h:r∈g):r.expr.tw<=tws g:=by
 induction g with
 | nil=>cases h
 | cons u g ih =>
  simp only [tws,List.map_cons,List.sum_cons]
  rcases List.mem_cons.1 h with rfl | h
  ·omega
  ·have:=ih h
   simp only [tws] at this
   omega
theorem zzm {g g':List GR} {l:Rule} (h:zcv g l=some g'):tws g'<=tws g+l.expr.tw+1/\g'.length<=g.length+1:=by
 unfold zcv at h
 cases hf:zay g l.name with
 | none =>
  rw [hf] at h
  simp only [] at h
  split at h
  ·cases h
  ·have e:=Option.some.inj h
   subst e
   rw [zrq]
   simp only [List.length_append,List.length_cons,List.length_nil]
   omega
 | some i =>
  rw [hf] at h
  simp only [] at h
  split at h
  ·obtain ⟨⟨r,h1,_⟩,_⟩:=zbv.1 hf
   rw [h1] at h
   have e:=Option.some.inj h
   subst e
   have:=zwh ⟨r.name,zeh r.expr l.expr⟩ h1
   have:=zzl r.expr l.expr
   simp at *
   omega
  ·cases h
theorem zkh:∀ {ls:List Rule} {g g':List GR},zbf g ls=some g'->tws g'<=tws g+twl ls/\g'.length<=g.length+ls.length
 | [],g,g',h=>by
  have e:=Option.some.inj h
  subst e
  simp [twl]
 | l::ls,g,g',h=>by
  rw [zc3] at h
  cases hm:zcv g l with
  | none=>rw [hm] at h;cases h
  | some g1 =>
   rw [hm] at h
   have h1:=zzm hm
   have h2:=zkh (ls:=ls) (g:=g1) (g':=g') h
   simp only [twl,List.map_cons,List.sum_cons,List.length_cons] at h2 ⊢
   omega
theorem zrr:∀ (n:Nat) (t:Tree),t.tw<=n->dep t<=t.tw/\(zai t).length<=t.tw:=by
 intro n
 induction n with
 | zero =>
  intro t h
  obtain ⟨k,x,ns,lo,hi,kids⟩:=t
  rw [zti] at h
  omega
 | succ n ih =>
  intro t h
  obtain ⟨k,x,ns,lo,hi,kids⟩:=t
  rw [zti] at h
  have hk:∀ u∈kids,u.tw<=n:=fun u hu=>by
   have:u.tw<=(kids.map Tree.tw).sum:=by
    clear h ih
    induction kids with
    | nil=>cases hu
    | cons v kids ih =>
     simp only [List.map_cons,List.sum_cons]
     rcases List.mem_cons.1 hu with rfl | hu
     ·omega
     ·have:=ih hu
      omega
   omega
  constructor
  ·have hd:(kids.map dep).foldr max 0<=(kids.map Tree.tw).sum:=by
    have:∀ l:List Tree,(∀ u∈l,u.tw<=n)->(l.map dep).foldr max 0<=(l.map Tree.tw).sum:=fun l hl=>by
     induction l with
     | nil=>simp
     | cons v l ihl =>
      have h1:=(ih v (hl v (by simp))).1
      have h2:=ihl (fun u hu=>hl u (by simp [hu]))
      simp only [List.map_cons,List.foldr_cons,List.sum_cons]
      omega
    exact this kids hk
   rw [dep,zti]
   omega
  ·have hd:((kids.map zai).flatten).length<=(kids.map Tree.tw).sum:=by
    have:∀ l:List Tree,(∀ u∈l,u.tw<=n)->((l.map zai).flatten).length<=(l.map Tree.tw).sum:=fun l hl=>by
     induction l with
     | nil=>simp
     | cons v l ihl =>
      have h1:=(ih v (hl v (by simp))).2
      have h2:=ihl (fun u hu=>hl u (by simp [hu]))
      simp only [List.map_cons,List.flatten_cons,List.length_append,List.sum_cons]
      omega
    exact this kids hk
   rw [zdt,zti,List.length_append]
   have:(if k=4 then [x] else []).length<=1:=by split<;>simp
   omega
def Fit (d:Nat) (t:Tree):Prop:=zax (d+1) t=true/\(∀ u∈zbt t,zax d u=true)/\1<=(zbt t).length
theorem Fit.merge {d:Nat} {a b:Tree} (ha:Fit d a) (hb:Fit d b):Fit d (zeh a b):=by
 have hl:2<=(zbt a++zbt b).length:=by
  have:=ha.2.2
  have:=hb.2.2
  rw [List.length_append]
  omega
 have hr:∀ u∈zbt a++zbt b,zax d u=true:=fun u hu=>(List.mem_append.1 hu).elim (ha.2.1 u) (hb.2.1 u)
 have e:=ztj a b
 refine ⟨?_,by rw [e];exact hr,by rw [e];omega⟩
 unfold zeh zax
 rw [Bool.and_eq_true,List.all_eq_true]
 refine ⟨?_,hr⟩
 unfold ze4
 rw [if_pos (.inl rfl)]
 simpa using hl
def FitG (g:List GR):Prop:=∀ r∈g,zdc r.name=true/\Fit 49 r.expr
theorem zzn {g g':List GR} {l:Rule} (hg:FitG g) (hl:zdc l.name=true/\Fit 49 l.expr) (h:zcv g l=some g'):FitG g':=by
 unfold zcv at h
 cases hf:zay g l.name with
 | none =>
  rw [hf] at h
  simp only [] at h
  split at h
  ·cases h
  ·have e:=Option.some.inj h
   subst e
   intro r hr
   rcases List.mem_append.1 hr with hr | hr
   ·exact hg r hr
   ·simp at hr
    subst hr
    exact hl
 | some i =>
  rw [hf] at h
  simp only [] at h
  split at h
  ·obtain ⟨⟨r,h1,_⟩,_⟩:=zbv.1 hf
   rw [h1] at h
   have e:=Option.some.inj h
   subst e
   intro u hu
   rcases List.mem_or_eq_of_mem_set hu with hu | rfl
   ·exact hg u hu
   ·have:=hg r (List.mem_of_getElem? h1)
    exact ⟨this.1,this.2.merge hl.2⟩
  ·cases h
theorem zov:∀ {ls:List Rule} {g g':List GR},FitG g->(∀ l∈ls,zdc l.name=true/\Fit 49 l.expr)->zbf g ls=some g'->FitG g'
 | [],g,g',hg,_,h=>by
  have e:=Option.some.inj h
  subst e
  exact hg
 | l::ls,g,g',hg,hl,h=>by
  rw [zc3] at h
  cases hm:zcv g l with
  | none=>rw [hm] at h;cases h
  | some g1 =>
   rw [hm] at h
   exact zov (zzn hg (hl l (by simp)) hm) (fun r hr=>hl r (by simp [hr])) h
def fitB (d:Nat) (t:Tree):Bool:=zax (d+1) t&&(zbt t).all (zax d)&&decide (1<=(zbt t).length)
theorem zzo {d:Nat} {t:Tree}:fitB d t=true ↔ Fit d t:=by
 unfold fitB Fit
 simp only [Bool.and_eq_true,List.all_eq_true,decide_eq_true_eq,and_assoc]
theorem zzp:zbs.all (fun r=>zdc r.name&&fitB 49 r.expr)=true:=by decide +kernel
theorem qc6 {g g':List GR} {x:List Int} (h:addM g x=some g'):∀ r∈g',r∈g\/r∈zbs:=by
 unfold addM at h
 cases hf:zay g x with
 | some i =>
  rw [hf] at h
  have e:=Option.some.inj h
  subst e
  exact fun r hr=>.inl hr
 | none =>
  rw [hf] at h
  simp only [] at h
  cases hc:zay zbs x with
  | none=>rw [hc] at h;cases h
  | some c =>
   rw [hc] at h
   obtain ⟨⟨r,h1,h2⟩,_⟩:=zbv.1 hc
   simp only [h1,Option.map_some] at h
   have e:=Option.some.inj h
   subst e
   intro u hu
   rcases List.mem_append.1 hu with hu | hu
   ·exact .inl hu
   ·simp at hu
    subst hu
    exact .inr (List.mem_of_getElem? h1)
theorem zrs:∀ {xs:List (List Int)} {g g':List GR},zbn g xs=some g'->∀ r∈g',r∈g\/r∈zbs
 | [],g,g',h=>by
  have e:=Option.some.inj h
  subst e
  exact fun r hr=>.inl hr
 | x::xs,g,g',h=>by
  change (addM g x).bind (fun g'=>zbn g' xs)=some g' at h
  cases hm:addM g x with
  | none=>rw [hm] at h;cases h
  | some g1 =>
   rw [hm] at h
   intro r hr
   rcases zrs (xs:=xs) (g:=g1) (g':=g') h r hr with h1 | h1
   ·exact qc6 hm r h1
   ·exact .inr h1
theorem Compl.mem {n i:Nat} {g:List GR} {R:Option (List GR)} (h:Compl n i g R):∀ g',R=some g'->∀ r∈g',r∈g\/r∈zbs:=by
 induction h with
 | done h =>
  intro g' e
  have e:=Option.some.inj e
  subst e
  exact fun r hr=>.inl hr
 | fail=>intro g' e;cases e
 | step h1 h2 _ ih =>
  intro g' e r hr
  rcases ih g' e r hr with h | h
  ·exact zrs h2 r h
  ·exact .inr h
theorem zcm.fit {l:List Rule} {g:List GR} (h:zcm l g 0) (hl:∀ r∈l,zdc r.name=true/\Fit 49 r.expr):FitG g:=by
 rcases h with ⟨_,_,e⟩ | ⟨_,⟨_,_,e⟩ | ⟨g0,n,R,h1,h2,⟨_,_,e⟩ | ⟨h3,_⟩⟩⟩
 ·cases e
 ·cases e
 ·cases e
 ·intro r hr
  rcases h2.mem g h3 r hr with h | h
  ·exact zov (g:=[]) (fun r hr=>by cases hr) hl h1 r h
  ·have:=List.all_eq_true.1 zzp r h
   rw [Bool.and_eq_true,zzo] at this
   exact this
theorem zcm.again {l:List Rule} {g:List GR} (h:zcm l g 0) (hl:∀ r∈l,zdc r.name=true/\Fit 49 r.expr):zcm (zkf g) g 0:=by
 refine h.whole.2.2 ?_
 rw [List.all_eq_true]
 intro r hr
 unfold zkf at hr
 obtain ⟨u,hu,rfl⟩:=List.mem_map.1 hr
 have:=h.fit hl u hu
 rw [Bool.and_eq_true]
 exact ⟨this.1,this.2.1⟩
end Go.Proofs.YtekjnfldgjcgeaaGreatDoor
