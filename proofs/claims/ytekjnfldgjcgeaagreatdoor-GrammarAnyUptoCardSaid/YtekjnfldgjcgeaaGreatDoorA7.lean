/- Part 7 of what the laws of the grammar rest on. -/
import Derived.Test.YtekjnfldgjcgeaaGreatDoorA6
set_option linter.all false
set_option maxRecDepth 100000
set_option maxHeartbeats 8000000
namespace Go.Proofs.YtekjnfldgjcgeaaGreatDoor
def Fol (c:Int):Prop:=c=32\/c=41\/c=93\/c=10
def Stop (f:Nat->Int) (q:Nat):Prop:=f q=41\/f q=93\/(f q=10/\isBl (f (q+1))=false)
def AFol (f:Nat->Int) (q:Nat):Prop:=Stop f q\/(f q=32/\f (q+1)=47)
def adv (f:Nat->Int) (q:Nat):Nat:=if f q=32 then q+1 else q
theorem zhs {f:Nat->Int} {p:Nat} (h0:0<=f p) (h1:f p≠59) (h2:f p≠10) (h3:f p≠13) (hb:isBl (f p)=false):Skip f p p:=by
 refine .here hb fun e he=>?_
 unfold zas zbm at he
 rw [if_neg h1,if_neg (by omega),if_neg h2,if_neg (fun g=>h3 g.1)] at he
 cases he
theorem qd4 {c:Int} (h:isRp c=true):0<=c/\c≠59/\c≠10/\c≠13/\isBl c=false/\c≠47/\c≠32:=by
 unfold isRp isAl isDc at h
 unfold isBl
 simp at h ⊢
 omega
theorem zuz {f:Nat->Int} {p:Nat} (h:isRp (f p)=true):zad f p=p:=by
 obtain ⟨h0,h1,h2,h3,h4,_⟩:=qd4 h
 exact (zhs h0 h1 h2 h3 h4).eq
theorem zdm {f:Nat->Int} {p:Nat} (h:f p=32) (h2:isRp (f (p+1))=true\/f (p+1)=47\/f (p+1)=61):zad f p=p+1:=by
 refine (Skip.blank (by rw [h];decide) ?_).eq
 rcases h2 with h2 | h2 | h2
 ·obtain ⟨h0,h1,h2,h3,h4,_⟩:=qd4 h2
  exact zhs h0 h1 h2 h3 h4
 ·exact zhs (by omega) (by omega) (by omega) (by omega) (by rw [h2];decide)
 ·exact zhs (by omega) (by omega) (by omega) (by omega) (by rw [h2];decide)
theorem zv0 {f:Nat->Int} {q:Nat} (h:f q=10):zas f q=some (q+1):=by
 have hc:zbm f q=q:=by unfold zbm;rw [if_neg (by omega)]
 unfold zas
 rw [hc,if_neg (by omega),if_pos h]
theorem Stop.skip {f:Nat->Int} {q:Nat} (h:Stop f q):zad f q=q:=by
 rcases h with h | h | ⟨h,hb⟩
 ·exact (zhs (by omega) (by omega) (by omega) (by omega) (by rw [h];decide)).eq
 ·exact (zhs (by omega) (by omega) (by omega) (by omega) (by rw [h];decide)).eq
 ·refine (Skip.here (by rw [h];decide) fun e he=>?_).eq
  rw [zv0 h] at he
  cases he
  exact hb
theorem Stop.adv {f:Nat->Int} {q:Nat} (h:Stop f q):adv f q=q:=by
 unfold Go.Proofs.YtekjnfldgjcgeaaGreatDoor.adv
 rw [if_neg]
 rcases h with h | h | ⟨h,_⟩<;>omega
theorem Stop.ne {f:Nat->Int} {q:Nat} (h:Stop f q):f q≠47:=by rcases h with h | h | ⟨h,_⟩<;>omega
theorem AFol.fol {f:Nat->Int} {q:Nat} (h:AFol f q):Fol (f q):=by
 unfold Fol
 rcases h with (h | h | ⟨h,_⟩) | ⟨h,_⟩<;>omega
theorem AFol.skip {f:Nat->Int} {q:Nat} (h:AFol f q):zad f q=adv f q/\¬ (q<zad f q/\isRp (f (zad f q))=true):=by
 rcases h with h | ⟨h1,h2⟩
 ·rw [h.skip,h.adv]
  exact ⟨rfl,by omega⟩
 ·rw [zdm h1 (.inr (.inl h2))]
  unfold adv
  rw [if_pos h1,h2]
  exact ⟨rfl,fun g=>absurd g.2 (by decide)⟩
theorem zlb {c:Int} (h:Fol c):isNm c=false/\isDg 16 c=false/\c≠45/\c≠46:=by
 rcases h with rfl | rfl | rfl | rfl<;>decide
theorem zmn (s x:List Int) (l:List (List Int)):sepT s (x::l)=x++(l.map (s++·)).flatten:=by
 induction l generalizing x with
 | nil=>simp [sepT]
 | cons y l ih=>rw [sepT,ih];simp
theorem znx (k:Int) {l:List Tree} (h:2<=l.length):zgq k l=.mk k [] [] 0 0 l:=by
 match l,h with
 | _::_::_,_=>rfl
def aTxt (d:Nat) (t:Tree):List Int:=brT (t.kind==1) (zaf d t)
def rTxt (d:Nat) (t:Tree):List Int:=brT (t.kind==1||t.kind==2) (zaf d t)
def eTxt (d:Nat) (t:Tree):List Int:=brT (t.kind==1||t.kind==2||t.kind==3) (zaf d t)
def zv1 (c:Int):Prop:=isRp c=true/\isDc c=false/\c≠42
structure Reads (f:Nat->Int) (d:Nat) (t:Tree):Prop where
 A:∀ D p,D+d<=50->Has f p (zaf d t)->Stop f (p+(zaf d t).length)->Ans f .alts D p (.ok t (p+(zaf d t).length))
 C:t.kind≠1->∀ D p,D+d<=50->Has f p (zaf d t)->AFol f (p+(zaf d t).length)->Ans f .conc D p (.ok t (adv f (p+(zaf d t).length)))
 R:t.kind≠1->t.kind≠2->∀ D p,D+d<=50->Has f p (zaf d t)->Fol (f (p+(zaf d t).length))->Ans f .rep D p (.ok t (p+(zaf d t).length))
 E:t.kind≠1->t.kind≠2->t.kind≠3->∀ D p,D+d<=50->Has f p (zaf d t)->Fol (f (p+(zaf d t).length))->Ans f .elem D p (.ok t (p+(zaf d t).length))
 H:∃ c l,zaf d t=c::l/\isRp c=true
 K:t.kind≠1->t.kind≠2->t.kind≠3->∃ c l,zaf d t=c::l/\zv1 c
theorem zek {f:Nat->Int} {D p q:Nat} {t:Tree} (h:Ans f .rep D p (.ok t q)) (hf:AFol f q):Ans f .conc D p (.ok t (adv f q)):=by
 have:=Ans.cmoreEnd (f:=f) (d:=D) (p:=q) (l:=[t]) hf.skip.2
 rw [hf.skip.1] at this
 exact .concOk h this
theorem zft {f:Nat->Int} {D p q:Nat} {t:Tree} (hf:Stop f q) (h:Ans f .conc D p (.ok t (adv f q))):Ans f .alts D p (.ok t q):=by
 rw [hf.adv] at h
 exact .altsOk h (.moreEnd hf.ne)
theorem zgs {f:Nat->Int} {D p q:Nat} {t:Tree} (hh:zv1 (f p)) (h:Ans f .elem D p (.ok t q)):Ans f .rep D p (.ok t q):=.repBare (zr2 hh.2.1 hh.2.2) h
theorem zmo {f:Nat->Int} {d:Nat} {t:Tree} (hk:t.kind=2) (hh:∃ c l,zaf d t=c::l/\isRp c=true)
  (hc:∀ D p,D+d<=50->Has f p (zaf d t)->AFol f (p+(zaf d t).length)->Ans f .conc D p (.ok t (adv f (p+(zaf d t).length)))):Reads f d t :=
 ⟨fun D p h1 h2 h3=>zft h3 (hc D p h1 h2 (.inl h3)),fun _=>hc,fun _ h=>absurd hk h,fun _ h=>absurd hk h,hh,fun _ h=>absurd hk h⟩
theorem zii {f:Nat->Int} {d:Nat} {t:Tree} (hk:t.kind=3) (hh:∃ c l,zaf d t=c::l/\isRp c=true)
  (hc:∀ D p,D+d<=50->Has f p (zaf d t)->Fol (f (p+(zaf d t).length))->Ans f .rep D p (.ok t (p+(zaf d t).length))):Reads f d t :=
 ⟨fun D p h1 h2 h3=>zft h3 (zek (hc D p h1 h2 (AFol.fol (.inl h3))) (.inl h3)),fun _ D p h1 h2 h3=>zek (hc D p h1 h2 h3.fol) h3,fun _ _=>hc,fun _ _ h=>absurd hk h,hh,fun _ _ h=>absurd hk h⟩
theorem zfi {f:Nat->Int} {p:Nat} {x:List Int} {P:Int->Prop} (h:∃ c l,x=c::l/\P c) (hx:Has f p x):P (f p):=by
 obtain ⟨c,l,rfl,hc⟩:=h
 rw [hx.head]
 exact hc
theorem ze7 {f:Nat->Int} {d:Nat} {t:Tree} (hh:∃ c l,zaf d t=c::l/\zv1 c)
  (hc:∀ D p,D+d<=50->Has f p (zaf d t)->Fol (f (p+(zaf d t).length))->Ans f .elem D p (.ok t (p+(zaf d t).length))):Reads f d t :=
 have hr:∀ D p,D+d<=50->Has f p (zaf d t)->Fol (f (p+(zaf d t).length))->Ans f .rep D p (.ok t (p+(zaf d t).length)):=fun D p h1 h2 h3=>zgs (zfi hh h2) (hc D p h1 h2 h3)
 ⟨fun D p h1 h2 h3=>zft h3 (zek (hr D p h1 h2 (AFol.fol (.inl h3))) (.inl h3)),fun _ D p h1 h2 h3=>zek (hr D p h1 h2 h3.fol) h3,fun _ _=>hr,fun _ _ _=>hc,by obtain ⟨c,l,e,h⟩:=hh;exact ⟨c,l,e,h.1⟩,fun _ _ _=>hh⟩
namespace Reads
variable {f:Nat → Int} {d:Nat} {t:Tree} (h:Reads f d t)
include h
theorem br {D p:Nat} (hd:D+d+1<=50) (hx:Has f p ([40]++zaf d t++[41])):Ans f .elem D p (.ok t (p+([40]++zaf d t++[41]).length)):=by
 have h40:f p=40:=hx.left.left.head
 have hT:Has f (p+1) (zaf d t):=hx.left.right
 have h41:f (p+1+(zaf d t).length)=41:=by
  have:=hx.right.head
  rw [<- this]
  congr 1
  simp
  omega
 have ha:=h.A (D+1) (p+1) (by omega) hT (.inl h41)
 have hs:zad f (p+1)=p+1:=zuz (zfi h.H hT)
 have:=Ans.round (f:=f) (d:=D) (p:=p) h40 (by omega) (by rw [hs];exact ha) h41
 have hlen:p+(([40]:List Int)++zaf d t++[41]).length=p+1+(zaf d t).length+1:=by simp;omega
 rw [hlen]
 exact this
theorem eh:∃ c l,eTxt d t=c::l/\zv1 c:=by
 unfold eTxt brT
 by_cases k:(t.kind==1||t.kind==2||t.kind==3)=true
 ·rw [if_pos k]
  exact ⟨40,zaf d t++[41],rfl,by decide,by decide,by decide⟩
 ·rw [if_neg k]
  simp at k
  exact h.K k.1.1 k.1.2 k.2
theorem rh:∃ c l,rTxt d t=c::l/\isRp c=true:=by
 unfold rTxt brT
 by_cases k:(t.kind==1||t.kind==2)=true
 ·rw [if_pos k]
  exact ⟨40,zaf d t++[41],rfl,by decide⟩
 ·rw [if_neg k]
  exact h.H
theorem ah:∃ c l,aTxt d t=c::l/\isRp c=true:=by
 unfold aTxt brT
 by_cases k:(t.kind==1)=true
 ·rw [if_pos k]
  exact ⟨40,zaf d t++[41],rfl,by decide⟩
 ·rw [if_neg k]
  exact h.H
theorem e {D p:Nat} (hd:D+d+1<=50) (hx:Has f p (eTxt d t)) (hf:Fol (f (p+(eTxt d t).length))):Ans f .elem D p (.ok t (p+(eTxt d t).length)):=by
 unfold eTxt brT at hx hf ⊢
 by_cases k:(t.kind==1||t.kind==2||t.kind==3)=true
 ·rw [if_pos k] at hx hf ⊢
  exact h.br hd hx
 ·rw [if_neg k] at hx hf ⊢
  simp at k
  exact h.E k.1.1 k.1.2 k.2 D p (by omega) hx hf
theorem r {D p:Nat} (hd:D+d+1<=50) (hx:Has f p (rTxt d t)) (hf:Fol (f (p+(rTxt d t).length))):Ans f .rep D p (.ok t (p+(rTxt d t).length)):=by
 unfold rTxt brT at hx hf ⊢
 by_cases k:(t.kind==1||t.kind==2)=true
 ·rw [if_pos k] at hx hf ⊢
  have h40:f p=40:=hx.left.left.head
  exact zgs (by rw [h40];exact ⟨by decide,by decide,by decide⟩) (h.br hd hx)
 ·rw [if_neg k] at hx hf ⊢
  simp at k
  exact h.R k.1 k.2 D p (by omega) hx hf
theorem c {D p:Nat} (hd:D+d+1<=50) (hx:Has f p (aTxt d t)) (hf:AFol f (p+(aTxt d t).length)):Ans f .conc D p (.ok t (adv f (p+(aTxt d t).length))):=by
 unfold aTxt brT at hx hf ⊢
 by_cases k:(t.kind==1)=true
 ·rw [if_pos k] at hx hf ⊢
  have h40:f p=40:=hx.left.left.head
  exact zek (zgs (by rw [h40];exact ⟨by decide,by decide,by decide⟩) (h.br hd hx)) hf
 ·rw [if_neg k] at hx hf ⊢
  simp at k
  exact h.C k D p (by omega) hx hf
end Reads
theorem zr4 {f:Nat->Int} {d D:Nat} (hd:D+d+1<=50):∀ (l:List Tree) (acc:List Tree) (p:Nat),(∀ t∈l,Reads f d t)->Has f p ((l.map fun t=>[32]++rTxt d t).flatten) ->
  AFol f (p+((l.map fun t=>[32]++rTxt d t).flatten).length)->Ans f (.concMore acc) D p (.ok (zgq 2 (acc++l)) (adv f (p+((l.map fun t=>[32]++rTxt d t).flatten).length)))
 | [],acc,p,_,_,hf=>by
  have hf:AFol f p:=hf
  have:=Ans.cmoreEnd (f:=f) (d:=D) (p:=p) (l:=acc) hf.skip.2
  rw [hf.skip.1] at this
  rw [List.append_nil]
  exact this
 | t::l,acc,p,hl,hx,hf=>by
  have ht:=hl t (by simp)
  obtain ⟨z,hz⟩:∃ z,z=(l.map fun t=>[32]++rTxt d t).flatten:=⟨_,rfl⟩
  have e:((t::l).map fun t=>[32]++rTxt d t).flatten=[32]++(rTxt d t++z):=by rw [hz];simp
  rw [e] at hx hf ⊢
  have h32:f p=32:=hx.head
  have h1:Has f (p+1) (rTxt d t):=hx.right.left
  have h2:Has f (p+1+(rTxt d t).length) z:=hx.right.right
  have hrp:isRp (f (p+1))=true:=zfi ht.rh h1
  have hsk:zad f p=p+1:=zdm h32 (.inl hrp)
  have hlen:p+([32]++(rTxt d t++z)).length=p+1+(rTxt d t).length+z.length:=by simp;omega
  rw [hlen] at hf ⊢
  have hfol:Fol (f (p+1+(rTxt d t).length)):=by
   cases l with
   | nil=>subst hz;exact AFol.fol hf
   | cons u l=>subst hz;exact .inl h2.head
  have hr:=ht.r hd h1 hfol
  subst hz
  have ih:=zr4 hd l (acc++[t]) (p+1+(rTxt d t).length) (fun u hu=>hl u (by simp [hu])) h2 hf
  rw [List.append_assoc,List.singleton_append] at ih
  exact .cmoreOk (by rw [hsk];exact ⟨by omega,hrp⟩) (by rw [hsk];exact hr) ih
theorem zr5 {f:Nat->Int} {d D:Nat} (hd:D+d+1<=50):∀ (l:List Tree) (acc:List Tree) (p:Nat),(∀ t∈l,Reads f d t)->Has f p ((l.map fun t=>[32,47,32]++aTxt d t).flatten) ->
  Stop f (p+((l.map fun t=>[32,47,32]++aTxt d t).flatten).length)->Ans f (.altMore acc) D (adv f p) (.ok (zgq 1 (acc++l)) (p+((l.map fun t=>[32,47,32]++aTxt d t).flatten).length))
 | [],acc,p,_,_,hf=>by
  have hf:Stop f p:=hf
  rw [List.append_nil,hf.adv]
  exact .moreEnd hf.ne
 | t::l,acc,p,hl,hx,hf=>by
  have ht:=hl t (by simp)
  obtain ⟨z,hz⟩:∃ z,z=(l.map fun t=>[32,47,32]++aTxt d t).flatten:=⟨_,rfl⟩
  have e:((t::l).map fun t=>[32,47,32]++aTxt d t).flatten=[32,47,32]++(aTxt d t++z):=by rw [hz];simp
  rw [e] at hx hf ⊢
  have h32:f p=32:=hx.head
  have h47:f (p+1)=47:=hx.tail.head
  have h322:f (p+2)=32:=hx.tail.tail.head
  have h1:Has f (p+3) (aTxt d t):=hx.right.left
  have h2:Has f (p+3+(aTxt d t).length) z:=hx.right.right
  have hrp:isRp (f (p+2+1))=true:=zfi ht.ah h1
  have hsk:zad f (p+1+1)=p+3:=zdm h322 (.inl hrp)
  have hlen:p+([32,47,32]++(aTxt d t++z)).length=p+3+(aTxt d t).length+z.length:=by simp;omega
  rw [hlen] at hf ⊢
  have hfol:AFol f (p+3+(aTxt d t).length):=by
   cases l with
   | nil=>subst hz;exact .inl hf
   | cons u l=>subst hz;exact .inr ⟨h2.head,h2.tail.head⟩
  have hc:=ht.c hd h1 hfol
  subst hz
  have ih:=zr5 hd l (acc++[t]) (p+3+(aTxt d t).length) (fun u hu=>hl u (by simp [hu])) h2 hf
  rw [List.append_assoc,List.singleton_append] at ih
  have ha:adv f p=p+1:=by unfold adv;rw [if_pos h32]
  rw [ha]
  exact .moreOk h47 (by rw [hsk];exact hc) ih
theorem zny {f:Nat->Int} {D:Nat}:∀ (l acc:List Int) (p:Nat),l.all numB=true->Has f p ((l.map fun n:Int=>[46]++hexT n.toNat).flatten)->Fol (f (p+((l.map fun n:Int=>[46]++hexT n.toNat).flatten).length)) ->
  Ans f (.dots 16 acc) D p (.ok (.mk 6 [] (acc++l) 0 0 []) (p+((l.map fun n:Int=>[46]++hexT n.toNat).flatten).length))
 | [],acc,p,_,_,hf=>by
  rw [List.append_nil]
  exact .dotsEnd (zlb hf).2.2.2
 | n::l,acc,p,hl,hx,hf=>by
  rw [List.all_cons,Bool.and_eq_true] at hl
  obtain ⟨hn,hl⟩:=hl
  unfold numB at hn
  simp at hn
  obtain ⟨z,hz⟩:∃ z,z=(l.map fun n:Int=>[46]++hexT n.toNat).flatten:=⟨_,rfl⟩
  have e:((n::l).map fun n:Int=>[46]++hexT n.toNat).flatten=[46]++(hexT n.toNat++z):=by rw [hz];simp
  rw [e] at hx hf ⊢
  have h46:f p=46:=hx.head
  have h1:Has f (p+1) (hexT n.toNat):=hx.right.left
  have h2:Has f (p+1+(hexT n.toNat).length) z:=hx.right.right
  have hlen:p+([46]++(hexT n.toNat++z)).length=p+1+(hexT n.toNat).length+z.length:=by simp;omega
  rw [hlen] at hf ⊢
  have hfol:isDg 16 (f (p+1+(hexT n.toNat).length))=false:=by
   cases l with
   | nil=>subst hz;exact (zlb hf).2.1
   | cons u l=>subst hz;rw [h2.head];decide
  have hnum:=(zmm n hn.1 hn.2).at h1 hfol (lim:=1114111) hn.2
  subst hz
  have ih:=zny (D:=D) l (acc++[n]) (p+1+(hexT n.toNat).length) hl h2 hf
  rw [List.append_assoc,List.singleton_append] at ih
  exact .dotsOk h46 hnum ih
theorem zht (d:Nat) (k lo hi:Int) (x ns:List Int) (h:k≠1/\k≠2/\k≠3):zaf d (.mk k x ns lo hi [])=if k=4 then x else if k=5 then [34]++x++[34] else [37,120]++sepT (if k=6 then [46] else [45]) (ns.map fun n=>hexT n.toNat):=by
 cases d<;>rw [zaf,zgl,if_neg h.1,if_neg h.2.1,if_neg h.2.2]
theorem zlc {f:Nat->Int} (d:Nat) {k lo hi:Int} {x ns:List Int} (h:ze4 k x ns lo hi 0=true):Reads f d (.mk k x ns lo hi []):=by
 unfold ze4 at h
 by_cases k12:k=1\/k=2
 ·rw [if_pos k12] at h;simp at h
 rw [if_neg k12] at h
 by_cases k3:k=3
 ·rw [if_pos k3] at h;simp at h
 rw [if_neg k3] at h
 have hne:k≠1/\k≠2/\k≠3:=⟨fun e=>k12 (.inl e),fun e=>k12 (.inr e),k3⟩
 have hT:=zht d k lo hi x ns hne
 by_cases k4:k=4
 ·rw [if_pos k4] at h hT
  simp at h
  obtain ⟨⟨⟨h1,h2⟩,h3⟩,h4⟩:=h
  subst k4 h1 h2 h3
  obtain ⟨_,_,c,l,hx,hc⟩:=zf1 h4
  refine ze7 ⟨c,l,by rw [hT];exact hx,?_⟩ fun D p hd hh hf=>?_
  ·unfold isAl at hc
   unfold zv1 isRp isAl isDc
   simp at hc ⊢
   omega
  ·rw [hT] at hh hf ⊢
   have ha:isAl (f p)=true:=zfi (P:=fun c=>isAl c=true) ⟨c,l,hx,hc⟩ hh
   exact .nameOk ha (hh.name h4 (zlb hf).1)
 rw [if_neg k4] at h hT
 by_cases k5:k=5
 ·rw [if_pos k5] at h hT
  simp only [Bool.and_eq_true,beq_iff_eq,List.isEmpty_iff,decide_eq_true_eq] at h
  obtain ⟨⟨⟨⟨h1,h2⟩,h3⟩,_⟩,h4⟩:=h
  subst k5 h1 h2 h3
  refine ze7 ⟨34,x++[34],by rw [hT];rfl,by decide,by decide,by decide⟩ fun D p hd hh hf=>?_
  rw [hT] at hh hf ⊢
  have hq:=hh.quote h4
  have h34:f p=34:=hh.left.left.head
  have:=Ans.quoteOk (f:=f) (d:=D) (p:=p) h34 hq.1
  unfold zmf at this
  rw [hq.2] at this
  have hlen:p+(([34]:List Int)++x++[34]).length=p+(x.length+2):=by simp
  rw [hlen]
  exact this
 rw [if_neg k5] at h hT
 by_cases k6:k=6
 ·rw [if_pos k6] at h hT
  simp only [Bool.and_eq_true,beq_iff_eq,List.isEmpty_iff,decide_eq_true_eq] at h
  obtain ⟨⟨⟨⟨⟨⟨h1,h2⟩,h3⟩,_⟩,h4⟩,_⟩,h5⟩:=h
  subst k6 h1 h2 h3
  cases ns with
  | nil=>simp at h4
  | cons n l =>
   rw [List.map_cons,zmn,List.map_map] at hT
   rw [List.all_cons,Bool.and_eq_true] at h5
   obtain ⟨hn,hl⟩:=h5
   unfold numB at hn
   simp at hn
   refine ze7 ⟨37,_,by rw [hT];rfl,by decide,by decide,by decide⟩ fun D p hd hh hf=>?_
   rw [hT] at hh hf ⊢
   have h37:f p=37:=hh.head
   have h120:f (p+1)=120:=hh.tail.head
   have h1:Has f (p+2) (hexT n.toNat):=hh.right.left
   have h2:Has f (p+2+(hexT n.toNat).length) ((l.map fun n:Int=>[46]++hexT n.toNat).flatten):=hh.right.right
   have hlen:p+([37,120]++(hexT n.toNat++((l.map fun n:Int=>[46]++hexT n.toNat).flatten))).length=p+2+(hexT n.toNat).length+((l.map fun n:Int=>[46]++hexT n.toNat).flatten).length:=by simp;omega
   have hf:Fol (f (p+([37,120]++(hexT n.toNat++((l.map fun n:Int=>[46]++hexT n.toNat).flatten))).length)):=hf
   show Ans f .elem D p (.ok _ (p+([37,120]++(hexT n.toNat++((l.map fun n:Int=>[46]++hexT n.toNat).flatten))).length))
   rw [hlen] at hf ⊢
   have hnx:isDg 16 (f (p+2+(hexT n.toNat).length))=false/\f (p+2+(hexT n.toNat).length)≠45:=by
    cases l with
    | nil=>exact ⟨(zlb hf).2.1,(zlb hf).2.2.1⟩
    | cons u l=>rw [h2.head];decide
   have hnum:=(zmm n hn.1 hn.2).at h1 hnx.1 (lim:=1114111) hn.2
   have hd:=zny (D:=D) l [n] _ hl h2 hf
   exact .value h37 (by rw [h120];rfl) (.nums hnum hnx.2 hd)
 rw [if_neg k6] at h hT
 by_cases k7:k=7
 ·rw [if_pos k7] at h
  simp only [Bool.and_eq_true,beq_iff_eq,List.isEmpty_iff,decide_eq_true_eq] at h
  obtain ⟨⟨⟨⟨⟨⟨h1,h2⟩,h3⟩,_⟩,h4⟩,h5⟩,h6⟩:=h
  subst k7 h1 h2 h3
  match ns,h4 with
  | [a,b],_ =>
   simp only [List.all_cons,List.all_nil,Bool.and_true,Bool.and_eq_true] at h5
   obtain ⟨ha,hb⟩:=h5
   unfold numB at ha hb
   simp at ha hb h6
   have hT:zaf d (.mk 7 [] [a,b] 0 0 [])=[37,120]++(hexT a.toNat++([45]++hexT b.toNat)):=by rw [hT];simp [sepT]
   refine ze7 ⟨37,_,by rw [hT];rfl,by decide,by decide,by decide⟩ fun D p hd hh hf=>?_
   rw [hT] at hh hf ⊢
   have h37:f p=37:=hh.head
   have h120:f (p+1)=120:=hh.tail.head
   have h1:Has f (p+2) (hexT a.toNat):=hh.right.left
   have h45:f (p+2+(hexT a.toNat).length)=45:=hh.right.right.head
   have h2:Has f (p+2+(hexT a.toNat).length+1) (hexT b.toNat):=hh.right.right.right
   have hlen:p+([37,120]++(hexT a.toNat++([45]++hexT b.toNat))).length=p+2+(hexT a.toNat).length+1+(hexT b.toNat).length:=by simp;omega
   rw [hlen] at hf ⊢
   have n1:=(zmm a ha.1 ha.2).at h1 (by rw [h45];decide) (lim:=1114111) ha.2
   have n2:=(zmm b hb.1 hb.2).at h2 (zlb hf).2.1 (lim:=1114111) hb.2
   exact .value h37 (by rw [h120];rfl) (.span n1 h45 n2 (by omega))
 rw [if_neg k7] at h
 cases h
theorem znz {f:Nat->Int}:∀ (d:Nat) (t:Tree),zax d t=true->Reads f d t
 | 0,.mk k x ns lo hi kids,h=>by
  unfold zax at h
  simp only [Bool.and_eq_true,List.isEmpty_iff] at h
  obtain ⟨h1,rfl⟩:=h
  exact zlc 0 h1
 | d+1,.mk k x ns lo hi kids,h=>by
  unfold zax at h
  simp only [Bool.and_eq_true,List.all_eq_true] at h
  obtain ⟨h1,h2⟩:=h
  have ih:∀ t∈kids,Reads f d t:=fun t ht=>znz d t (h2 t ht)
  by_cases k12:k=1\/k=2
  ·unfold ze4 at h1
   rw [if_pos k12] at h1
   simp only [Bool.and_eq_true,beq_iff_eq,List.isEmpty_iff,decide_eq_true_eq] at h1
   obtain ⟨⟨⟨⟨rfl,rfl⟩,rfl⟩,rfl⟩,h5⟩:=h1
   cases kids with
   | nil=>simp at h5
   | cons u l =>
    have iu:=ih u (by simp)
    have il:∀ t∈l,Reads f d t:=fun t ht=>ih t (by simp [ht])
    rcases k12 with rfl | rfl
    ·have hT:zaf (d+1) (.mk 1 [] [] 0 0 (u::l))=aTxt d u++(l.map fun t=>[32,47,32]++aTxt d t).flatten:=by
      rw [zaf,zgl,if_pos rfl,List.map_cons,zmn,List.map_map]
      rfl
     have hH:∃ c l',zaf (d+1) (.mk 1 [] [] 0 0 (u::l))=c::l'/\isRp c=true:=by
      obtain ⟨c,l',e,hc⟩:=iu.ah
      exact ⟨c,_,by rw [hT,e];rfl,hc⟩
     refine ⟨fun D p hd hh hf=>?_,fun hk=>absurd rfl hk,fun hk=>absurd rfl hk,fun hk=>absurd rfl hk,hH,fun hk=>absurd rfl hk⟩
     rw [hT] at hh hf ⊢
     have h3:=hh.left
     have h4:=hh.right
     rw [List.length_append,<- Nat.add_assoc] at hf ⊢
     have hfol:AFol f (p+(aTxt d u).length):=by
      cases l with
      | nil=>exact .inl hf
      | cons v l=>exact .inr ⟨h4.head,h4.tail.head⟩
     have hc:=iu.c (by omega) h3 hfol
     have ht:=zr5 (D:=D) (by omega) l [u] _ il h4 hf
     rw [List.singleton_append,znx 1 h5] at ht
     exact .altsOk hc ht
    ·have hT:zaf (d+1) (.mk 2 [] [] 0 0 (u::l))=rTxt d u++(l.map fun t=>[32]++rTxt d t).flatten:=by
      rw [zaf,zgl,if_neg (by decide),if_pos rfl,List.map_cons,zmn,List.map_map]
      rfl
     have hH:∃ c l',zaf (d+1) (.mk 2 [] [] 0 0 (u::l))=c::l'/\isRp c=true:=by
      obtain ⟨c,l',e,hc⟩:=iu.rh
      exact ⟨c,_,by rw [hT,e];rfl,hc⟩
     refine zmo rfl hH fun D p hd hh hf=>?_
     rw [hT] at hh hf ⊢
     have h3:=hh.left
     have h4:=hh.right
     rw [List.length_append,<- Nat.add_assoc] at hf ⊢
     have hfol:Fol (f (p+(rTxt d u).length)):=by
      cases l with
      | nil=>exact AFol.fol hf
      | cons v l=>exact .inl h4.head
     have hc:=iu.r (by omega) h3 hfol
     have ht:=zr4 (D:=D) (by omega) l [u] _ il h4 hf
     rw [List.singleton_append,znx 2 h5] at ht
     exact .concOk hc ht
  ·by_cases k3:k=3
   ·unfold ze4 at h1
    rw [if_neg k12,if_pos k3] at h1
    simp only [Bool.and_eq_true,beq_iff_eq,List.isEmpty_iff,decide_eq_true_eq] at h1
    obtain ⟨⟨⟨rfl,rfl⟩,h4⟩,h5⟩:=h1
    subst k3
    match kids,h4 with
    | [u],_ =>
     have iu:=ih u (by simp)
     by_cases g:lo=0/\hi=1
     ·have hT:zaf (d+1) (.mk 3 [] [] lo hi [u])=[91]++zaf d u++[93]:=by
       rw [zaf,zgl,if_neg (by decide),if_neg (by decide),if_pos rfl,if_pos g]
       simp
      obtain ⟨rfl,rfl⟩:=g
      refine zii rfl ⟨91,_,by rw [hT];rfl,by decide⟩ fun D p hd hh hf=>?_
      rw [hT] at hh hf ⊢
      have h91:f p=91:=hh.left.left.head
      have hU:Has f (p+1) (zaf d u):=hh.left.right
      have h93:f (p+1+(zaf d u).length)=93:=by
       have:=hh.right.head
       rw [<- this]
       congr 1
       simp
       omega
      have ha:=iu.A (D+1) (p+1) (by omega) hU (.inr (.inl h93))
      have hs:zad f (p+1)=p+1:=zuz (zfi iu.H hU)
      have:=Ans.square (f:=f) (d:=D) (p:=p) h91 (by omega) (by rw [hs];exact ha) h93
      have hlen:p+(([91]:List Int)++zaf d u++[93]).length=p+1+(zaf d u).length+1:=by simp;omega
      rw [hlen]
      exact .repBare (zr2 (by rw [h91];decide) (by omega)) this
     ·have hT:zaf (d+1) (.mk 3 [] [] lo hi [u])=cntT lo hi++eTxt d u:=by
       rw [zaf,zgl,if_neg (by decide),if_neg (by decide),if_pos rfl,if_neg g]
       simp [eTxt]
      have hcnt:∃ c l,cntT lo hi=c::l/\isRp c=true:=by
       unfold cntT
       by_cases g0:hi=0
       ·rw [if_pos g0];exact ⟨48,[],rfl,by decide⟩
       ·rw [if_neg g0]
        unfold cntB at h5
        simp at h5
        by_cases g1:0<lo
        ·rw [if_pos g1]
         have hn:=zix lo (by omega) (by omega)
         have hp:=hn.pos
         cases e:decT lo.toNat with
         | nil=>rw [e] at hp;simp at hp
         | cons c l =>
          refine ⟨c,_,rfl,?_⟩
          have:=hn.dc (f:=fun i=>(decT lo.toNat).getD i (-1)) (p:=0) (fun i c hc=>by show (decT lo.toNat).getD (0+i) (-1)=c;rw [List.getD_eq_getElem?_getD,Nat.zero_add,hc];rfl)
          rw [e] at this
          unfold isRp
          have h2:isDc c=true:=this
          rw [h2]
          simp
        ·rw [if_neg g1,if_neg (by omega)]
         exact ⟨42,_,rfl,by decide⟩
      refine zii rfl (by obtain ⟨c,l,e,hc⟩:=hcnt;exact ⟨c,_,by rw [hT,e];rfl,hc⟩) fun D p hd hh hf=>?_
      rw [hT] at hh hf ⊢
      rw [List.length_append,<- Nat.add_assoc] at hf ⊢
      have hE:=zfi iu.eh hh.right
      have hc:=qd3 h5 hh.left hE.2.1 hE.2.2
      have he:=iu.e (D:=D) (by omega) hh.right hf
      unfold cntB at h5
      simp at h5
      exact .repOk hc he (by omega)
   ·have hk0:kids=[]:=by
     unfold ze4 at h1
     rw [if_neg k12,if_neg k3] at h1
     by_cases k4:k=4
     ·rw [if_pos k4] at h1;simp only [Bool.and_eq_true,decide_eq_true_eq] at h1;exact List.length_eq_zero_iff.1 h1.1.2
     rw [if_neg k4] at h1
     by_cases k5:k=5
     ·rw [if_pos k5] at h1;simp only [Bool.and_eq_true,decide_eq_true_eq] at h1;exact List.length_eq_zero_iff.1 h1.1.2
     rw [if_neg k5] at h1
     by_cases k6:k=6
     ·rw [if_pos k6] at h1;simp only [Bool.and_eq_true,decide_eq_true_eq] at h1;exact List.length_eq_zero_iff.1 h1.1.1.1.2
     rw [if_neg k6] at h1
     by_cases k7:k=7
     ·rw [if_pos k7] at h1;simp only [Bool.and_eq_true,decide_eq_true_eq] at h1;exact List.length_eq_zero_iff.1 h1.1.1.1.2
     rw [if_neg k7] at h1
     cases h1
    subst hk0
    exact zlc (d+1) h1
theorem zsz {f:Nat->Int} {p:Nat} {r:Rule} (hn:zdc r.name=true) (hr:zax 50 r.expr=true) (h:Has f p (zb9 r)) (hb:isBl (f (p+(zb9 r).length))=false):RuleAt f p (.ok r (p+(zb9 r).length)):=by
 obtain ⟨x,m,t⟩:=r
 have R:=znz (f:=f) 50 t hr
 cases m with
 | true =>
  have e:zb9 ⟨x,true,t⟩=x++([32,61,47,32]++(zaf 50 t++[10])):=by unfold zb9;simp
  rw [e] at h hb ⊢
  have hx:=h.left
  have h1:=h.right
  have hq:f (p+x.length)=32:=h1.head
  have h61:f (p+x.length+1)=61:=h1.tail.head
  have h47:f (p+x.length+2)=47:=h1.tail.tail.head
  have h32:f (p+x.length+3)=32:=h1.tail.tail.tail.head
  have ht:Has f (p+x.length+4) (zaf 50 t):=h1.right.left
  have h10:f (p+x.length+4+(zaf 50 t).length)=10:=h1.right.right.head
  have hlen:p+(x++([32,61,47,32]++(zaf 50 t++[10]))).length=p+x.length+4+(zaf 50 t).length+1:=by simp;omega
  rw [hlen] at hb ⊢
  have hname:=hx.name hn (by rw [hq];decide)
  have sk1:zad f (p+x.length)=p+x.length+1:=zdm hq (.inr (.inr h61))
  have heq:eqAt f (p+x.length)=p+x.length+3:=by unfold eqAt;rw [sk1,if_pos h47]
  have sk2:zad f (p+x.length+3)=p+x.length+4:=zdm h32 (.inl (zfi R.H ht))
  have ha:=R.A 0 _ (by omega) ht (.inr (.inr ⟨h10,hb⟩))
  have:=RuleAt.ok (f:=f) hname (by rw [sk1];exact h61) (by rw [heq,sk2];exact ha) (zv0 h10)
  rw [sk1,show decide (f (p+x.length+1+1)=47)=true from decide_eq_true h47] at this
  exact this
 | false =>
  have e:zb9 ⟨x,false,t⟩=x++([32,61,32]++(zaf 50 t++[10])):=by unfold zb9;simp
  rw [e] at h hb ⊢
  have hx:=h.left
  have h1:=h.right
  have hq:f (p+x.length)=32:=h1.head
  have h61:f (p+x.length+1)=61:=h1.tail.head
  have h32:f (p+x.length+2)=32:=h1.tail.tail.head
  have ht:Has f (p+x.length+3) (zaf 50 t):=h1.right.left
  have h10:f (p+x.length+3+(zaf 50 t).length)=10:=h1.right.right.head
  have hlen:p+(x++([32,61,32]++(zaf 50 t++[10]))).length=p+x.length+3+(zaf 50 t).length+1:=by simp;omega
  rw [hlen] at hb ⊢
  have hname:=hx.name hn (by rw [hq];decide)
  have sk1:zad f (p+x.length)=p+x.length+1:=zdm hq (.inr (.inr h61))
  have heq:eqAt f (p+x.length)=p+x.length+2:=by unfold eqAt;rw [sk1,if_neg (by rw [h32];decide)]
  have sk2:zad f (p+x.length+2)=p+x.length+3:=zdm h32 (.inl (zfi R.H ht))
  have ha:=R.A 0 _ (by omega) ht (.inr (.inr ⟨h10,hb⟩))
  have:=RuleAt.ok (f:=f) hname (by rw [sk1];exact h61) (by rw [heq,sk2];exact ha) (zv0 h10)
  rw [sk1,show decide (f (p+x.length+1+1)=47)=false from decide_eq_false (by rw [h32];decide)] at this
  exact this
theorem zld {f:Nat->Int}:∀ (l acc:List Rule) (p:Nat),zl4 l=true->acc.length+l.length<=500->Has f p ((l.map zb9).flatten)->f (p+((l.map zb9).flatten).length)<0->Rules f acc p (.ok (acc++l) (p+((l.map zb9).flatten).length))
 | [],acc,p,_,_,_,hf=>by
  rw [List.append_nil]
  exact .done hf
 | r::l,acc,p,hl,hc,hx,hf=>by
  unfold zl4 at hl
  rw [List.all_cons,Bool.and_eq_true,Bool.and_eq_true] at hl
  obtain ⟨⟨hn,hr⟩,hl⟩:=hl
  rw [List.map_cons,List.flatten_cons] at hx hf ⊢
  rw [List.length_append,<- Nat.add_assoc] at hf ⊢
  have h1:=hx.left
  have h2:=hx.right
  obtain ⟨_,_,c,x',hname,hal⟩:=zf1 hn
  have hal1:isAl (f p)=true:=by
   have:Has f p r.name:=by unfold zb9 at h1;exact h1.left.left.left
   rw [hname] at this
   rw [this.head]
   exact hal
  have hb:isBl (f (p+(zb9 r).length))=false:=by
   cases l with
   | nil =>
    have:f (p+(zb9 r).length)<0:=hf
    unfold isBl
    simp
    omega
   | cons u l =>
    rw [List.all_cons,Bool.and_eq_true,Bool.and_eq_true] at hl
    obtain ⟨_,_,c,x',hname,hal⟩:=zf1 hl.1.1
    rw [List.map_cons,List.flatten_cons] at h2
    have:Has f (p+(zb9 r).length) u.name:=by have:=h2.left;unfold zb9 at this;exact this.left.left.left
    rw [hname] at this
    rw [this.head]
    unfold isAl at hal
    unfold isBl
    simp at hal ⊢
    omega
  have hrule:=zsz hn hr h1 hb
  have ih:=zld l (acc++[r]) _ hl (by simp at hc ⊢;omega) h2 hf
  rw [List.append_assoc,List.singleton_append] at ih
  exact .rule hal1 hrule (by simp at hc;omega) ih
end Go.Proofs.YtekjnfldgjcgeaaGreatDoor
