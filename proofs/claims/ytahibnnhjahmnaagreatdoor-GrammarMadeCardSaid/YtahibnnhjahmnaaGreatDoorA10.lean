/- Part 10 of what the laws of the grammar rest on. -/
import Derived.Test.YtahibnnhjahmnaaGreatDoorA9
set_option linter.all false
set_option maxRecDepth 100000
set_option maxHeartbeats 8000000
namespace Go.Proofs.YtahibnnhjahmnaaGreatDoor
def vQ(c:Int):Prop:=c=32\/c=41\/c=93\/c=10
def Stop(f:Nat->Int)(q:Nat):Prop:=f q=41\/f q=93\/(f q=10/\aZ (f (q+1))=false)
def kK(f:Nat->Int)(q:Nat):Prop:=Stop f q\/(f q=32/\f (q+1)=47)
def sw(f:Nat->Int)(q:Nat):Nat:=if f q=32 then q+1 else q
theorem Hg{f:Nat->Int}{p:Nat}(h0:0<=f p)(h1:f p≠59)(h2:f p≠10)(h3:f p≠13)(hb:aZ (f p)=false):Skip f p p:=by
 refine .here hb fun e he=>?_
 unfold eH ji at he;rw[if_neg h1,if_neg (by omega),if_neg h2,if_neg (fun g=>h3 g.1)]at he
 cases he
theorem Xi{c:Int}(h:dB c=true):0<=c/\c≠59/\c≠10/\c≠13/\aZ c=false/\c≠47/\c≠32:=by
 unfold dB aH aS at h;unfold aZ;simp at h ⊢;omega
theorem Xj{f:Nat->Int}{p:Nat}(h:dB (f p)=true):bN f p=p:=by
 obtain⟨h0,h1,h2,h3,h4,_⟩:=Xi h;exact(Hg h0 h1 h2 h3 h4).eq
theorem EK{f:Nat->Int}{p:Nat}(h:f p=32)(h2:dB (f (p+1))=true\/f (p+1)=47\/f (p+1)=61):bN f p=p+1:=by
 refine(Skip.blank (by rw[h];decide) ?_).eq;rcases h2 with h2|h2|h2
 ·obtain⟨h0,h1,h2,h3,h4,_⟩:=Xi h2;exact Hg h0 h1 h2 h3 h4
 ·exact Hg (by omega) (by omega) (by omega) (by omega) (by rw[h2];decide)
 ·exact Hg (by omega) (by omega) (by omega) (by omega) (by rw[h2];decide)
theorem QY{f:Nat->Int}{q:Nat}(h:f q=10):eH f q=some (q+1):=by
 have hc:ji f q=q:=by unfold ji;rw[if_neg (by omega)]
 unfold eH;rw[hc,if_neg (by omega),if_pos h]
theorem Stop.skip{f:Nat->Int}{q:Nat}(h:Stop f q):bN f q=q:=by
 rcases h with h|h|⟨h,hb⟩
 ·exact(Hg (by omega) (by omega) (by omega) (by omega) (by rw[h];decide)).eq
 ·exact(Hg (by omega) (by omega) (by omega) (by omega) (by rw[h];decide)).eq
 ·refine(Skip.here (by rw[h];decide) fun e he=>?_).eq;rw[QY h]at he
  cases he
  exact hb
theorem Stop.sw{f:Nat->Int}{q:Nat}(h:Stop f q):sw f q=q:=by
 unfold Go.Proofs.YtahibnnhjahmnaaGreatDoor.sw;rw[if_neg];rcases h with h|h|⟨h,_⟩<;>omega
theorem Stop.ne{f:Nat->Int}{q:Nat}(h:Stop f q):f q≠47:=by rcases h with h|h|⟨h,_⟩<;>omega
theorem kK.Hl{f:Nat->Int}{q:Nat}(h:kK f q):vQ (f q):=by
 unfold vQ;rcases h with (h|h|⟨h,_⟩)|⟨h,_⟩<;>omega
theorem kK.skip{f:Nat->Int}{q:Nat}(h:kK f q):bN f q=sw f q/\¬ (q<bN f q/\dB (f (bN f q))=true):=by
 rcases h with h|⟨h1,h2⟩
 ·rw[h.skip,h.sw];exact⟨rfl,by omega⟩
 ·rw[EK h1 (.inr (.inl h2))];unfold sw;rw[if_pos h1,h2];exact⟨rfl,fun g=>absurd g.2 (by decide)⟩
theorem Ho{c:Int}(h:vQ c):dM c=false/\bC 16 c=false/\c≠45/\c≠46:=by
 rcases h with rfl|rfl|rfl|rfl<;>decide
theorem QZ(s x:List Int)(l:List (List Int)):aO s (x::l)=x++(l.map (s++·)).flatten:=by
 induction l generalizing x with
 |nil=>simp[aO]
 |cons y l ih=>rw[aO,ih];simp
theorem Xk(k:Int){l:List Tree}(h:2<=l.length):uj k l=.mk k [] [] 0 0 l:=by
 match l,h with
 |_::_::_,_=>rfl
def iU(d:Nat)(t:Tree):List Int:=dD (t.kind==1) (aI d t)
def iV(d:Nat)(t:Tree):List Int:=dD (t.kind==1||t.kind==2) (aI d t)
def sD(d:Nat)(t:Tree):List Int:=dD (t.kind==1||t.kind==2||t.kind==3) (aI d t)
def JQ(c:Int):Prop:=dB c=true/\aS c=false/\c≠42
structure Reads (f:Nat->Int) (d:Nat) (t:Tree):Prop where
 A:∀ D p,D+d<=50->Has f p (aI d t)->Stop f (p+(aI d t).length)->aK f .alts D p (.ok t (p+(aI d t).length))
 C:t.kind≠1->∀ D p,D+d<=50->Has f p (aI d t)->kK f (p+(aI d t).length)->aK f .fV D p (.ok t (sw f (p+(aI d t).length)))
 R:t.kind≠1->t.kind≠2->∀ D p,D+d<=50->Has f p (aI d t)->vQ (f (p+(aI d t).length))->aK f .rep D p (.ok t (p+(aI d t).length))
 E:t.kind≠1->t.kind≠2->t.kind≠3->∀ D p,D+d<=50->Has f p (aI d t)->vQ (f (p+(aI d t).length))->aK f .elem D p (.ok t (p+(aI d t).length))
 H:∃ c l,aI d t=c::l/\dB c=true
 K:t.kind≠1->t.kind≠2->t.kind≠3->∃ c l,aI d t=c::l/\JQ c
theorem JR{f:Nat->Int}{D p q:Nat}{t:Tree}(h:aK f .rep D p (.ok t q))(hf:kK f q):aK f .fV D p (.ok t (sw f q)):=by
 have:=aK.dS (f:=f) (d:=D) (p:=q) (l:=[t]) hf.skip.2;rw[hf.skip.1]at this;exact .jU h this
theorem Q0{f:Nat->Int}{D p q:Nat}{t:Tree}(hf:Stop f q)(h:aK f .fV D p (.ok t (sw f q))):aK f .alts D p (.ok t q):=by
 rw[hf.sw]at h;exact .jS h (.gV hf.ne)
theorem Q5{f:Nat->Int}{D p q:Nat}{t:Tree}(hh:JQ (f p))(h:aK f .elem D p (.ok t q)):aK f .rep D p (.ok t q):=.fE (Xg hh.2.1 hh.2.2) h
theorem zno{f:Nat->Int}{d:Nat}{t:Tree}(hk:t.kind=2)(hh:∃ c l,aI d t=c::l/\dB c=true)
  (hc:∀ D p,D+d<=50->Has f p (aI d t)->kK f (p+(aI d t).length)->aK f .fV D p (.ok t (sw f (p+(aI d t).length)))):Reads f d t :=
 ⟨fun D p h1 h2 h3=>Q0 h3 (hc D p h1 h2 (.inl h3)),fun _=>hc,fun _ h=>absurd hk h,fun _ h=>absurd hk h,hh,fun _ h=>absurd hk h⟩
theorem Xl{f:Nat->Int}{d:Nat}{t:Tree}(hk:t.kind=3)(hh:∃ c l,aI d t=c::l/\dB c=true)
  (hc:∀ D p,D+d<=50->Has f p (aI d t)->vQ (f (p+(aI d t).length))->aK f .rep D p (.ok t (p+(aI d t).length))):Reads f d t :=
 ⟨fun D p h1 h2 h3=>Q0 h3 (JR (hc D p h1 h2 (kK.Hl (.inl h3))) (.inl h3)),fun _ D p h1 h2 h3=>JR (hc D p h1 h2 h3.Hl) h3,fun _ _=>hc,fun _ _ h=>absurd hk h,hh,fun _ _ h=>absurd hk h⟩
theorem BS{f:Nat->Int}{p:Nat}{x:List Int}{P:Int->Prop}(h:∃ c l,x=c::l/\P c)(hx:Has f p x):P (f p):=by
 obtain⟨c,l,rfl,hc⟩:=h;rw[hx.head];exact hc
theorem NK{f:Nat->Int}{d:Nat}{t:Tree}(hh:∃ c l,aI d t=c::l/\JQ c)
  (hc:∀ D p,D+d<=50->Has f p (aI d t)->vQ (f (p+(aI d t).length))->aK f .elem D p (.ok t (p+(aI d t).length))):Reads f d t :=
 have hr:∀ D p,D+d<=50->Has f p (aI d t)->vQ (f (p+(aI d t).length))->aK f .rep D p (.ok t (p+(aI d t).length)):=fun D p h1 h2 h3=>Q5 (BS hh h2) (hc D p h1 h2 h3)
 ⟨fun D p h1 h2 h3=>Q0 h3 (JR (hr D p h1 h2 (kK.Hl (.inl h3))) (.inl h3)),fun _ D p h1 h2 h3=>JR (hr D p h1 h2 h3.Hl) h3,fun _ _=>hr,fun _ _ _=>hc,by obtain⟨c,l,e,h⟩:=hh;exact⟨c,l,e,h.1⟩,fun _ _ _=>hh⟩
namespace Reads
variable {f:Nat → Int} {d:Nat} {t:Tree} (h:Reads f d t)
include h
theorem br{D p:Nat}(hd:D+d+1<=50)(hx:Has f p ([40]++aI d t++[41])):aK f .elem D p (.ok t (p+([40]++aI d t++[41]).length)):=by
 have kT:f p=40:=hx.left.left.head;have hT:Has f (p+1) (aI d t):=hx.left.right
 have Xm:f (p+1+(aI d t).length)=41:=by
  have:=hx.right.head;rw[<- this]
  congr 1
  simp;omega
 have ha:=h.A (D+1) (p+1) (by omega) hT (.inl Xm);have hs:bN f (p+1)=p+1:=Xj (BS h.H hT);have:=aK.round (f:=f) (d:=D) (p:=p) kT (by omega) (by rw[hs];exact ha) Xm;have hlen:p+(([40]:List Int)++aI d t++[41]).length=p+1+(aI d t).length+1:=by simp;omega
 rw[hlen];exact this
theorem eh:∃ c l,sD d t=c::l/\JQ c:=by
 unfold sD dD;by_cases k:(t.kind==1||t.kind==2||t.kind==3)=true
 ·rw[if_pos k];exact⟨40,aI d t++[41],rfl,by decide,by decide,by decide⟩
 ·rw[if_neg k];simp at k;exact h.K k.1.1 k.1.2 k.2
theorem rh:∃ c l,iV d t=c::l/\dB c=true:=by
 unfold iV dD;by_cases k:(t.kind==1||t.kind==2)=true
 ·rw[if_pos k];exact⟨40,aI d t++[41],rfl,by decide⟩
 ·rw[if_neg k];exact h.H
theorem ah:∃ c l,iU d t=c::l/\dB c=true:=by
 unfold iU dD;by_cases k:(t.kind==1)=true
 ·rw[if_pos k];exact⟨40,aI d t++[41],rfl,by decide⟩
 ·rw[if_neg k];exact h.H
theorem e{D p:Nat}(hd:D+d+1<=50)(hx:Has f p (sD d t))(hf:vQ (f (p+(sD d t).length))):aK f .elem D p (.ok t (p+(sD d t).length)):=by
 unfold sD dD at hx hf ⊢;by_cases k:(t.kind==1||t.kind==2||t.kind==3)=true
 ·rw[if_pos k]at hx hf ⊢;exact h.br hd hx
 ·rw[if_neg k]at hx hf ⊢;simp at k;exact h.E k.1.1 k.1.2 k.2 D p (by omega) hx hf
theorem r{D p:Nat}(hd:D+d+1<=50)(hx:Has f p (iV d t))(hf:vQ (f (p+(iV d t).length))):aK f .rep D p (.ok t (p+(iV d t).length)):=by
 unfold iV dD at hx hf ⊢;by_cases k:(t.kind==1||t.kind==2)=true
 ·rw[if_pos k]at hx hf ⊢;have kT:f p=40:=hx.left.left.head;exact Q5 (by rw[kT];exact⟨by decide,by decide,by decide⟩) (h.br hd hx)
 ·rw[if_neg k]at hx hf ⊢;simp at k;exact h.R k.1 k.2 D p (by omega) hx hf
theorem c{D p:Nat}(hd:D+d+1<=50)(hx:Has f p (iU d t))(hf:kK f (p+(iU d t).length)):aK f .fV D p (.ok t (sw f (p+(iU d t).length))):=by
 unfold iU dD at hx hf ⊢;by_cases k:(t.kind==1)=true
 ·rw[if_pos k]at hx hf ⊢;have kT:f p=40:=hx.left.left.head;exact JR (Q5 (by rw[kT];exact⟨by decide,by decide,by decide⟩) (h.br hd hx)) hf
 ·rw[if_neg k]at hx hf ⊢;simp at k;exact h.C k D p (by omega) hx hf
end Reads
theorem Xn{f:Nat->Int}{d D:Nat}(hd:D+d+1<=50):∀ (l:List Tree) (acc:List Tree) (p:Nat),(∀ t∈l,Reads f d t)->Has f p ((l.map fun t=>[32]++iV d t).flatten) ->
  kK f (p+((l.map fun t=>[32]++iV d t).flatten).length)->aK f (.fD acc) D p (.ok (uj 2 (acc++l)) (sw f (p+((l.map fun t=>[32]++iV d t).flatten).length)))
 |[],acc,p,_,_,hf=>by
  have hf:kK f p:=hf;have:=aK.dS (f:=f) (d:=D) (p:=p) (l:=acc) hf.skip.2;rw[hf.skip.1]at this;rw[List.append_nil];exact this
 |t::l,acc,p,hl,hx,hf=>by
  have ht:=hl t (by simp);obtain⟨z,hz⟩:∃ z,z=(l.map fun t=>[32]++iV d t).flatten:=⟨_,rfl⟩
  have e:((t::l).map fun t=>[32]++iV d t).flatten=[32]++(iV d t++z):=by rw[hz];simp
  rw[e]at hx hf ⊢;have h32:f p=32:=hx.head;have h1:Has f (p+1) (iV d t):=hx.right.left;have h2:Has f (p+1+(iV d t).length) z:=hx.right.right;have rQ:dB (f (p+1))=true:=BS ht.rh h1;have hsk:bN f p=p+1:=EK h32 (.inl rQ);have hlen:p+([32]++(iV d t++z)).length=p+1+(iV d t).length+z.length:=by simp;omega
  rw[hlen]at hf ⊢
  have qY:vQ (f (p+1+(iV d t).length)):=by
   cases l with
   |nil=>subst hz;exact kK.Hl hf
   |cons u l=>subst hz;exact .inl h2.head
  have hr:=ht.r hd h1 qY;subst hz;have ih:=Xn hd l (acc++[t]) (p+1+(iV d t).length) (fun u hu=>hl u (by simp[hu])) h2 hf;rw[List.append_assoc,List.singleton_append]at ih;exact .iO (by rw[hsk];exact⟨by omega,rQ⟩) (by rw[hsk];exact hr) ih
theorem Xo{f:Nat->Int}{d D:Nat}(hd:D+d+1<=50):∀ (l:List Tree) (acc:List Tree) (p:Nat),(∀ t∈l,Reads f d t)->Has f p ((l.map fun t=>[32,47,32]++iU d t).flatten) ->
  Stop f (p+((l.map fun t=>[32,47,32]++iU d t).flatten).length)->aK f (.gU acc) D (sw f p) (.ok (uj 1 (acc++l)) (p+((l.map fun t=>[32,47,32]++iU d t).flatten).length))
 |[],acc,p,_,_,hf=>by
  have hf:Stop f p:=hf;rw[List.append_nil,hf.sw];exact .gV hf.ne
 |t::l,acc,p,hl,hx,hf=>by
  have ht:=hl t (by simp);obtain⟨z,hz⟩:∃ z,z=(l.map fun t=>[32,47,32]++iU d t).flatten:=⟨_,rfl⟩
  have e:((t::l).map fun t=>[32,47,32]++iU d t).flatten=[32,47,32]++(iU d t++z):=by rw[hz];simp
  rw[e]at hx hf ⊢;have h32:f p=32:=hx.head;have h47:f (p+1)=47:=hx.tail.head;have Q6:f (p+2)=32:=hx.tail.tail.head;have h1:Has f (p+3) (iU d t):=hx.right.left;have h2:Has f (p+3+(iU d t).length) z:=hx.right.right;have rQ:dB (f (p+2+1))=true:=BS ht.ah h1;have hsk:bN f (p+1+1)=p+3:=EK Q6 (.inl rQ);have hlen:p+([32,47,32]++(iU d t++z)).length=p+3+(iU d t).length+z.length:=by simp;omega
  rw[hlen]at hf ⊢
  have qY:kK f (p+3+(iU d t).length):=by
   cases l with
   |nil=>subst hz;exact .inl hf
   |cons u l=>subst hz;exact .inr ⟨h2.head,h2.tail.head⟩
  have hc:=ht.c hd h1 qY;subst hz;have ih:=Xo hd l (acc++[t]) (p+3+(iU d t).length) (fun u hu=>hl u (by simp[hu])) h2 hf;rw[List.append_assoc,List.singleton_append]at ih;have ha:sw f p=p+1:=by unfold sw;rw[if_pos h32]
  rw[ha];exact .jT h47 (by rw[hsk];exact hc) ih
theorem Xp{f:Nat->Int}{D:Nat}:∀ (l acc:List Int) (p:Nat),l.all bK=true->Has f p ((l.map fun n:Int=>[46]++aL n.toNat).flatten)->vQ (f (p+((l.map fun n:Int=>[46]++aL n.toNat).flatten).length)) ->
  aK f (.dots 16 acc) D p (.ok (.mk 6 [] (acc++l) 0 0 []) (p+((l.map fun n:Int=>[46]++aL n.toNat).flatten).length))
 |[],acc,p,_,_,hf=>by
  rw[List.append_nil];exact .iP (Ho hf).2.2.2
 |n::l,acc,p,hl,hx,hf=>by
  rw[List.all_cons,zbJ]at hl;obtain⟨hn,hl⟩:=hl;unfold bK at hn;simp at hn;obtain⟨z,hz⟩:∃ z,z=(l.map fun n:Int=>[46]++aL n.toNat).flatten:=⟨_,rfl⟩
  have e:((n::l).map fun n:Int=>[46]++aL n.toNat).flatten=[46]++(aL n.toNat++z):=by rw[hz];simp
  rw[e]at hx hf ⊢;have h46:f p=46:=hx.head;have h1:Has f (p+1) (aL n.toNat):=hx.right.left;have h2:Has f (p+1+(aL n.toNat).length) z:=hx.right.right;have hlen:p+([46]++(aL n.toNat++z)).length=p+1+(aL n.toNat).length+z.length:=by simp;omega
  rw[hlen]at hf ⊢
  have qY:bC 16 (f (p+1+(aL n.toNat).length))=false:=by
   cases l with
   |nil=>subst hz;exact(Ho hf).2.1
   |cons u l=>subst hz;rw[h2.head];decide
  have nV:=(NI n hn.1 hn.2).at h1 qY (lim:=1114111) hn.2;subst hz;have ih:=Xp (D:=D) l (acc++[n]) (p+1+(aL n.toNat).length) hl h2 hf;rw[List.append_assoc,List.singleton_append]at ih;exact .jV h46 nV ih
theorem Q7(d:Nat)(k lo hi:Int)(x ns:List Int)(h:k≠1/\k≠2/\k≠3):aI d (.mk k x ns lo hi [])=if k=4 then x else if k=5 then [34]++x++[34] else [37,120]++aO (if k=6 then [46] else [45]) (ns.map fun n=>aL n.toNat):=by
 cases d<;>rw[aI,tL,if_neg h.1,if_neg h.2.1,if_neg h.2.2]
theorem Xq{f:Nat->Int}(d:Nat){k lo hi:Int}{x ns:List Int}(h:oo k x ns lo hi 0=true):Reads f d (.mk k x ns lo hi []):=by
 unfold oo at h;by_cases k12:k=1\/k=2
 ·rw[if_pos k12]at h;simp at h
 rw[if_neg k12]at h;by_cases k3:k=3
 ·rw[if_pos k3]at h;simp at h
 rw[if_neg k3]at h;have hne:k≠1/\k≠2/\k≠3:=⟨fun e=>k12 (.inl e),fun e=>k12 (.inr e),k3⟩
 have hT:=Q7 d k lo hi x ns hne;by_cases k4:k=4
 ·rw[if_pos k4]at h hT;simp at h;obtain⟨⟨⟨h1,h2⟩,h3⟩,h4⟩:=h;subst k4 h1 h2 h3;obtain⟨_,_,c,l,hx,hc⟩:=Hf h4;refine NK ⟨c,l,by rw[hT];exact hx,?_⟩ fun D p hd hh hf=>?_
  ·unfold aH at hc;unfold JQ dB aH aS;simp at hc ⊢;omega
  ·rw[hT]at hh hf ⊢;have ha:aH (f p)=true:=BS (P:=fun c=>aH c=true) ⟨c,l,hx,hc⟩ hh;exact .mV ha (hh.name h4 (Ho hf).1)
 rw[if_neg k4]at h hT;by_cases k5:k=5
 ·rw[if_pos k5]at h hT;simp only[zbJ,beq_iff_eq,List.isEmpty_iff,decide_eq_true_eq]at h;obtain⟨⟨⟨⟨h1,h2⟩,h3⟩,_⟩,h4⟩:=h;subst k5 h1 h2 h3;refine NK ⟨34,x++[34],by rw[hT];rfl,by decide,by decide,by decide⟩ fun D p hd hh hf=>?_
  rw[hT]at hh hf ⊢;have hq:=hh.quote h4;have fI:f p=34:=hh.left.left.head;have:=aK.mg (f:=f) (d:=D) (p:=p) fI hq.1;unfold Bh at this;rw[hq.2]at this;have hlen:p+(([34]:List Int)++x++[34]).length=p+(x.length+2):=by simp
  rw[hlen];exact this
 rw[if_neg k5]at h hT;by_cases k6:k=6
 ·rw[if_pos k6]at h hT;simp only[zbJ,beq_iff_eq,List.isEmpty_iff,decide_eq_true_eq]at h;obtain⟨⟨⟨⟨⟨⟨h1,h2⟩,h3⟩,_⟩,h4⟩,_⟩,h5⟩:=h;subst k6 h1 h2 h3
  cases ns with
  |nil=>simp at h4
  |cons n l =>
   rw[List.map_cons,QZ,List.map_map]at hT;rw[List.all_cons,zbJ]at h5;obtain⟨hn,hl⟩:=h5;unfold bK at hn;simp at hn;refine NK ⟨37,_,by rw[hT];rfl,by decide,by decide,by decide⟩ fun D p hd hh hf=>?_
   rw[hT]at hh hf ⊢;have h37:f p=37:=hh.head;have wN:f (p+1)=120:=hh.tail.head;have h1:Has f (p+2) (aL n.toNat):=hh.right.left;have h2:Has f (p+2+(aL n.toNat).length) ((l.map fun n:Int=>[46]++aL n.toNat).flatten):=hh.right.right;have hlen:p+([37,120]++(aL n.toNat++((l.map fun n:Int=>[46]++aL n.toNat).flatten))).length=p+2+(aL n.toNat).length+((l.map fun n:Int=>[46]++aL n.toNat).flatten).length:=by simp;omega
   have hf:vQ (f (p+([37,120]++(aL n.toNat++((l.map fun n:Int=>[46]++aL n.toNat).flatten))).length)):=hf;show aK f .elem D p (.ok _ (p+([37,120]++(aL n.toNat++((l.map fun n:Int=>[46]++aL n.toNat).flatten))).length))
   rw[hlen]at hf ⊢
   have hnx:bC 16 (f (p+2+(aL n.toNat).length))=false/\f (p+2+(aL n.toNat).length)≠45:=by
    cases l with
    |nil=>exact⟨(Ho hf).2.1,(Ho hf).2.2.1⟩
    |cons u l=>rw[h2.head];decide
   have nV:=(NI n hn.1 hn.2).at h1 hnx.1 (lim:=1114111) hn.2;have hd:=Xp (D:=D) l [n] _ hl h2 hf;exact .value h37 (by rw[wN];rfl) (.nums nV hnx.2 hd)
 rw[if_neg k6]at h hT;by_cases k7:k=7
 ·rw[if_pos k7]at h;simp only[zbJ,beq_iff_eq,List.isEmpty_iff,decide_eq_true_eq]at h;obtain⟨⟨⟨⟨⟨⟨h1,h2⟩,h3⟩,_⟩,h4⟩,h5⟩,h6⟩:=h;subst k7 h1 h2 h3
  match ns,h4 with
  |[a,b],_ =>
   simp only[List.all_cons,List.all_nil,Bool.and_true,zbJ]at h5;obtain⟨ha,hb⟩:=h5;unfold bK at ha hb;simp at ha hb h6;have hT:aI d (.mk 7 [] [a,b] 0 0 [])=[37,120]++(aL a.toNat++([45]++aL b.toNat)):=by rw[hT];simp[aO]
   refine NK ⟨37,_,by rw[hT];rfl,by decide,by decide,by decide⟩ fun D p hd hh hf=>?_
   rw[hT]at hh hf ⊢;have h37:f p=37:=hh.head;have wN:f (p+1)=120:=hh.tail.head;have h1:Has f (p+2) (aL a.toNat):=hh.right.left;have h45:f (p+2+(aL a.toNat).length)=45:=hh.right.right.head;have h2:Has f (p+2+(aL a.toNat).length+1) (aL b.toNat):=hh.right.right.right;have hlen:p+([37,120]++(aL a.toNat++([45]++aL b.toNat))).length=p+2+(aL a.toNat).length+1+(aL b.toNat).length:=by simp;omega
   rw[hlen]at hf ⊢;have n1:=(NI a ha.1 ha.2).at h1 (by rw[h45];decide) (lim:=1114111) ha.2;have n2:=(NI b hb.1 hb.2).at h2 (Ho hf).2.1 (lim:=1114111) hb.2;exact .value h37 (by rw[wN];rfl) (.span n1 h45 n2 (by omega))
 rw[if_neg k7]at h
 cases h
theorem Xr{f:Nat->Int}:∀ (d:Nat) (t:Tree),dK d t=true->Reads f d t
 |0,.mk k x ns lo hi kids,h=>by
  unfold dK at h;simp only[zbJ,List.isEmpty_iff]at h;obtain⟨h1,rfl⟩:=h;exact Xq 0 h1
 |d+1,.mk k x ns lo hi kids,h=>by
  unfold dK at h;simp only[zbJ,List.all_eq_true]at h;obtain⟨h1,h2⟩:=h;have ih:∀ t∈kids,Reads f d t:=fun t ht=>Xr d t (h2 t ht)
  by_cases k12:k=1\/k=2
  ·unfold oo at h1;rw[if_pos k12]at h1;simp only[zbJ,beq_iff_eq,List.isEmpty_iff,decide_eq_true_eq]at h1;obtain⟨⟨⟨⟨rfl,rfl⟩,rfl⟩,rfl⟩,h5⟩:=h1
   cases kids with
   |nil=>simp at h5
   |cons u l =>
    have iu:=ih u (by simp);have il:∀ t∈l,Reads f d t:=fun t ht=>ih t (by simp[ht])
    rcases k12 with rfl|rfl
    ·have hT:aI (d+1) (.mk 1 [] [] 0 0 (u::l))=iU d u++(l.map fun t=>[32,47,32]++iU d t).flatten:=by
      rw[aI,tL,if_pos rfl,List.map_cons,QZ,List.map_map];rfl
     have hH:∃ c l',aI (d+1) (.mk 1 [] [] 0 0 (u::l))=c::l'/\dB c=true:=by
      obtain⟨c,l',e,hc⟩:=iu.ah;exact⟨c,_,by rw[hT,e];rfl,hc⟩
     refine⟨fun D p hd hh hf=>?_,fun hk=>absurd rfl hk,fun hk=>absurd rfl hk,fun hk=>absurd rfl hk,hH,fun hk=>absurd rfl hk⟩;rw[hT]at hh hf ⊢;have h3:=hh.left;have h4:=hh.right;rw[zbG,<- Nat.add_assoc]at hf ⊢
     have qY:kK f (p+(iU d u).length):=by
      cases l with
      |nil=>exact .inl hf
      |cons v l=>exact .inr ⟨h4.head,h4.tail.head⟩
     have hc:=iu.c (by omega) h3 qY;have ht:=Xo (D:=D) (by omega) l [u] _ il h4 hf;rw[List.singleton_append,Xk 1 h5]at ht;exact .jS hc ht
    ·have hT:aI (d+1) (.mk 2 [] [] 0 0 (u::l))=iV d u++(l.map fun t=>[32]++iV d t).flatten:=by
      rw[aI,tL,if_neg (by decide),if_pos rfl,List.map_cons,QZ,List.map_map];rfl
     have hH:∃ c l',aI (d+1) (.mk 2 [] [] 0 0 (u::l))=c::l'/\dB c=true:=by
      obtain⟨c,l',e,hc⟩:=iu.rh;exact⟨c,_,by rw[hT,e];rfl,hc⟩
     refine zno rfl hH fun D p hd hh hf=>?_
     rw[hT]at hh hf ⊢;have h3:=hh.left;have h4:=hh.right;rw[zbG,<- Nat.add_assoc]at hf ⊢
     have qY:vQ (f (p+(iV d u).length)):=by
      cases l with
      |nil=>exact kK.Hl hf
      |cons v l=>exact .inl h4.head
     have hc:=iu.r (by omega) h3 qY;have ht:=Xn (D:=D) (by omega) l [u] _ il h4 hf;rw[List.singleton_append,Xk 2 h5]at ht;exact .jU hc ht
  ·by_cases k3:k=3
   ·unfold oo at h1;rw[if_neg k12,if_pos k3]at h1;simp only[zbJ,beq_iff_eq,List.isEmpty_iff,decide_eq_true_eq]at h1;obtain⟨⟨⟨rfl,rfl⟩,h4⟩,h5⟩:=h1;subst k3
    match kids,h4 with
    |[u],_ =>
     have iu:=ih u (by simp);by_cases g:lo=0/\hi=1
     ·have hT:aI (d+1) (.mk 3 [] [] lo hi [u])=[91]++aI d u++[93]:=by
       rw[aI,tL,if_neg (by decide),if_neg (by decide),if_pos rfl,if_pos g];simp
      obtain⟨rfl,rfl⟩:=g;refine Xl rfl ⟨91,_,by rw[hT];rfl,by decide⟩ fun D p hd hh hf=>?_
      rw[hT]at hh hf ⊢;have pY:f p=91:=hh.left.left.head;have hU:Has f (p+1) (aI d u):=hh.left.right
      have Xt:f (p+1+(aI d u).length)=93:=by
       have:=hh.right.head;rw[<- this]
       congr 1
       simp;omega
      have ha:=iu.A (D+1) (p+1) (by omega) hU (.inr (.inl Xt));have hs:bN f (p+1)=p+1:=Xj (BS iu.H hU);have:=aK.square (f:=f) (d:=D) (p:=p) pY (by omega) (by rw[hs];exact ha) Xt;have hlen:p+(([91]:List Int)++aI d u++[93]).length=p+1+(aI d u).length+1:=by simp;omega
      rw[hlen];exact .fE (Xg (by rw[pY];decide) (by omega)) this
     ·have hT:aI (d+1) (.mk 3 [] [] lo hi [u])=cB lo hi++sD d u:=by
       rw[aI,tL,if_neg (by decide),if_neg (by decide),if_pos rfl,if_neg g];simp[sD]
      have hcnt:∃ c l,cB lo hi=c::l/\dB c=true:=by
       unfold cB;by_cases g0:hi=0
       ·rw[if_pos g0];exact⟨48,[],rfl,by decide⟩
       ·rw[if_neg g0];unfold dN at h5;simp at h5;by_cases g1:0<lo
        ·rw[if_pos g1];have hn:=NJ lo (by omega) (by omega);have hp:=hn.pos
         cases e:fA lo.toNat with
         |nil=>rw[e]at hp;simp at hp
         |cons c l =>
          refine⟨c,_,rfl,?_⟩;have:=hn.dc (f:=fun i=>(fA lo.toNat).getD i (-1)) (p:=0) (fun i c hc=>by show (fA lo.toNat).getD (0+i) (-1)=c;rw[List.getD_eq_getElem?_getD,Nat.zero_add,hc];rfl);rw[e]at this;unfold dB;have h2:aS c=true:=this;rw[h2];simp
        ·rw[if_neg g1,if_neg (by omega)];exact⟨42,_,rfl,by decide⟩
      refine Xl rfl (by obtain⟨c,l,e,hc⟩:=hcnt;exact⟨c,_,by rw[hT,e];rfl,hc⟩) fun D p hd hh hf=>?_
      rw[hT]at hh hf ⊢;rw[zbG,<- Nat.add_assoc]at hf ⊢;have hE:=BS iu.eh hh.right;have hc:=qee h5 hh.left hE.2.1 hE.2.2;have he:=iu.e (D:=D) (by omega) hh.right hf;unfold dN at h5;simp at h5;exact .kQ hc he (by omega)
   ·have hk0:kids=[]:=by
     unfold oo at h1;rw[if_neg k12,if_neg k3]at h1;by_cases k4:k=4
     ·rw[if_pos k4]at h1;simp only[zbJ,decide_eq_true_eq]at h1;exact List.length_eq_zero_iff.1 h1.1.2
     rw[if_neg k4]at h1;by_cases k5:k=5
     ·rw[if_pos k5]at h1;simp only[zbJ,decide_eq_true_eq]at h1;exact List.length_eq_zero_iff.1 h1.1.2
     rw[if_neg k5]at h1;by_cases k6:k=6
     ·rw[if_pos k6]at h1;simp only[zbJ,decide_eq_true_eq]at h1;exact List.length_eq_zero_iff.1 h1.1.1.1.2
     rw[if_neg k6]at h1;by_cases k7:k=7
     ·rw[if_pos k7]at h1;simp only[zbJ,decide_eq_true_eq]at h1;exact List.length_eq_zero_iff.1 h1.1.1.1.2
     rw[if_neg k7]at h1
     cases h1
    subst hk0;exact Xq (d+1) h1
theorem zua{f:Nat->Int}{p:Nat}{r:Rule}(hn:mF r.name=true)(hr:dK 50 r.expr=true)(h:Has f p (dZ r))(hb:aZ (f (p+(dZ r).length))=false):bU f p (.ok r (p+(dZ r).length)):=by
 obtain⟨x,m,t⟩:=r;have R:=Xr (f:=f) 50 t hr
 cases m with
 |true =>
  have e:dZ ⟨x,true,t⟩=x++([32,61,47,32]++(aI 50 t++[10])):=by unfold dZ;simp
  rw[e]at h hb ⊢;have hx:=h.left;have h1:=h.right;have hq:f (p+x.length)=32:=h1.head;have nK:f (p+x.length+1)=61:=h1.tail.head;have h47:f (p+x.length+2)=47:=h1.tail.tail.head;have h32:f (p+x.length+3)=32:=h1.tail.tail.tail.head;have ht:Has f (p+x.length+4) (aI 50 t):=h1.right.left;have h10:f (p+x.length+4+(aI 50 t).length)=10:=h1.right.right.head;have hlen:p+(x++([32,61,47,32]++(aI 50 t++[10]))).length=p+x.length+4+(aI 50 t).length+1:=by simp;omega
  rw[hlen]at hb ⊢;have hname:=hx.name hn (by rw[hq];decide);have EL:bN f (p+x.length)=p+x.length+1:=EK hq (.inr (.inr nK));have heq:iB f (p+x.length)=p+x.length+3:=by unfold iB;rw[EL,if_pos h47]
  have Q8:bN f (p+x.length+3)=p+x.length+4:=EK h32 (.inl (BS R.H ht));have ha:=R.A 0 _ (by omega) ht (.inr (.inr ⟨h10,hb⟩));have:=bU.ok (f:=f) hname (by rw[EL];exact nK) (by rw[heq,Q8];exact ha) (QY h10);rw[EL,show decide (f (p+x.length+1+1)=47)=true from zbN h47]at this;exact this
 |false =>
  have e:dZ ⟨x,false,t⟩=x++([32,61,32]++(aI 50 t++[10])):=by unfold dZ;simp
  rw[e]at h hb ⊢;have hx:=h.left;have h1:=h.right;have hq:f (p+x.length)=32:=h1.head;have nK:f (p+x.length+1)=61:=h1.tail.head;have h32:f (p+x.length+2)=32:=h1.tail.tail.head;have ht:Has f (p+x.length+3) (aI 50 t):=h1.right.left;have h10:f (p+x.length+3+(aI 50 t).length)=10:=h1.right.right.head;have hlen:p+(x++([32,61,32]++(aI 50 t++[10]))).length=p+x.length+3+(aI 50 t).length+1:=by simp;omega
  rw[hlen]at hb ⊢;have hname:=hx.name hn (by rw[hq];decide);have EL:bN f (p+x.length)=p+x.length+1:=EK hq (.inr (.inr nK));have heq:iB f (p+x.length)=p+x.length+2:=by unfold iB;rw[EL,if_neg (by rw[h32];decide)]
  have Q8:bN f (p+x.length+2)=p+x.length+3:=EK h32 (.inl (BS R.H ht));have ha:=R.A 0 _ (by omega) ht (.inr (.inr ⟨h10,hb⟩));have:=bU.ok (f:=f) hname (by rw[EL];exact nK) (by rw[heq,Q8];exact ha) (QY h10);rw[EL,show decide (f (p+x.length+1+1)=47)=false from zbM (by rw[h32];decide)]at this;exact this
theorem Xu{f:Nat->Int}:∀ (l acc:List Rule) (p:Nat),G7 l=true->acc.length+l.length<=500->Has f p ((l.map dZ).flatten)->f (p+((l.map dZ).flatten).length)<0->Rules f acc p (.ok (acc++l) (p+((l.map dZ).flatten).length))
 |[],acc,p,_,_,_,hf=>by
  rw[List.append_nil];exact .done hf
 |r::l,acc,p,hl,hc,hx,hf=>by
  unfold G7 at hl;rw[List.all_cons,zbJ,zbJ]at hl;obtain⟨⟨hn,hr⟩,hl⟩:=hl;rw[List.map_cons,List.flatten_cons]at hx hf ⊢;rw[zbG,<- Nat.add_assoc]at hf ⊢;have h1:=hx.left;have h2:=hx.right;obtain⟨_,_,c,x',hname,hal⟩:=Hf hn
  have Q9:aH (f p)=true:=by
   have:Has f p r.name:=by unfold dZ at h1;exact h1.left.left.left
   rw[hname]at this;rw[this.head];exact hal
  have hb:aZ (f (p+(dZ r).length))=false:=by
   cases l with
   |nil =>
    have:f (p+(dZ r).length)<0:=hf;unfold aZ;simp;omega
   |cons u l =>
    rw[List.all_cons,zbJ,zbJ]at hl;obtain⟨_,_,c,x',hname,hal⟩:=Hf hl.1.1;rw[List.map_cons,List.flatten_cons]at h2;have:Has f (p+(dZ r).length) u.name:=by have:=h2.left;unfold dZ at this;exact this.left.left.left
    rw[hname]at this;rw[this.head];unfold aH at hal;unfold aZ;simp at hal ⊢;omega
  have JU:=zua hn hr h1 hb;have ih:=Xu l (acc++[r]) _ hl (by simp at hc ⊢;omega) h2 hf;rw[List.append_assoc,List.singleton_append]at ih;exact .rule Q9 JU (by simp at hc;omega) ih
end Go.Proofs.YtahibnnhjahmnaaGreatDoor
