/- Part 43 of what the laws of the grammar rest on. -/
import Derived.Test.YtahibnnhjahmnaaGreatDoorA42
import Derived.ProofKit
import Derived.OpenShut
import Derived.Test.YtahibnnhjahmnaaGreatDoorCards
import Derived.Test.YtahibnnhjahmnaaGreatDoorTie
import Derived.LaidMore
import Derived.Lay
import Derived.Carry
import Derived.ChangeSlices
import Derived.ChangeMaps5
import Derived.SevenTiedAt
import Derived.Stop.Joined
import Derived.LaidSub
import Derived.Lib.LaidTab
set_option linter.all false
set_option maxRecDepth 100000
set_option maxHeartbeats 8000000
namespace Go.Proofs.YtahibnnhjahmnaaGreatDoor
open Go.RowKit
def PU(l:List Rule):Prop:=∀ r∈l,okF 60 r.expr=true/\bJ r.name
theorem jD.Gw{W:World}{base:Nat}{v:Value}{l:List Rule}(h:jD W base v l)(hok:PU l):∃ ys,dz W v ys l:=by
 obtain⟨ys,h1,h2,h3⟩:=h;refine⟨ys,zH h2,h1,fun i y r hy hr=>?_⟩;obtain⟨g1,g2,g3⟩:=h3 i y r hy hr;obtain⟨o1,o2⟩:=hok r (zbI hr);exact⟨g1,o2.1,o2.2,g2,(g3.Ta 60 o1).any⟩
theorem zvg{w:World}{S:ByteArray}{X:List Int}{l:List Rule}(hS:S=ak X)(aD:∀ r,uN (ak X) r->∃ q,r=.ok l q)(hsz:X.length<=1000000)(hok:PU l) :
  Calls Tryz.prog 15 #[.string S] w (fun e w'=>∃ v ys,e=.returned (.tuple #[v,.int .i64 0])/\dz w' v ys l/\Below w.heap.size w w'):=by
 subst hS;refine(zz6 (ak X) w (by rw[eP];unfold maxLen;omega)).mono ?_;rintro e w' ⟨r,ha,hb,h⟩;obtain⟨q,rfl⟩:=aD r ha;obtain⟨v,rfl,hl⟩:=h;obtain⟨ys,hys⟩:=hl.Gw hok;exact⟨v,ys,rfl,hys,hb⟩
theorem zz7:∀ n,n<11->(okF 60 (Bb n).expr&&(Bb n).name.all (fun c=>decide (0<=c)&&decide (c<=255))&&decide ((Bb n).name.length<=1000))=true:=by decide +kernel
theorem zz8(p:List Nat):PU (xP p):=by
 intro r hr;unfold xP at hr;obtain⟨n,hn,rfl⟩:=List.mem_map.1 hr;have h2:=zz7 (n%11) (Nat.mod_lt _ (by omega));simp only[zbJ,List.all_eq_true,decide_eq_true_eq]at h2;exact⟨h2.1.1,h2.1.2,by omega⟩
theorem qc2:∀ r∈fJ,r.expr.tw<=20:=by
 intro r h;unfold fJ at h;simp only[List.mem_cons,List.not_mem_nil,or_false]at h;rcases h with rfl|rfl|rfl|rfl|rfl|rfl|rfl|rfl|rfl|rfl|rfl|rfl|rfl|rfl|rfl|rfl<;>simp[jh,rP,jK,dH,mX,bZ,Tree.tw,Am,Ap,iQ,iT,tO,Aq,Ao]
theorem qe2{g g':List GR}{x:List Int}(h:dO g x=some g'):lY g'+20*g.length<=lY g+20*g'.length:=by
 unfold dO at h
 cases hf:bI g x with
 |some i =>
  rw[hf]at h;have e:=zbB h;subst e;omega
 |none =>
  rw[hf]at h;simp only[]at h
  cases hc:bI fJ x with
  |none=>rw[hc]at h;cases h
  |some c =>
   rw[hc]at h;obtain⟨⟨r,h1,h2⟩,_⟩:=tN.1 hc;simp only[h1,Option.map_some]at h;have e:=zbB h;subst e;have:=qc2 r (zbI h1);rw[Zz,zbG];simp only[List.length_cons,List.length_nil];omega
theorem ztm:∀ {xs:List (List Int)} {g g':List GR},jw g xs=some g'->lY g'+20*g.length<=lY g+20*g'.length
 |[],g,g',h=>by
  have e:=zbB h;subst e;omega
 |x::xs,g,g',h=>by
  change (dO g x).bind (fun g'=>jw g' xs)=some g' at h
  cases hm:dO g x with
  |none=>rw[hm]at h;cases h
  |some g1 =>
   rw[hm]at h;have h1:=qe2 hm;have h2:=ztm (xs:=xs) (g:=g1) (g':=g') h;omega
theorem bW.bounds{n i:Nat}{g:List GR}{R:Option (List GR)}(h:bW n i g R):∀ g',R=some g'->g'.length+pF g'<=g.length+pF g/\lY g'+20*g.length<=lY g+20*g'.length:=by
 induction h with
 |done h =>
  intro g' e;have e:=zbB e;subst e;omega
 |fail=>intro g' e;cases e
 |step h1 h2 _ ih =>
  intro g' e;have a:=ih g' e;have b:=Jz h2;have c:=ztm h2;omega
theorem qR.small{l:List Rule}{g:List GR}{e:Int}(h:qR l g e)(ht:ko l<=9000):g.length<=9016/\(∀ r∈g,dep r.expr<=9000/\(bn r.expr).length<=1000000)/\(lZ g).length<=1000000:=by
 have zero:∀ g:List GR,g=[]->g.length<=9016/\(∀ r∈g,dep r.expr<=9000/\(bn r.expr).length<=1000000)/\(lZ g).length<=1000000:=fun g h=>by
  subst h;simp[lZ]
 rcases h with ⟨_,hg,_⟩|⟨_,⟨_,hg,_⟩|⟨g0,n,R,h1,h2,⟨_,hg,_⟩|⟨h3,_⟩⟩⟩
 ·exact zero g hg
 ·exact zero g hg
 ·exact zero g hg
 ·have hj:=TA h1;have h5:=Le l;obtain⟨t,hgt,_⟩:=h2.gives g h3;have hb:g.length+pF g<=g0.length+pF g0/\lY g+20*g0.length<=lY g0+20*g.length:=h2.bounds g h3;have hm:=TU g0;simp only[lY,List.map_nil,List.sum_nil,List.length_nil]at hj hb;have hgl:g.length<=9016:=by omega
  have hl0:g0.length<=g.length:=by rw[hgt,zbG];omega
  have sH:lY g<=9400:=by unfold lY;omega
  refine⟨hgl,fun r hr=>?_,?_⟩
  ·have h6:=h2.mem g h3 r hr;rcases h6 with h6|h6
   ·have h7:=ZB h6;have h8:=K5 r.expr.tw r.expr (zbA _);unfold lY at h7;omega
   ·obtain⟨i,hi⟩:=List.getElem?_of_mem h6;exact Tp i r hi
  ·have:∀ g:List GR,(lZ g).length<=lY g:=fun g=>by
    induction g with
    |nil=>simp[lZ]
    |cons u g ih =>
     have h8:=(K5 u.expr.tw u.expr (zbA _)).2;simp only[lZ,lY,List.map_cons,List.flatten_cons,zbG,List.sum_cons]at ih ⊢;omega
   have:=this g;omega
theorem qc3{w:World}{b:Nat}(h:w.heap[b]?=some (.cells #[.string ⟨#[97]⟩,.bool false,.int .i64 4,.string ⟨#[98]⟩,.slice none 0 0,.int .i64 0,.int .i64 0,.slice none 0 0] 31 (0,0))) :
  dz w (.slice (some ⟨b,0,none⟩) 1 1) [⟨⟨#[97]⟩,false,⟨4,⟨#[98]⟩,.slice none 0 0,0,0,.slice none 0 0⟩⟩] Mi:=by
 refine⟨.inr ⟨b,0,1,rfl,zbA _,by unfold maxLen;omega,(zbD.1 h).1,fun j u hj=>?_⟩,rfl,fun i y r hy hr=>?_⟩
 ·unfold World.cell?;simp only[h,Nat.zero_add];have e:∀ (l:List Value) (a:Array Value),l=a.toList->l[j]?=some u->(if (none:Option Nat).isSome=true then none else a[j]?)=some u:=fun l a h1 h2=>by subst h1;simpa using h2
  exact e _ _ rfl hj
 ·cases i with
  |zero =>
   simp[Mi]at hy hr;subst hy hr;refine⟨rfl,by simp,by simp,rfl,?_⟩;exact aM.mk (x:=[98]) (nums:=[]) (kids:=[]) [] (by simp) (by simp) (.inl ⟨rfl,_,_,rfl⟩) (.inl ⟨rfl,_,_,rfl⟩) rfl (fun i y t h=>by simp at h)
  |succ i=>simp at hy
theorem ztn{w:World}{b:Nat}{L:List (List Int)}{cs:Array Value}(h:w.heap[b]?=some (.cells cs 9 (0,0)))(hc:cs.toList=gy L)(hn:L.length<=1000000):au w (.slice (some ⟨b,0,none⟩) L.length L.length) L.length (gy L):=by
 refine .inr ⟨b,0,L.length,rfl,zbA _,by unfold maxLen;omega,(zbD.1 h).1,fun j u hj=>?_⟩;unfold World.cell?;simp only[h,Nat.zero_add];rw[<- hc]at hj;simpa using hj
theorem zz9{w:World}(hT:gJ w):Calls Tryz.prog 8 #[] w (gG true w):=by
 have HT:=hh9 hT
 have aD:∀ r,uN (ak CJ) r->∃ q,r=.ok xQ q:=fun r hr=>by
  rw[<- qbp]at hr;obtain⟨q,hq⟩:=zqg (p:=[0,2]) (by simp) hr;rw[U1]at hq;exact⟨q,hq⟩
 have hok:PU xQ:=by rw[<- U1];exact zz8 _
 have sH:ko xQ<=9000:=by
  have:=zqf [0,2];rw[U1]at this;simp at this;omega
 have Vo:ko Mi<=9000:=by simp[Mi,ko,bZ,Tree.tw]
 have HR:=hh9 (fun (S:ByteArray) (hS:S=ak CJ)=>zvg (w:=w) hS aD (by simp[CJ]) hok);clear hT aD hok;go_enter Tryz.func8,Tryz.ntmps8;go_wp2_with fail
 refine(HR.out _ (by kernel_rfl)).mono ?_;rintro e w1 ⟨v1,ys1,rfl,hl1,hb1⟩;have HB1:=hh9 hb1;have ES:=hh9 (TW hl1 (HT.out.below hb1) sH)
 obtain⟨a1,c1,hv1⟩:∃ a c,v1=.slice a 2 c:=by
  obtain⟨a,c,h,_⟩:=hl1.1.slice;exact⟨a,c,h⟩
 subst hv1;clear hb1 hl1;go_wp2_with fail
 refine ES.out.mono ?_;rintro e w2 ⟨v2,ys2,g2,er2,rfl,hJ2,hR2,hb2⟩;obtain⟨rfl,rfl⟩:=hJ2.one zqh;have HB2:=hh9 (aJ HB1.out hb2);have HR2:=hh9 hR2
 obtain⟨b,off,c2,hv2,hb0,hcs⟩:∃ b off c,v2=.slice (some ⟨b,off,none⟩) 2 c/\b<w2.heap.size/\∀ (j:Nat) (u:Value),(ys2.flatMap RV.cells)[j]?=some u->w2.cell? ⟨b,off+j,none⟩=some u:=by
  rcases hR2.1 with ⟨h0,_⟩|⟨b,off,cap,h1,_,_,h3,h4⟩
  ·cases h0
  ·exact⟨b,off,cap,h1,h3,h4⟩
 obtain⟨Y0,Y1,rfl⟩:∃ Y0 Y1,ys2=[Y0,Y1]:=by
  have h:=hR2.2.1
  match ys2,h with
  |[Y0,Y1],_=>exact⟨_,_,rfl⟩
 subst hv2;have rU:=hh9 hcs;have hn1:=(hR2.2.2 1 Y1 ⟨iQ,jK 48 57⟩ rfl rfl).1;have hE0:=(hR2.2.2 0 Y0 ⟨[97],jh [dH [120],bZ iQ]⟩ rfl rfl).2.2;obtain⟨⟨na,nn,nc,hns⟩,ka,kn,kc,hks⟩:=hE0.slices;obtain⟨nm0,⟨k,tx,nv,lo,hi,kv⟩⟩:=Y0;obtain⟨nm1,X1⟩:=Y1;simp only[]at hns hks hn1;subst hns hks;have hn1:nm1=⟨#[100,105,103,105,116]⟩:=hn1.trans (by kernel_rfl);subst hn1;have Ti:=hh9 hE0;clear hJ2 hR2 hb2 hcs hE0;have hb3:Below w2.heap.size w2 (w2.alloc (.cells #[.string ⟨#[97]⟩,.bool false,.int .i64 4,.string ⟨#[98]⟩,.slice none 0 0,.int .i64 0,.int .i64 0,.slice none 0 0] 31)):=(zbE _ _).alloc (zbA _) _;have HB3:=hh9 (aJ HB2.out hb3);have Rq:=hh9 (TW (qc3 (zbO w2 _)) (HT.out.below HB3.out) Vo);have Vp:=hh9 hb3;clear hb3;go_wp2_with fail
 refine Rq.out.mono ?_;rintro e w4 ⟨v4,ys4,g4,er4,rfl,DJ,hR4,hb4⟩;obtain⟨rfl,rfl⟩:=DJ.one zva;have eB:=hh9 (aJ HB3.out hb4);have Gx:=hh9 (aJ Vp.out hb4);have HR4:=hh9 (HR2.out.below Gx.out)
 obtain⟨a4,c4,hv4⟩:∃ a c,v4=.slice a 0 c:=by
  obtain⟨a,c,h,_⟩:=hR4.1.slice;exact⟨a,c,h⟩
 subst hv4;have c7:w4.cell? ⟨b,off+7,none⟩=some (.string ⟨#[100,105,103,105,116]⟩):=(Gx.out.cell (p:=⟨b,off+7,none⟩) hb0).trans (rU.out 7 _ rfl);have hdig:bJ iQ:=by unfold bJ;decide
 have ha1:bJ [97]:=by unfold bJ;decide
 have ed:(⟨#[100,105,103,105,116]⟩:ByteArray)=ak iQ:=by kernel_rfl
 have ea:(⟨#[97]⟩:ByteArray)=ak [97]:=by kernel_rfl
 have HF:=hh9 (Zb HR4.out.rules hdig);rw[Dq zqi,<- ed]at HF;clear DJ hR4 hb4;go_wp2_with fail
 refine HF.out.mono ?_;rintro e w5 ⟨rfl,hb5⟩;have iR:=hh9 (aJ eB.out hb5);have MX:=hh9 (aJ Gx.out hb5);have hsmall:=zqh.small sH;have jq:=hh9 (zq8 (x:=[97]) (HR2.out.below MX.out) ha1 (by omega) hsmall.2.1 hsmall.2.2);rw[<- ea]at jq;clear hb5 hsmall;go_wp2_with fail
 refine jq.out.mono ?_;rintro e w6 ⟨v6,R6,rfl,hR6,Aa,_,hb6⟩;obtain rfl:=hR6.one zyp;have sJ:=hh9 (aJ iR.out hb6);have Vq:=hh9 (aJ MX.out hb6);have hba:Below w6.heap.size w6 (w6.alloc (.cells #[.string ⟨#[97]⟩,.string ⟨#[100,105,103,105,116]⟩] 9)):=(zbE _ _).alloc (zbA _) _;have Tg:=hh9 (OB (w:=w6.alloc (.cells #[.string ⟨#[97]⟩,.string ⟨#[100,105,103,105,116]⟩] 9)) (L:=[[97],iQ]) ((zH Aa).below hba) (ztn (zbO w6 _) (by kernel_rfl) (by simp)));have ow:=hh9 hba;obtain⟨a6,c6,hv6⟩:∃ a c,v6=.slice a 2 c:=qG Aa
 subst hv6;clear hR6 Aa hb6 hba;go_wp2_with fail
 refine Tg.out.mono ?_;rintro e w7 ⟨rfl,IB⟩;have Ea:=hh9 (aJ (aJ sJ.out ow.out) IB);have MZ:=hh9 (aJ (aJ Vq.out ow.out) IB);have gq:=hh9 (fun (j:Nat) (u:Value) (hj:([(⟨nm0,⟨k,tx,.slice na nn nc,lo,hi,.slice ka kn kc⟩⟩:RV),⟨⟨#[100,105,103,105,116]⟩,X1⟩].flatMap RV.cells)[j]?=some u)=>(MZ.out.cell (p:=⟨b,off+j,none⟩) hb0).trans (rU.out j u hj));have e1:=gq.out 1 _ rfl;have e2:=gq.out 2 _ rfl;have e3:=gq.out 3 _ rfl;have e4:=gq.out 4 _ rfl;have e5:=gq.out 5 _ rfl;have e6:=gq.out 6 _ rfl;have LJ:=Ti.out.kept (M:=fun _=>False) (P':=fun _=>True) (zap.below MZ.out) (fun b _ _=>⟨id,trivial⟩);have hdn:=K5 (jh [dH [120],bZ iQ]).tw _ (zbA _);have Vr:(jh [dH [120],bZ iQ]).tw<=100:=by simp[jh,dH,bZ,Tree.tw,iQ]
 have iM:=hh9 (XM LJ (by omega) (by omega));rw[U0]at iM;unfold XV.val at iM;simp only[]at iM;clear IB LJ hdn Vr;go_wp2_with fail
 refine iM.out.mono ?_;rintro e w8 ⟨v8,rfl,Ab,LK⟩;have Uo:=hh9 (aJ Ea.out LK);have Gy:Below w8.heap.size w8 (w8.alloc (.cells #[.string ⟨#[100,105,103,105,116]⟩] 9)):=(zbE _ _).alloc (zbA _) _;have HS2:=hh9 (OB (w:=w8.alloc (.cells #[.string ⟨#[100,105,103,105,116]⟩] 9)) (L:=[iQ]) ((zH Ab).below Gy) (ztn (zbO w8 _) (by kernel_rfl) (by simp)));have Vs:=hh9 Gy;obtain⟨a8,c8,hv8⟩:∃ a c,v8=.slice a 1 c:=qG Ab
 subst hv8;clear Ab LK Gy;go_wp2_with fail
 refine HS2.out.mono ?_;rintro e w9 ⟨rfl,IW⟩;have HB9:=hh9 (aJ (aJ Uo.out Vs.out) IW);clear IW;go_wp2_with fail
 go_ret;exact⟨rfl,HB9.out⟩
end Go.Proofs.YtahibnnhjahmnaaGreatDoor
namespace Go.Proofs.YtahibnnhjahmnaaGreatDoor
open Go.ChangeShapes Go.WideShapes Go.ChangeAt Go.RowKit
theorem qfe:ownKnob Tryz.prog.godebug=none:=by kernel_rfl
section
variable {H:Type} {enc:TypeId × Value → H}
end
theorem zto:laidOutB Tryz.prog=true:=by kernel_rfl
theorem cellsByte:Tryz.prog.cellsOf 5=1:=by kernel_rfl
theorem zqn{x:Int}(h:(Lit.int .u8 x).wf=true):0<=x/\x<=255:=by simpa[Lit.wf,IntKind.min,IntKind.max,IntKind.signed,IntKind.bits]using h
def M0(W:World)(v:Value)(zs:List Int):Prop :=
 ∃ a cap,v=.slice a zs.length cap/\zs.length<=cap/\zs.length<=maxLen/\(∀ z∈zs,0<=z/\z<=255) /\
  (0<zs.length->∃ b off,a=some ⟨b,off,none⟩/\b<W.heap.size/\∀ (i:Nat) (z:Int),zs[i]?=some z->W.cell? ⟨b,off+i,none⟩=some (.int .u8 z))
theorem M0.below{W W':World}{v:Value}{zs:List Int}(h:M0 W v zs)(hb:Below W.heap.size W W'):M0 W' v zs:=by
 obtain⟨a,cap,h1,h2,h3,h4,h5⟩:=h;refine⟨a,cap,h1,h2,h3,h4,fun hn=>?_⟩;obtain⟨b,off,ha,hlt,hc⟩:=h5 hn;exact⟨b,off,ha,Nat.lt_of_lt_of_le hlt hb.size,fun i z hz=>(hb.cell (p:=⟨b,off+i,none⟩) hlt).trans (hc i z hz)⟩
def zza:List Int:=[0,1,56,2,57,49,28,3,61,58,42,50,38,29,17,4,62,47,59,36,45,43,51,22,53,39,33,30,24,18,12,5,63,55,48,27,60,41,37,16,46,35,44,21,52,32,23,11,54,26,40,15,34,20,31,10,25,14,19,9,13,8,7,6]
theorem zqo{l:List (String × DataW Unit)}{W:World}(h:laidMetH Tryz.prog l W)(hp:laidMetH Tryz.prog l W=laidMet Tryz.prog l W)
  (e1 : l.filter (fun x => x.1 == "math/bits.deBruijn64tab") = [("math/bits.deBruijn64tab", Lib.tabData .u8 zza)])
  (e2 : l.filter (fun x => x.1 == "internal/strconv.uint64pow10") = [("internal/strconv.uint64pow10", Lib.tabData .u64 Lib.pow10Tab)]) : gJ W := by
 rw [hp] at h;have h1 := laidMet.filter (fun x => x.1 == "math/bits.deBruijn64tab") h
 have h2 := laidMet.filter (fun x => x.1 == "internal/strconv.uint64pow10") h
 rw[e1]at h1;rw[e2]at h2;have t1:=Lib.tabIs_of_head (g:=6) (t:=198) (e:=5) (n:=64) (by kernel_rfl) (by kernel_rfl) Tryz.underlying198 Tryz.underlying5 (by kernel_rfl) (by kernel_rfl) h1;have t2:=Lib.tabIs_of_head (g:=2) (t:=177) (e:=165) (n:=20) (by kernel_rfl) (by kernel_rfl) Tryz.underlying177 Tryz.underlying165 (by kernel_rfl) (by kernel_rfl) h2;exact⟨Lib.TabIs.cell t1 (by kernel_rfl) 15 (by decide),t2⟩
section
variable {H:Type} {enc:TypeId × Value → H}
theorem zvh{W:World}{base:Nat}{v:Value}{d:DataW H}{p:List MemPlace}(hval:Value.okWide Tryz.prog W .any base 22 v)(h:DataW.Trod enc Tryz.prog W 0 (fun _=>true) true 22 v d p) :
  ∃ zs,M0 W v zs:=by
 obtain⟨a0,len,cap,rfl⟩:=okWide_slice Tryz.underlying22 hval;obtain⟨fuel,hf⟩:=h;rcases open_ints Tryz.underlying22 Tryz.underlying5 cellsByte hf with ⟨hcs,hx⟩|⟨a,len',cap',zs,hcs,_,hl,hm,hz,hx,hc,hw⟩
 ·simp[Value.cells]at hcs;obtain⟨rfl,rfl,rfl⟩:=hcs;exact⟨[],none,0,rfl,zbA _,Nat.zero_le _,fun z hz=>by simp at hz,fun h=>by simp at h⟩
 ·simp[Value.cells]at hcs;obtain⟨rfl,rfl,rfl⟩:=hcs;simp only[if_true]at hz

  have hlen:(zs.take len).length=len:=by rw[List.length_take];omega
  refine⟨zs.take len,some a,cap,by rw[hlen],by omega,zbH (by omega:(zs.take len).length<=cap) hm,fun z hz=>zqn (hw z (List.mem_of_mem_take hz)),fun hn=>?_⟩;obtain⟨b,off,spot⟩:=a;have h0:=hc 0 (by omega);have hspot:spot=none:=by simpa[Addr.add]using World.cell?_spot h0
  subst hspot
  have hlt:b<W.heap.size:=by
   have:=World.block_lt_of_cell? W _ h0;simpa[Addr.add]using this
  refine⟨b,off,rfl,hlt,fun i z hzi=>?_⟩
  have hi:i<len:=by
   have:=(zbF.1 hzi).1;omega
  have hci:=hc i (by omega);rw[List.getElem?_take_of_lt hi]at hzi;have e:(⟨b,off,none⟩:Addr).add i=⟨b,off+i,none⟩:=by cases i<;>simp[Addr.add]
  rw[e,List.getD_eq_getElem?_getD,hzi]at hci;exact hci
theorem zrv{P:Program}{f:Func}{s:ChangeSpec}{fresh handsOn:Bool}{W W':World}{args:Array Value}{v:Value}{ds gs:List (DataW H)}{before pa pv:List MemPlace}
  (hW:DataW.Whole enc P f.params.toList s.vars false W args.toList ds gs before)
  (hres:∀ (b:Nat) (sp:Nat->Bool) (hd:Bool),DataW.TrodAll enc P W' b sp hd f.resultTypes.toList (v.resultList f.resultTypes.size) (s.fn H (ds++gs)).results [])
  (hargs:DataW.TrodAll enc P W' 0 (fun b=>decide (b<W.heap.size)) true f.params.toList args.toList (s.fn H (ds++gs)).args pa)
  (hvars:∀ sp:Nat->Bool,DataW.TrodVars enc P W' sp s.vars (s.fn H (ds++gs)).vars pv)
  (hps:before=pa++pv) (hb:Below W.heap.size W W') :
  s.post enc P f false fresh handsOn false W args v W':=by
 refine⟨ds,gs,before,[],pa,pv,hW,hres _ _ _,hargs,hvars _,World.keptBut_mono (fun p hp=>⟨hp,?_⟩) (hb.frame _),fun h=>by cases h⟩;rw[hps,List.mem_append]at hp;exact Or.inr hp
end
end Go.Proofs.YtahibnnhjahmnaaGreatDoor
