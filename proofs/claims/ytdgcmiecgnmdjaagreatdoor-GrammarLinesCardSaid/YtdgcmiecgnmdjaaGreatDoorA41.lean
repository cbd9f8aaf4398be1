/- Part 41 of what the laws of the grammar rest on. -/
import Derived.Test.YtdgcmiecgnmdjaaGreatDoorA0
import Derived.Test.YtdgcmiecgnmdjaaGreatDoorA20
import Derived.Test.YtdgcmiecgnmdjaaGreatDoorA29
import Derived.Test.YtdgcmiecgnmdjaaGreatDoorA33
import Derived.Test.YtdgcmiecgnmdjaaGreatDoorA40
import Derived.Test.YtdgcmiecgnmdjaaGreatDoorRows
import Derived.ProofKit
import Derived.OpenShut
import Derived.Test.YtdgcmiecgnmdjaaGreatDoorCards
import Derived.Test.YtdgcmiecgnmdjaaGreatDoorTie
import Derived.LaidMore
import Derived.Lay
import Derived.Carry
import Derived.ChangeSlices
import Derived.ChangeMaps5
import Derived.SevenTiedAt
import Derived.Stop.Joined
import Derived.LaidSub
import Derived.Lib.LaidTab
set_option linter.all false
set_option maxRecDepth 100000
set_option maxHeartbeats 8000000
namespace Go.Proofs.YtdgcmiecgnmdjaaGreatDoor
open Go.RowKit
def OkR (l:List Rule):Prop:=∀ r∈l,okF 60 r.expr=true/\zar r.name
theorem zb4.linesE {W:World} {base:Nat} {v:Value} {l:List Rule} (h:zb4 W base v l) (hok:OkR l):∃ ys,LinesE W v ys l:=by
 obtain ⟨ys,h1,h2,h3⟩:=h
 refine ⟨ys,zcr h2,h1,fun i y r hy hr=>?_⟩
 obtain ⟨g1,g2,g3⟩:=h3 i y r hy hr
 obtain ⟨o1,o2⟩:=hok r (List.mem_of_getElem? hr)
 exact ⟨g1,o2.1,o2.2,g2,(g3.etp 60 o1).any⟩
theorem zmf {w:World} {S:ByteArray} {X:List Int} {l:List Rule} (hS:S=za3 X) (hans:∀ r,zen (za3 X) r->∃ q,r=.ok l q) (hsz:X.length<=1000000) (hok:OkR l) :
  Calls Tryz.prog 26 #[.string S] w (fun e w'=>∃ v ys,e=.returned (.tuple #[v,.int .i64 0])/\LinesE w' v ys l/\Below w.heap.size w w'):=by
 subst hS
 refine (zxm (za3 X) w (by rw [zab];unfold maxLen;omega)).mono ?_
 rintro e w' ⟨r,ha,hb,h⟩
 obtain ⟨q,rfl⟩:=hans r ha
 obtain ⟨v,rfl,hl⟩:=h
 obtain ⟨ys,hys⟩:=hl.linesE hok
 exact ⟨v,ys,rfl,hys,hb⟩
theorem zxn:∀ n,n<11->(okF 60 (zl6 n).expr&&(zl6 n).name.all (fun c=>decide (0<=c)&&decide (c<=255))&&decide ((zl6 n).name.length<=1000))=true:=by decide +kernel
theorem zpk (p:List Nat):OkR (zeq p):=by
 intro r hr
 unfold zeq at hr
 obtain ⟨n,hn,rfl⟩:=List.mem_map.1 hr
 have h2:=zxn (n%11) (Nat.mod_lt _ (by omega))
 simp only [Bool.and_eq_true,List.all_eq_true,decide_eq_true_eq] at h2
 exact ⟨h2.1.1,h2.1.2,by omega⟩
theorem qad:∀ r∈zbs,r.expr.tw<=20:=by
 intro r h
 unfold zbs at h
 simp only [List.mem_cons,List.not_mem_nil,or_false] at h
 rcases h with rfl | rfl | rfl | rfl | rfl | rfl | rfl | rfl | rfl | rfl | rfl | rfl | rfl | rfl | rfl | rfl<;>simp [alT,seT,spT,foT,nuT,rfT,Tree.tw,nCr,nLf,zbb,nWsp,zgn,nSp,zl3]
theorem qce {g g':List GR} {x:List Int} (h:addM g x=some g'):tws g'+20*g.length<=tws g+20*g'.length:=by
 unfold addM at h
 cases hf:zay g x with
 | some i =>
  rw [hf] at h
  have e:=Option.some.inj h
  subst e
  omega
 | none =>
  rw [hf] at h
  simp only [] at h
  cases hc:zay zbs x with
  | none=>rw [hc] at h;cases h
  | some c =>
   rw [hc] at h
   obtain ⟨⟨r,h1,h2⟩,_⟩:=zbv.1 hc
   simp only [h1,Option.map_some] at h
   have e:=Option.some.inj h
   subst e
   have:=qad r (List.mem_of_getElem? h1)
   rw [zrr,List.length_append]
   simp only [List.length_cons,List.length_nil]
   omega
theorem zsf:∀ {xs:List (List Int)} {g g':List GR},zbn g xs=some g'->tws g'+20*g.length<=tws g+20*g'.length
 | [],g,g',h=>by
  have e:=Option.some.inj h
  subst e
  omega
 | x::xs,g,g',h=>by
  change (addM g x).bind (fun g'=>zbn g' xs)=some g' at h
  cases hm:addM g x with
  | none=>rw [hm] at h;cases h
  | some g1 =>
   rw [hm] at h
   have h1:=qce hm
   have h2:=zsf (xs:=xs) (g:=g1) (g':=g') h
   omega
theorem Compl.bounds {n i:Nat} {g:List GR} {R:Option (List GR)} (h:Compl n i g R):∀ g',R=some g'->g'.length+zcd g'<=g.length+zcd g/\tws g'+20*g.length<=tws g+20*g'.length:=by
 induction h with
 | done h =>
  intro g' e
  have e:=Option.some.inj e
  subst e
  omega
 | fail=>intro g' e;cases e
 | step h1 h2 _ ih =>
  intro g' e
  have a:=ih g' e
  have b:=zdv h2
  have c:=zsf h2
  omega
theorem zcl.small {l:List Rule} {g:List GR} {e:Int} (h:zcl l g e) (ht:twl l<=9000):g.length<=9016/\(∀ r∈g,dep r.expr<=9000/\(zai r.expr).length<=1000000)/\(zbo g).length<=1000000:=by
 have zero:∀ g:List GR,g=[]->g.length<=9016/\(∀ r∈g,dep r.expr<=9000/\(zai r.expr).length<=1000000)/\(zbo g).length<=1000000:=fun g h=>by
  subst h
  simp [zbo]
 rcases h with ⟨_,hg,_⟩ | ⟨_,⟨_,hg,_⟩ | ⟨g0,n,R,h1,h2,⟨_,hg,_⟩ | ⟨h3,_⟩⟩⟩
 ·exact zero g hg
 ·exact zero g hg
 ·exact zero g hg
 ·have hj:=zki h1
  have h5:=zkk l
  obtain ⟨t,hgt,_⟩:=h2.gives g h3
  have hb:g.length+zcd g<=g0.length+zcd g0/\tws g+20*g0.length<=tws g0+20*g.length:=h2.bounds g h3
  have hm:=zic g0
  simp only [tws,List.map_nil,List.sum_nil,List.length_nil] at hj hb
  have hgl:g.length<=9016:=by omega
  have hl0:g0.length<=g.length:=by rw [hgt,List.length_append];omega
  have htw:tws g<=9400:=by unfold tws;omega
  refine ⟨hgl,fun r hr=>?_,?_⟩
  ·have h6:=h2.mem g h3 r hr
   rcases h6 with h6 | h6
   ·have h7:=zwf h6
    have h8:=zrs r.expr.tw r.expr (Nat.le_refl _)
    unfold tws at h7
    omega
   ·obtain ⟨i,hi⟩:=List.getElem?_of_mem h6
    exact zi8 i r hi
  ·have:∀ g:List GR,(zbo g).length<=tws g:=fun g=>by
    induction g with
    | nil=>simp [zbo]
    | cons u g ih =>
     have h8:=(zrs u.expr.tw u.expr (Nat.le_refl _)).2
     simp only [zbo,tws,List.map_cons,List.flatten_cons,List.length_append,List.sum_cons] at ih ⊢
     omega
   have:=this g
   omega
theorem qae {w:World} {b:Nat} (h:w.heap[b]?=some (.cells #[.string ⟨#[97]⟩,.bool false,.int .i64 4,.string ⟨#[98]⟩,.slice none 0 0,.int .i64 0,.int .i64 0,.slice none 0 0] 44 (0,0))) :
  LinesE w (.slice (some ⟨b,0,none⟩) 1 1) [⟨⟨#[97]⟩,false,⟨4,⟨#[98]⟩,.slice none 0 0,0,0,.slice none 0 0⟩⟩] zx4:=by
 refine ⟨.inr ⟨b,0,1,rfl,Nat.le_refl _,by unfold maxLen;omega,(Array.getElem?_eq_some_iff.1 h).1,fun j u hj=>?_⟩,rfl,fun i y r hy hr=>?_⟩
 ·unfold World.cell?
  simp only [h,Nat.zero_add]
  have e:∀ (l:List Value) (a:Array Value),l=a.toList->l[j]?=some u->(if (none:Option Nat).isSome=true then none else a[j]?)=some u:=fun l a h1 h2=>by subst h1;simpa using h2
  exact e _ _ rfl hj
 ·cases i with
  | zero =>
   simp [zx4] at hy hr
   subst hy hr
   refine ⟨rfl,by simp,by simp,rfl,?_⟩
   exact ETree.mk (x:=[98]) (nums:=[]) (kids:=[]) [] (by simp) (by simp) (.inl ⟨rfl,_,_,rfl⟩) (.inl ⟨rfl,_,_,rfl⟩) rfl (fun i y t h=>by simp at h)
  | succ i=>simp at hy
theorem zsg {w:World} {b:Nat} {L:List (List Int)} {cs:Array Value} (h:w.heap[b]?=some (.cells cs 9 (0,0))) (hc:cs.toList=zbk L) (hn:L.length<=1000000):RowAny w (.slice (some ⟨b,0,none⟩) L.length L.length) L.length (zbk L):=by
 refine .inr ⟨b,0,L.length,rfl,Nat.le_refl _,by unfold maxLen;omega,(Array.getElem?_eq_some_iff.1 h).1,fun j u hj=>?_⟩
 unfold World.cell?
 simp only [h,Nat.zero_add]
 rw [<- hc] at hj
 simpa using hj
theorem zxo {w:World} (hT:Tabs w):Calls Tryz.prog 11 #[] w (zal true w):=by
 have HT:=hh9 hT
 have hans:∀ r,zen (za3 awkT) r->∃ q,r=.ok awkL q:=fun r hr=>by
  rw [<- qa0] at hr
  obtain ⟨q,hq⟩:=zit (p:=[0,2]) (by simp) hr
  rw [zkv] at hq
  exact ⟨q,hq⟩
 have hok:OkR awkL:=by rw [<- zkv];exact zpk _
 have htw:twl awkL<=9000:=by
  have:=zkt [0,2]
  rw [zkv] at this
  simp at this
  omega
 have htw2:twl zx4<=9000:=by simp [zx4,twl,rfT,Tree.tw]
 have HR:=hh9 (fun (S:ByteArray) (hS:S=za3 awkT)=>zmf (w:=w) hS hans (by simp [awkT]) hok)
 clear hT hans hok
 go_enter Tryz.func11,Tryz.ntmps11
 go_wp2_with fail
 refine (HR.out _ (by kernel_rfl)).mono ?_
 rintro e w1 ⟨v1,ys1,rfl,hl1,hb1⟩
 have HB1:=hh9 hb1
 have HJ1:=hh9 (znb hl1 (HT.out.below hb1) htw)
 obtain ⟨a1,c1,hv1⟩:∃ a c,v1=.slice a 2 c:=by
  obtain ⟨a,c,h,_⟩:=hl1.1.slice
  exact ⟨a,c,h⟩
 subst hv1
 clear hb1 hl1
 go_wp2_with fail
 refine HJ1.out.mono ?_
 rintro e w2 ⟨v2,ys2,g2,er2,rfl,hJ2,hR2,hb2⟩
 obtain ⟨rfl,rfl⟩:=hJ2.one zpe
 have HB2:=hh9 (za0 HB1.out hb2)
 have HR2:=hh9 hR2
 obtain ⟨b,off,c2,hv2,hb0,hcs⟩:∃ b off c,v2=.slice (some ⟨b,off,none⟩) 2 c/\b<w2.heap.size/\∀ (j:Nat) (u:Value),(ys2.flatMap RV.cells)[j]?=some u->w2.cell? ⟨b,off+j,none⟩=some u:=by
  rcases hR2.1 with ⟨h0,_⟩ | ⟨b,off,cap,h1,_,_,h3,h4⟩
  ·cases h0
  ·exact ⟨b,off,cap,h1,h3,h4⟩
 obtain ⟨Y0,Y1,rfl⟩:∃ Y0 Y1,ys2=[Y0,Y1]:=by
  have h:=hR2.2.1
  match ys2,h with
  | [Y0,Y1],_=>exact ⟨_,_,rfl⟩
 subst hv2
 have HCS:=hh9 hcs
 have hn1:=(hR2.2.2 1 Y1 ⟨zbb,spT 48 57⟩ rfl rfl).1
 have hE0:=(hR2.2.2 0 Y0 ⟨[97],alT [foT [120],rfT zbb]⟩ rfl rfl).2.2
 obtain ⟨⟨na,nn,nc,hns⟩,ka,kn,kc,hks⟩:=hE0.slices
 obtain ⟨nm0,⟨k,tx,nv,lo,hi,kv⟩⟩:=Y0
 obtain ⟨nm1,X1⟩:=Y1
 simp only [] at hns hks hn1
 subst hns hks
 have hn1:nm1=⟨#[100,105,103,105,116]⟩:=hn1.trans (by kernel_rfl)
 subst hn1
 have HE0:=hh9 hE0
 clear hJ2 hR2 hb2 hcs hE0
 have hb3:Below w2.heap.size w2 (w2.alloc (.cells #[.string ⟨#[97]⟩,.bool false,.int .i64 4,.string ⟨#[98]⟩,.slice none 0 0,.int .i64 0,.int .i64 0,.slice none 0 0] 44)):=(Below.refl _ _).alloc (Nat.le_refl _) _
 have HB3:=hh9 (za0 HB2.out hb3)
 have HJ3:=hh9 (znb (qae (heap_alloc_new w2 _)) (HT.out.below HB3.out) htw2)
 have HB23:=hh9 hb3
 clear hb3
 go_wp2_with fail
 refine HJ3.out.mono ?_
 rintro e w4 ⟨v4,ys4,g4,er4,rfl,hJ4,hR4,hb4⟩
 obtain ⟨rfl,rfl⟩:=hJ4.one ztz
 have HB4:=hh9 (za0 HB3.out hb4)
 have HB24:=hh9 (za0 HB23.out hb4)
 have HR4:=hh9 (HR2.out.below HB24.out)
 obtain ⟨a4,c4,hv4⟩:∃ a c,v4=.slice a 0 c:=by
  obtain ⟨a,c,h,_⟩:=hR4.1.slice
  exact ⟨a,c,h⟩
 subst hv4
 have c7:w4.cell? ⟨b,off+7,none⟩=some (.string ⟨#[100,105,103,105,116]⟩):=(HB24.out.cell (p:=⟨b,off+7,none⟩) hb0).trans (HCS.out 7 _ rfl)
 have hdig:zar zbb:=by unfold zar;decide
 have ha1:zar [97]:=by unfold zar;decide
 have ed:(⟨#[100,105,103,105,116]⟩:ByteArray)=za3 zbb:=by kernel_rfl
 have ea:(⟨#[97]⟩:ByteArray)=za3 [97]:=by kernel_rfl
 have HF:=hh9 (zrq HR4.out.rules hdig)
 rw [zea zpf,<- ed] at HF
 clear hJ4 hR4 hb4
 go_wp2_with fail
 refine HF.out.mono ?_
 rintro e w5 ⟨rfl,hb5⟩
 have HB5:=hh9 (za0 HB4.out hb5)
 have HB25:=hh9 (za0 HB24.out hb5)
 have hsmall:=zpe.small htw
 have HRE:=hh9 (zwz (x:=[97]) (HR2.out.below HB25.out) ha1 (by omega) hsmall.2.1 hsmall.2.2)
 rw [<- ea] at HRE
 clear hb5 hsmall
 go_wp2_with fail
 refine HRE.out.mono ?_
 rintro e w6 ⟨v6,R6,rfl,hR6,hrow6,_,hb6⟩
 obtain rfl:=hR6.one zx5
 have HB6:=hh9 (za0 HB5.out hb6)
 have HB26:=hh9 (za0 HB25.out hb6)
 have hba:Below w6.heap.size w6 (w6.alloc (.cells #[.string ⟨#[97]⟩,.string ⟨#[100,105,103,105,116]⟩] 9)):=(Below.refl _ _).alloc (Nat.le_refl _) _
 have HS1:=hh9 (zol (w:=w6.alloc (.cells #[.string ⟨#[97]⟩,.string ⟨#[100,105,103,105,116]⟩] 9)) (L:=[[97],zbb]) ((zcr hrow6).below hba) (zsg (heap_alloc_new w6 _) (by kernel_rfl) (by simp)))
 have HBA:=hh9 hba
 obtain ⟨a6,c6,hv6⟩:∃ a c,v6=.slice a 2 c:=zbi hrow6
 subst hv6
 clear hR6 hrow6 hb6 hba
 go_wp2_with fail
 refine HS1.out.mono ?_
 rintro e w7 ⟨rfl,hb7⟩
 have HB7:=hh9 (za0 (za0 HB6.out HBA.out) hb7)
 have HB27:=hh9 (za0 (za0 HB26.out HBA.out) hb7)
 have HCW:=hh9 (fun (j:Nat) (u:Value) (hj:([(⟨nm0,⟨k,tx,.slice na nn nc,lo,hi,.slice ka kn kc⟩⟩:RV),⟨⟨#[100,105,103,105,116]⟩,X1⟩].flatMap RV.cells)[j]?=some u)=>(HB27.out.cell (p:=⟨b,off+j,none⟩) hb0).trans (HCS.out j u hj))
 have e1:=HCW.out 1 _ rfl
 have e2:=HCW.out 2 _ rfl
 have e3:=HCW.out 3 _ rfl
 have e4:=HCW.out 4 _ rfl
 have e5:=HCW.out 5 _ rfl
 have e6:=HCW.out 6 _ rfl
 have hE7:=HE0.out.kept (M:=fun _=>False) (P':=fun _=>True) (zap.below HB27.out) (fun b _ _=>⟨id,trivial⟩)
 have hdn:=zrs (alT [foT [120],rfT zbb]).tw _ (Nat.le_refl _)
 have htwa:(alT [foT [120],rfT zbb]).tw<=100:=by simp [alT,foT,rfT,Tree.tw,zbb]
 have HNM:=hh9 (qbd hE7 (by omega) (by omega))
 rw [zku] at HNM
 unfold XV.val at HNM
 simp only [] at HNM
 clear hb7 hE7 hdn htwa
 go_wp2_with fail
 refine HNM.out.mono ?_
 rintro e w8 ⟨v8,rfl,hrow8,hb8⟩
 have HB8:=hh9 (za0 HB7.out hb8)
 have hba8:Below w8.heap.size w8 (w8.alloc (.cells #[.string ⟨#[100,105,103,105,116]⟩] 9)):=(Below.refl _ _).alloc (Nat.le_refl _) _
 have HS2:=hh9 (zol (w:=w8.alloc (.cells #[.string ⟨#[100,105,103,105,116]⟩] 9)) (L:=[zbb]) ((zcr hrow8).below hba8) (zsg (heap_alloc_new w8 _) (by kernel_rfl) (by simp)))
 have HBA8:=hh9 hba8
 obtain ⟨a8,c8,hv8⟩:∃ a c,v8=.slice a 1 c:=zbi hrow8
 subst hv8
 clear hrow8 hb8 hba8
 go_wp2_with fail
 refine HS2.out.mono ?_
 rintro e w9 ⟨rfl,hb9⟩
 have HB9:=hh9 (za0 (za0 HB8.out HBA8.out) hb9)
 clear hb9
 go_wp2_with fail
 go_ret
 exact ⟨rfl,HB9.out⟩
end Go.Proofs.YtdgcmiecgnmdjaaGreatDoor
namespace Go.Proofs.YtdgcmiecgnmdjaaGreatDoor
open Go.ChangeShapes Go.WideShapes Go.ChangeAt Go.RowKit
theorem qdm:ownKnob Tryz.prog.godebug=none:=by kernel_rfl
section
variable {H:Type} {enc:TypeId × Value → H}
end
theorem qaf:laidOutB Tryz.prog=true:=by kernel_rfl
theorem cellsByte:Tryz.prog.cellsOf 5=1:=by kernel_rfl
theorem zxp {x:Int} (h:(Lit.int .u8 x).wf=true):0<=x/\x<=255:=by simpa [Lit.wf,IntKind.min,IntKind.max,IntKind.signed,IntKind.bits] using h
def zgz (W:World) (v:Value) (zs:List Int):Prop :=
 ∃ a cap,v=.slice a zs.length cap/\zs.length<=cap/\zs.length<=maxLen/\(∀ z∈zs,0<=z/\z<=255) /\
  (0<zs.length->∃ b off,a=some ⟨b,off,none⟩/\b<W.heap.size/\∀ (i:Nat) (z:Int),zs[i]?=some z->W.cell? ⟨b,off+i,none⟩=some (.int .u8 z))
theorem zgz.below {W W':World} {v:Value} {zs:List Int} (h:zgz W v zs) (hb:Below W.heap.size W W'):zgz W' v zs:=by
 obtain ⟨a,cap,h1,h2,h3,h4,h5⟩:=h
 refine ⟨a,cap,h1,h2,h3,h4,fun hn=>?_⟩
 obtain ⟨b,off,ha,hlt,hc⟩:=h5 hn
 exact ⟨b,off,ha,Nat.lt_of_lt_of_le hlt hb.size,fun i z hz=>(hb.cell (p:=⟨b,off+i,none⟩) hlt).trans (hc i z hz)⟩
def zxq:List Int:=[0,1,56,2,57,49,28,3,61,58,42,50,38,29,17,4,62,47,59,36,45,43,51,22,53,39,33,30,24,18,12,5,63,55,48,27,60,41,37,16,46,35,44,21,52,32,23,11,54,26,40,15,34,20,31,10,25,14,19,9,13,8,7,6]
theorem zpl {l:List (String × DataW Unit)} {W:World} (h:laidMetH Tryz.prog l W) (hp:laidMetH Tryz.prog l W=laidMet Tryz.prog l W)
  (e1 : l.filter (fun x => x.1 == "math/bits.deBruijn64tab") = [("math/bits.deBruijn64tab", Lib.tabData .u8 zxq)])
  (e2 : l.filter (fun x => x.1 == "internal/strconv.uint64pow10") = [("internal/strconv.uint64pow10", Lib.tabData .u64 Lib.pow10Tab)]) : Tabs W := by
 rw [hp] at h
 have h1 := laidMet.filter (fun x => x.1 == "math/bits.deBruijn64tab") h
 have h2 := laidMet.filter (fun x => x.1 == "internal/strconv.uint64pow10") h
 rw [e1] at h1
 rw [e2] at h2
 have t1:=Lib.tabIs_of_head (g:=6) (t:=206) (e:=5) (n:=64) (by kernel_rfl) (by kernel_rfl) Tryz.underlying206 Tryz.underlying5 (by kernel_rfl) (by kernel_rfl) h1
 have t2:=Lib.tabIs_of_head (g:=2) (t:=188) (e:=174) (n:=20) (by kernel_rfl) (by kernel_rfl) Tryz.underlying188 Tryz.underlying174 (by kernel_rfl) (by kernel_rfl) h2
 exact ⟨Lib.TabIs.cell t1 (by kernel_rfl) 15 (by decide),t2⟩
section
variable {H:Type} {enc:TypeId × Value → H}
theorem zu5 {W:World} {base:Nat} {v:Value} {d:DataW H} {p:List MemPlace} (hval:Value.okWide Tryz.prog W .any base 40 v) (h:DataW.Trod enc Tryz.prog W 0 (fun _=>true) true 40 v d p) :
  ∃ zs,zgz W v zs:=by
 obtain ⟨a0,len,cap,rfl⟩:=okWide_slice Tryz.underlying40 hval
 obtain ⟨fuel,hf⟩:=h
 rcases open_ints Tryz.underlying40 Tryz.underlying5 cellsByte hf with ⟨hcs,hx⟩ | ⟨a,len',cap',zs,hcs,_,hl,hm,hz,hx,hc,hw⟩
 ·simp [Value.cells] at hcs
  obtain ⟨rfl,rfl,rfl⟩:=hcs
  exact ⟨[],none,0,rfl,Nat.le_refl _,Nat.zero_le _,fun z hz=>by simp at hz,fun h=>by simp at h⟩
 ·simp [Value.cells] at hcs
  obtain ⟨rfl,rfl,rfl⟩:=hcs
  simp only [if_true] at hz

  have hlen:(zs.take len).length=len:=by rw [List.length_take];omega
  refine ⟨zs.take len,some a,cap,by rw [hlen],by omega,Nat.le_trans (by omega:(zs.take len).length<=cap) hm,fun z hz=>zxp (hw z (List.mem_of_mem_take hz)),fun hn=>?_⟩
  obtain ⟨b,off,spot⟩:=a
  have h0:=hc 0 (by omega)
  have hspot:spot=none:=by simpa [Addr.add] using World.cell?_spot h0
  subst hspot
  have hlt:b<W.heap.size:=by
   have:=World.block_lt_of_cell? W _ h0
   simpa [Addr.add] using this
  refine ⟨b,off,rfl,hlt,fun i z hzi=>?_⟩
  have hi:i<len:=by
   have:=(List.getElem?_eq_some_iff.1 hzi).1
   omega
  have hci:=hc i (by omega)
  rw [List.getElem?_take_of_lt hi] at hzi
  have e:(⟨b,off,none⟩:Addr).add i=⟨b,off+i,none⟩:=by cases i<;>simp [Addr.add]
  rw [e,List.getD_eq_getElem?_getD,hzi] at hci
  exact hci
theorem zqp {P:Program} {f:Func} {s:ChangeSpec} {fresh handsOn:Bool} {W W':World} {args:Array Value} {v:Value} {ds gs:List (DataW H)} {before pa pv:List MemPlace}
  (hW:DataW.Whole enc P f.params.toList s.vars false W args.toList ds gs before)
  (hres:∀ (b:Nat) (sp:Nat->Bool) (hd:Bool),DataW.TrodAll enc P W' b sp hd f.resultTypes.toList (v.resultList f.resultTypes.size) (s.fn H (ds++gs)).results [])
  (hargs:DataW.TrodAll enc P W' 0 (fun b=>decide (b<W.heap.size)) true f.params.toList args.toList (s.fn H (ds++gs)).args pa)
  (hvars:∀ sp:Nat->Bool,DataW.TrodVars enc P W' sp s.vars (s.fn H (ds++gs)).vars pv)
  (hps:before=pa++pv) (hb:Below W.heap.size W W') :
  s.post enc P f false fresh handsOn false W args v W':=by
 refine ⟨ds,gs,before,[],pa,pv,hW,hres _ _ _,hargs,hvars _,World.keptBut_mono (fun p hp=>⟨hp,?_⟩) (hb.frame _),fun h=>by cases h⟩
 rw [hps,List.mem_append] at hp
 exact Or.inr hp
end
end Go.Proofs.YtdgcmiecgnmdjaaGreatDoor
