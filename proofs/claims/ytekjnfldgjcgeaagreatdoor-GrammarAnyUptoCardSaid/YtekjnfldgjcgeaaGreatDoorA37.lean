/- Part 37 of what the laws of the grammar rest on. -/
import Derived.Test.YtekjnfldgjcgeaaGreatDoorA0
import Derived.Test.YtekjnfldgjcgeaaGreatDoorA6
import Derived.Test.YtekjnfldgjcgeaaGreatDoorA9
import Derived.Test.YtekjnfldgjcgeaaGreatDoorA22
import Derived.Test.YtekjnfldgjcgeaaGreatDoorA26
import Derived.Test.YtekjnfldgjcgeaaGreatDoorA27
import Derived.Test.YtekjnfldgjcgeaaGreatDoorA36
import Derived.Test.YtekjnfldgjcgeaaGreatDoorCards
import Derived.Test.YtekjnfldgjcgeaaGreatDoorTie
import Derived.ProofKit
import Derived.OpenShut
import Derived.LaidMore
import Derived.Lay
import Derived.Carry
import Derived.ChangeSlices
import Derived.ChangeMaps5
import Derived.SevenTiedAt
import Derived.Stop.Joined
import Derived.LaidSub
import Derived.Lib.LaidTab
import Derived.Test.YtekjnfldgjcgeaaGreatDoorRows
import Derived.Deep.Slices
import Derived.Deep.RegionLaw
import Derived.StillTailTactics
import Derived.Deep.CutRange
set_option linter.all false
set_option maxRecDepth 100000
set_option maxHeartbeats 8000000
namespace Go.Proofs.YtekjnfldgjcgeaaGreatDoor
open Go.RowKit
def OkR (l:List Rule):Prop:=∀ r∈l,okF 60 r.expr=true/\zar r.name
theorem zb4.linesE {W:World} {base:Nat} {v:Value} {l:List Rule} (h:zb4 W base v l) (hok:OkR l):∃ ys,LinesE W v ys l:=by
 obtain ⟨ys,h1,h2,h3⟩:=h
 refine ⟨ys,zcr h2,h1,fun i y r hy hr=>?_⟩
 obtain ⟨g1,g2,g3⟩:=h3 i y r hy hr
 obtain ⟨o1,o2⟩:=hok r (List.mem_of_getElem? hr)
 exact ⟨g1,o2.1,o2.2,g2,(g3.etp 60 o1).any⟩
theorem zty {w:World} {S:ByteArray} {X:List Int} {l:List Rule} (hS:S=za3 X) (hans:∀ r,zeo (za3 X) r->∃ q,r=.ok l q) (hsz:X.length<=1000000) (hok:OkR l) :
  Calls Tryz.prog 7 #[.string S] w (fun e w'=>∃ v ys,e=.returned (.tuple #[v,.int .i64 0])/\LinesE w' v ys l/\Below w.heap.size w w'):=by
 subst hS
 refine (zxe (za3 X) w (by rw [za9];unfold maxLen;omega)).mono ?_
 rintro e w' ⟨r,ha,hb,h⟩
 obtain ⟨q,rfl⟩:=hans r ha
 obtain ⟨v,rfl,hl⟩:=h
 obtain ⟨ys,hys⟩:=hl.linesE hok
 exact ⟨v,ys,rfl,hys,hb⟩
theorem zxf:∀ n,n<11->(okF 60 (zl3 n).expr&&(zl3 n).name.all (fun c=>decide (0<=c)&&decide (c<=255))&&decide ((zl3 n).name.length<=1000))=true:=by decide +kernel
theorem zxg (p:List Nat):OkR (zfc p):=by
 intro r hr
 unfold zfc at hr
 obtain ⟨n,hn,rfl⟩:=List.mem_map.1 hr
 have h2:=zxf (n%11) (Nat.mod_lt _ (by omega))
 simp only [Bool.and_eq_true,List.all_eq_true,decide_eq_true_eq] at h2
 exact ⟨h2.1.1,h2.1.2,by omega⟩
theorem qae:∀ r∈zbs,r.expr.tw<=20:=by
 intro r h
 unfold zbs at h
 simp only [List.mem_cons,List.not_mem_nil,or_false] at h
 rcases h with rfl | rfl | rfl | rfl | rfl | rfl | rfl | rfl | rfl | rfl | rfl | rfl | rfl | rfl | rfl | rfl<;>simp [alT,seT,spT,foT,nuT,rfT,Tree.tw,nCr,nLf,zbb,nWsp,zgm,nSp,zkz]
theorem qcj {g g':List GR} {x:List Int} (h:addM g x=some g'):tws g'+20*g.length<=tws g+20*g'.length:=by
 unfold addM at h
 cases hf:zay g x with
 | some i =>
  rw [hf] at h
  have e:=Option.some.inj h
  subst e
  omega
 | none =>
  rw [hf] at h
  simp only [] at h
  cases hc:zay zbs x with
  | none=>rw [hc] at h;cases h
  | some c =>
   rw [hc] at h
   obtain ⟨⟨r,h1,h2⟩,_⟩:=zbv.1 hc
   simp only [h1,Option.map_some] at h
   have e:=Option.some.inj h
   subst e
   have:=qae r (List.mem_of_getElem? h1)
   rw [zrq,List.length_append]
   simp only [List.length_cons,List.length_nil]
   omega
theorem zs7:∀ {xs:List (List Int)} {g g':List GR},zbn g xs=some g'->tws g'+20*g.length<=tws g+20*g'.length
 | [],g,g',h=>by
  have e:=Option.some.inj h
  subst e
  omega
 | x::xs,g,g',h=>by
  change (addM g x).bind (fun g'=>zbn g' xs)=some g' at h
  cases hm:addM g x with
  | none=>rw [hm] at h;cases h
  | some g1 =>
   rw [hm] at h
   have h1:=qcj hm
   have h2:=zs7 (xs:=xs) (g:=g1) (g':=g') h
   omega
theorem Compl.bounds {n i:Nat} {g:List GR} {R:Option (List GR)} (h:Compl n i g R):∀ g',R=some g'->g'.length+zce g'<=g.length+zce g/\tws g'+20*g.length<=tws g+20*g'.length:=by
 induction h with
 | done h =>
  intro g' e
  have e:=Option.some.inj e
  subst e
  omega
 | fail=>intro g' e;cases e
 | step h1 h2 _ ih =>
  intro g' e
  have a:=ih g' e
  have b:=zdv h2
  have c:=zs7 h2
  omega
theorem zcm.small {l:List Rule} {g:List GR} {e:Int} (h:zcm l g e) (ht:twl l<=9000):g.length<=9016/\(∀ r∈g,dep r.expr<=9000/\(zai r.expr).length<=1000000)/\(zbo g).length<=1000000:=by
 have zero:∀ g:List GR,g=[]->g.length<=9016/\(∀ r∈g,dep r.expr<=9000/\(zai r.expr).length<=1000000)/\(zbo g).length<=1000000:=fun g h=>by
  subst h
  simp [zbo]
 rcases h with ⟨_,hg,_⟩ | ⟨_,⟨_,hg,_⟩ | ⟨g0,n,R,h1,h2,⟨_,hg,_⟩ | ⟨h3,_⟩⟩⟩
 ·exact zero g hg
 ·exact zero g hg
 ·exact zero g hg
 ·have hj:=zkh h1
  have h5:=zkj l
  obtain ⟨t,hgt,_⟩:=h2.gives g h3
  have hb:g.length+zce g<=g0.length+zce g0/\tws g+20*g0.length<=tws g0+20*g.length:=h2.bounds g h3
  have hm:=zic g0
  simp only [tws,List.map_nil,List.sum_nil,List.length_nil] at hj hb
  have hgl:g.length<=9016:=by omega
  have hl0:g0.length<=g.length:=by rw [hgt,List.length_append];omega
  have htw:tws g<=9400:=by unfold tws;omega
  refine ⟨hgl,fun r hr=>?_,?_⟩
  ·have h6:=h2.mem g h3 r hr
   rcases h6 with h6 | h6
   ·have h7:=zwi h6
    have h8:=zrr r.expr.tw r.expr (Nat.le_refl _)
    unfold tws at h7
    omega
   ·obtain ⟨i,hi⟩:=List.getElem?_of_mem h6
    exact zi7 i r hi
  ·have:∀ g:List GR,(zbo g).length<=tws g:=fun g=>by
    induction g with
    | nil=>simp [zbo]
    | cons u g ih =>
     have h8:=(zrr u.expr.tw u.expr (Nat.le_refl _)).2
     simp only [zbo,tws,List.map_cons,List.flatten_cons,List.length_append,List.sum_cons] at ih ⊢
     omega
   have:=this g
   omega
theorem qaf {w:World} {b:Nat} (h:w.heap[b]?=some (.cells #[.string ⟨#[97]⟩,.bool false,.int .i64 4,.string ⟨#[98]⟩,.slice none 0 0,.int .i64 0,.int .i64 0,.slice none 0 0] 37 (0,0))) :
  LinesE w (.slice (some ⟨b,0,none⟩) 1 1) [⟨⟨#[97]⟩,false,⟨4,⟨#[98]⟩,.slice none 0 0,0,0,.slice none 0 0⟩⟩] zwv:=by
 refine ⟨.inr ⟨b,0,1,rfl,Nat.le_refl _,by unfold maxLen;omega,(Array.getElem?_eq_some_iff.1 h).1,fun j u hj=>?_⟩,rfl,fun i y r hy hr=>?_⟩
 ·unfold World.cell?
  simp only [h,Nat.zero_add]
  have e:∀ (l:List Value) (a:Array Value),l=a.toList->l[j]?=some u->(if (none:Option Nat).isSome=true then none else a[j]?)=some u:=fun l a h1 h2=>by subst h1;simpa using h2
  exact e _ _ rfl hj
 ·cases i with
  | zero =>
   simp [zwv] at hy hr
   subst hy hr
   refine ⟨rfl,by simp,by simp,rfl,?_⟩
   exact ETree.mk (x:=[98]) (nums:=[]) (kids:=[]) [] (by simp) (by simp) (.inl ⟨rfl,_,_,rfl⟩) (.inl ⟨rfl,_,_,rfl⟩) rfl (fun i y t h=>by simp at h)
  | succ i=>simp at hy
theorem zs8 {w:World} {b:Nat} {L:List (List Int)} {cs:Array Value} (h:w.heap[b]?=some (.cells cs 9 (0,0))) (hc:cs.toList=zbr L) (hn:L.length<=1000000):RowAny w (.slice (some ⟨b,0,none⟩) L.length L.length) L.length (zbr L):=by
 refine .inr ⟨b,0,L.length,rfl,Nat.le_refl _,by unfold maxLen;omega,(Array.getElem?_eq_some_iff.1 h).1,fun j u hj=>?_⟩
 unfold World.cell?
 simp only [h,Nat.zero_add]
 rw [<- hc] at hj
 simpa using hj
theorem zp8 {w:World} (hT:Tabs w):Calls Tryz.prog 4 #[] w (zam true w):=by
 have HT:=hh9 hT
 have hans:∀ r,zeo (za3 awkT) r->∃ q,r=.ok awkL q:=fun r hr=>by
  rw [<- zzz] at hr
  obtain ⟨q,hq⟩:=zp0 (p:=[0,2]) (by simp) hr
  rw [zkl] at hq
  exact ⟨q,hq⟩
 have hok:OkR awkL:=by rw [<- zkl];exact zxg _
 have htw:twl awkL<=9000:=by
  have:=zoz [0,2]
  rw [zkl] at this
  simp at this
  omega
 have htw2:twl zwv<=9000:=by simp [zwv,twl,rfT,Tree.tw]
 have HR:=hh9 (fun (S:ByteArray) (hS:S=za3 awkT)=>zty (w:=w) hS hans (by simp [awkT]) hok)
 clear hT hans hok
 go_enter Tryz.func4,Tryz.ntmps4
 go_wp2_with fail
 refine (HR.out _ (by kernel_rfl)).mono ?_
 rintro e w1 ⟨v1,ys1,rfl,hl1,hb1⟩
 have HB1:=hh9 hb1
 have HJ1:=hh9 (zn8 hl1 (HT.out.below hb1) htw)
 obtain ⟨a1,c1,hv1⟩:∃ a c,v1=.slice a 2 c:=by
  obtain ⟨a,c,h,_⟩:=hl1.1.slice
  exact ⟨a,c,h⟩
 subst hv1
 clear hb1 hl1
 go_wp2_with fail
 refine HJ1.out.mono ?_
 rintro e w2 ⟨v2,ys2,g2,er2,rfl,hJ2,hR2,hb2⟩
 obtain ⟨rfl,rfl⟩:=hJ2.one zp1
 have HB2:=hh9 (za0 HB1.out hb2)
 have HR2:=hh9 hR2
 obtain ⟨b,off,c2,hv2,hb0,hcs⟩:∃ b off c,v2=.slice (some ⟨b,off,none⟩) 2 c/\b<w2.heap.size/\∀ (j:Nat) (u:Value),(ys2.flatMap RV.cells)[j]?=some u->w2.cell? ⟨b,off+j,none⟩=some u:=by
  rcases hR2.1 with ⟨h0,_⟩ | ⟨b,off,cap,h1,_,_,h3,h4⟩
  ·cases h0
  ·exact ⟨b,off,cap,h1,h3,h4⟩
 obtain ⟨Y0,Y1,rfl⟩:∃ Y0 Y1,ys2=[Y0,Y1]:=by
  have h:=hR2.2.1
  match ys2,h with
  | [Y0,Y1],_=>exact ⟨_,_,rfl⟩
 subst hv2
 have HCS:=hh9 hcs
 have hn1:=(hR2.2.2 1 Y1 ⟨zbb,spT 48 57⟩ rfl rfl).1
 have hE0:=(hR2.2.2 0 Y0 ⟨[97],alT [foT [120],rfT zbb]⟩ rfl rfl).2.2
 obtain ⟨⟨na,nn,nc,hns⟩,ka,kn,kc,hks⟩:=hE0.slices
 obtain ⟨nm0,⟨k,tx,nv,lo,hi,kv⟩⟩:=Y0
 obtain ⟨nm1,X1⟩:=Y1
 simp only [] at hns hks hn1
 subst hns hks
 have hn1:nm1=⟨#[100,105,103,105,116]⟩:=hn1.trans (by kernel_rfl)
 subst hn1
 have HE0:=hh9 hE0
 clear hJ2 hR2 hb2 hcs hE0
 have hb3:Below w2.heap.size w2 (w2.alloc (.cells #[.string ⟨#[97]⟩,.bool false,.int .i64 4,.string ⟨#[98]⟩,.slice none 0 0,.int .i64 0,.int .i64 0,.slice none 0 0] 37)):=(Below.refl _ _).alloc (Nat.le_refl _) _
 have HB3:=hh9 (za0 HB2.out hb3)
 have HJ3:=hh9 (zn8 (qaf (heap_alloc_new w2 _)) (HT.out.below HB3.out) htw2)
 have HB23:=hh9 hb3
 clear hb3
 go_wp2_with fail
 refine HJ3.out.mono ?_
 rintro e w4 ⟨v4,ys4,g4,er4,rfl,hJ4,hR4,hb4⟩
 obtain ⟨rfl,rfl⟩:=hJ4.one ztq
 have HB4:=hh9 (za0 HB3.out hb4)
 have HB24:=hh9 (za0 HB23.out hb4)
 have HR4:=hh9 (HR2.out.below HB24.out)
 obtain ⟨a4,c4,hv4⟩:∃ a c,v4=.slice a 0 c:=by
  obtain ⟨a,c,h,_⟩:=hR4.1.slice
  exact ⟨a,c,h⟩
 subst hv4
 have c7:w4.cell? ⟨b,off+7,none⟩=some (.string ⟨#[100,105,103,105,116]⟩):=(HB24.out.cell (p:=⟨b,off+7,none⟩) hb0).trans (HCS.out 7 _ rfl)
 have hdig:zar zbb:=by unfold zar;decide
 have ha1:zar [97]:=by unfold zar;decide
 have ed:(⟨#[100,105,103,105,116]⟩:ByteArray)=za3 zbb:=by kernel_rfl
 have ea:(⟨#[97]⟩:ByteArray)=za3 [97]:=by kernel_rfl
 have HF:=hh9 (zrl HR4.out.rules hdig)
 rw [zeb zp2,<- ed] at HF
 clear hJ4 hR4 hb4
 go_wp2_with fail
 refine HF.out.mono ?_
 rintro e w5 ⟨rfl,hb5⟩
 have HB5:=hh9 (za0 HB4.out hb5)
 have HB25:=hh9 (za0 HB24.out hb5)
 have hsmall:=zp1.small htw
 have HRE:=hh9 (zwr (x:=[97]) (HR2.out.below HB25.out) ha1 (by omega) hsmall.2.1 hsmall.2.2)
 rw [<- ea] at HRE
 clear hb5 hsmall
 go_wp2_with fail
 refine HRE.out.mono ?_
 rintro e w6 ⟨v6,R6,rfl,hR6,hrow6,_,hb6⟩
 obtain rfl:=hR6.one zww
 have HB6:=hh9 (za0 HB5.out hb6)
 have HB26:=hh9 (za0 HB25.out hb6)
 have hba:Below w6.heap.size w6 (w6.alloc (.cells #[.string ⟨#[97]⟩,.string ⟨#[100,105,103,105,116]⟩] 9)):=(Below.refl _ _).alloc (Nat.le_refl _) _
 have HS1:=hh9 (zoq (w:=w6.alloc (.cells #[.string ⟨#[97]⟩,.string ⟨#[100,105,103,105,116]⟩] 9)) (L:=[[97],zbb]) ((zcr hrow6).below hba) (zs8 (heap_alloc_new w6 _) (by kernel_rfl) (by simp)))
 have HBA:=hh9 hba
 obtain ⟨a6,c6,hv6⟩:∃ a c,v6=.slice a 2 c:=zbj hrow6
 subst hv6
 clear hR6 hrow6 hb6 hba
 go_wp2_with fail
 refine HS1.out.mono ?_
 rintro e w7 ⟨rfl,hb7⟩
 have HB7:=hh9 (za0 (za0 HB6.out HBA.out) hb7)
 have HB27:=hh9 (za0 (za0 HB26.out HBA.out) hb7)
 have HCW:=hh9 (fun (j:Nat) (u:Value) (hj:([(⟨nm0,⟨k,tx,.slice na nn nc,lo,hi,.slice ka kn kc⟩⟩:RV),⟨⟨#[100,105,103,105,116]⟩,X1⟩].flatMap RV.cells)[j]?=some u)=>(HB27.out.cell (p:=⟨b,off+j,none⟩) hb0).trans (HCS.out j u hj))
 have e1:=HCW.out 1 _ rfl
 have e2:=HCW.out 2 _ rfl
 have e3:=HCW.out 3 _ rfl
 have e4:=HCW.out 4 _ rfl
 have e5:=HCW.out 5 _ rfl
 have e6:=HCW.out 6 _ rfl
 have hE7:=HE0.out.kept (M:=fun _=>False) (P':=fun _=>True) (zap.below HB27.out) (fun b _ _=>⟨id,trivial⟩)
 have hdn:=zrr (alT [foT [120],rfT zbb]).tw _ (Nat.le_refl _)
 have htwa:(alT [foT [120],rfT zbb]).tw<=100:=by simp [alT,foT,rfT,Tree.tw,zbb]
 have HNM:=hh9 (qbs hE7 (by omega) (by omega))
 rw [zkk] at HNM
 unfold XV.val at HNM
 simp only [] at HNM
 clear hb7 hE7 hdn htwa
 go_wp2_with fail
 refine HNM.out.mono ?_
 rintro e w8 ⟨v8,rfl,hrow8,hb8⟩
 have HB8:=hh9 (za0 HB7.out hb8)
 have hba8:Below w8.heap.size w8 (w8.alloc (.cells #[.string ⟨#[100,105,103,105,116]⟩] 9)):=(Below.refl _ _).alloc (Nat.le_refl _) _
 have HS2:=hh9 (zoq (w:=w8.alloc (.cells #[.string ⟨#[100,105,103,105,116]⟩] 9)) (L:=[zbb]) ((zcr hrow8).below hba8) (zs8 (heap_alloc_new w8 _) (by kernel_rfl) (by simp)))
 have HBA8:=hh9 hba8
 obtain ⟨a8,c8,hv8⟩:∃ a c,v8=.slice a 1 c:=zbj hrow8
 subst hv8
 clear hrow8 hb8 hba8
 go_wp2_with fail
 refine HS2.out.mono ?_
 rintro e w9 ⟨rfl,hb9⟩
 have HB9:=hh9 (za0 (za0 HB8.out HBA8.out) hb9)
 clear hb9
 go_wp2_with fail
 go_ret
 exact ⟨rfl,HB9.out⟩
end Go.Proofs.YtekjnfldgjcgeaaGreatDoor
namespace Go.Proofs.YtekjnfldgjcgeaaGreatDoor
open Go.ChangeShapes Go.WideShapes Go.ChangeAt Go.RowKit
theorem qag:laidOutB Tryz.prog=true:=by kernel_rfl
theorem cellsByte:Tryz.prog.cellsOf 5=1:=by kernel_rfl
def zqj (W:World) (v:Value) (zs:List Int):Prop :=
 ∃ a cap,v=.slice a zs.length cap/\zs.length<=cap/\zs.length<=maxLen/\(∀ z∈zs,0<=z/\z<=255) /\
  (0<zs.length->∃ b off,a=some ⟨b,off,none⟩/\b<W.heap.size/\∀ (i:Nat) (z:Int),zs[i]?=some z->W.cell? ⟨b,off+i,none⟩=some (.int .u8 z))
theorem zqj.below {W W':World} {v:Value} {zs:List Int} (h:zqj W v zs) (hb:Below W.heap.size W W'):zqj W' v zs:=by
 obtain ⟨a,cap,h1,h2,h3,h4,h5⟩:=h
 refine ⟨a,cap,h1,h2,h3,h4,fun hn=>?_⟩
 obtain ⟨b,off,ha,hlt,hc⟩:=h5 hn
 exact ⟨b,off,ha,Nat.lt_of_lt_of_le hlt hb.size,fun i z hz=>(hb.cell (p:=⟨b,off+i,none⟩) hlt).trans (hc i z hz)⟩
def zxh:List Int:=[0,1,56,2,57,49,28,3,61,58,42,50,38,29,17,4,62,47,59,36,45,43,51,22,53,39,33,30,24,18,12,5,63,55,48,27,60,41,37,16,46,35,44,21,52,32,23,11,54,26,40,15,34,20,31,10,25,14,19,9,13,8,7,6]
theorem zp9 {l:List (String × DataW Unit)} {W:World} (h:laidMetH Tryz.prog l W) (hp:laidMetH Tryz.prog l W=laidMet Tryz.prog l W)
  (e1 : l.filter (fun x => x.1 == "math/bits.deBruijn64tab") = [("math/bits.deBruijn64tab", Lib.tabData .u8 zxh)])
  (e2 : l.filter (fun x => x.1 == "internal/strconv.uint64pow10") = [("internal/strconv.uint64pow10", Lib.tabData .u64 Lib.pow10Tab)]) : Tabs W := by
 rw [hp] at h
 have h1 := laidMet.filter (fun x => x.1 == "math/bits.deBruijn64tab") h
 have h2 := laidMet.filter (fun x => x.1 == "internal/strconv.uint64pow10") h
 rw [e1] at h1
 rw [e2] at h2
 have t1:=Lib.tabIs_of_head (g:=6) (t:=195) (e:=5) (n:=64) (by kernel_rfl) (by kernel_rfl) Tryz.underlying195 Tryz.underlying5 (by kernel_rfl) (by kernel_rfl) h1
 have t2:=Lib.tabIs_of_head (g:=2) (t:=174) (e:=162) (n:=20) (by kernel_rfl) (by kernel_rfl) Tryz.underlying174 Tryz.underlying162 (by kernel_rfl) (by kernel_rfl) h2
 exact ⟨Lib.TabIs.cell t1 (by kernel_rfl) 15 (by decide),t2⟩
theorem zxi (s:ByteArray):∃ x:List Int,s=za3 x/\(∀ c∈x,0<=c/\c<=255)/\x.length=s.size:=by
 refine ⟨s.data.toList.map fun b=>(b.toNat:Int),?_,?_,?_⟩
 ·apply ByteArray.ext
  unfold za3
  have:(s.data.toList.map fun b=>(b.toNat:Int)).map byt=s.data.toList:=by
   rw [List.map_map]
   have:(byt ∘ fun b:UInt8=>(b.toNat:Int))=id:=by funext b;unfold byt;simp
   rw [this,List.map_id]
  rw [this]
 ·intro c hc
  rw [List.mem_map] at hc
  obtain ⟨b,_,rfl⟩:=hc
  have:=b.toNat_lt
  omega
 ·rw [List.length_map];rfl
section
variable {H:Type} {enc:TypeId × Value → H}
theorem zqk {P:Program} {f:Func} {s:ChangeSpec} {fresh handsOn:Bool} {W W':World} {args:Array Value} {v:Value} {ds gs:List (DataW H)} {before pa pv:List MemPlace}
  (hW:DataW.Whole enc P f.params.toList s.vars false W args.toList ds gs before)
  (hres:∀ (b:Nat) (sp:Nat->Bool) (hd:Bool),DataW.TrodAll enc P W' b sp hd f.resultTypes.toList (v.resultList f.resultTypes.size) (s.fn H (ds++gs)).results [])
  (hargs:DataW.TrodAll enc P W' 0 (fun b=>decide (b<W.heap.size)) true f.params.toList args.toList (s.fn H (ds++gs)).args pa)
  (hvars:∀ sp:Nat->Bool,DataW.TrodVars enc P W' sp s.vars (s.fn H (ds++gs)).vars pv)
  (hps:before=pa++pv) (hb:Below W.heap.size W W') :
  s.post enc P f false fresh handsOn false W args v W':=by
 refine ⟨ds,gs,before,[],pa,pv,hW,hres _ _ _,hargs,hvars _,World.keptBut_mono (fun p hp=>⟨hp,?_⟩) (hb.frame _),fun h=>by cases h⟩
 rw [hps,List.mem_append] at hp
 exact Or.inr hp
end
end Go.Proofs.YtekjnfldgjcgeaaGreatDoor
namespace Go.Proofs.YtekjnfldgjcgeaaGreatDoor
open Go.ChangeShapes Go.WideShapes Go.ChangeAt Go.RowKit Go.Deep
theorem zs9:Tryz.prog.cellsOf 3=1:=by kernel_rfl
theorem zsa:Tryz.prog.cellsOf 9=1:=by kernel_rfl
theorem zxj:Tryz.prog.cellsOf 4=1:=by kernel_rfl
theorem zxk:Tryz.prog.cellsOf 32=1:=by kernel_rfl
theorem zxl:Tryz.prog.cellsOf 33=1:=by kernel_rfl
theorem zxm:Tryz.prog.cellsOf 35=6:=by kernel_rfl
theorem qb5:Tryz.prog.cellsOf 37=8:=by kernel_rfl
theorem znf {H:Type} (f:Nat->DataW H) (g:Nat->Nat):∀ (l:List Nat),(∀ i∈l,g i<=Rows.uptoBulk (f i))->(l.map g).sum<=Rows.uptoBulkAll (l.map f)
 | [],_=>Nat.zero_le _
 | i::l,h=>by
  have h1:=h i (by simp)
  have h2:=znf f g l (fun j hj=>h j (by simp [hj]))
  simp only [List.map_cons,List.sum_cons,Rows.uptoBulkAll]
  omega
theorem zsb {H:Type}:∀ l:List (DataW H),l.length<=Rows.uptoBulkAll l
 | []=>Nat.zero_le _
 | d::l=>by
  have h1:1<=Rows.uptoBulk d:=by
   cases d with
   | lit l=>cases l<;>simp [Rows.uptoBulk]
   | nil=>simp [Rows.uptoBulk]
   | ptr d=>simp [Rows.uptoBulk]
   | slice elems spare=>simp [Rows.uptoBulk]
   | agg parts=>simp [Rows.uptoBulk]
   | iface t d=>simp [Rows.uptoBulk]
   | map entries=>simp [Rows.uptoBulk]
   | held h=>simp [Rows.uptoBulk]
  have h2:=zsb l
  simp only [List.length_cons,Rows.uptoBulkAll]
  omega
theorem qdv {α:Type} {cs:List α} (h:cs.length=6):∃ c0 c1 c2 c3 c4 c5,cs=[c0,c1,c2,c3,c4,c5] :=
 match cs,h with
 | [c0,c1,c2,c3,c4,c5],_=>⟨c0,c1,c2,c3,c4,c5,rfl⟩
theorem list3 {α:Type} {cs:List α} (h:cs.length=3):∃ c0 c1 c2,cs=[c0,c1,c2] :=
 match cs,h with
 | [c0,c1,c2],_=>⟨c0,c1,c2,rfl⟩
theorem list8 {α:Type} {cs:List α} (h:cs.length=8):∃ c0 c1 c2 c3 c4 c5 c6 c7,cs=[c0,c1,c2,c3,c4,c5,c6,c7] :=
 match cs,h with
 | [c0,c1,c2,c3,c4,c5,c6,c7],_=>⟨c0,c1,c2,c3,c4,c5,c6,c7,rfl⟩
theorem qah (vs:List XV) (j:Nat) (u:Value) (h:(vs.flatMap XV.cells)[j]?=some u):∃ x,vs[j / 6]?=some x/\x.cells[j%6]?=some u/\j / 6<vs.length:=by
 have hj:j<vs.length*6:=by
  have:=(List.getElem?_eq_some_iff.1 h).1
  rwa [ziu] at this
 have hi:j / 6<vs.length:=by omega
 refine ⟨vs[j / 6],List.getElem?_eq_getElem hi,?_,hi⟩
 have:=zc9 vs (j / 6) (j%6) _ (List.getElem?_eq_getElem hi) (Nat.mod_lt _ (by omega))
 rw [show j / 6*6+j%6=j by omega,h] at this
 exact this.symm
theorem zxn (vs:List LV):(vs.flatMap LV.cells).length=vs.length*8:=by
 induction vs with
 | nil=>rfl
 | cons x vs ih=>simp [LV.cells] at ih ⊢;omega
theorem zxo (vs:List LV) (j:Nat) (u:Value) (h:(vs.flatMap LV.cells)[j]?=some u):∃ x,vs[j / 8]?=some x/\x.cells[j%8]?=some u/\j / 8<vs.length:=by
 have hj:j<vs.length*8:=by
  have:=(List.getElem?_eq_some_iff.1 h).1
  rwa [zxn] at this
 have hi:j / 8<vs.length:=by omega
 refine ⟨vs[j / 8],List.getElem?_eq_getElem hi,?_,hi⟩
 have:=zdy vs (j / 8) (j%8) _ (List.getElem?_eq_getElem hi) (Nat.mod_lt _ (by omega))
 rw [show j / 8*8+j%8=j by omega,h] at this
 exact this.symm
instance:Inhabited (XV × Tree):=⟨(⟨0,⟨#[]⟩,.slice none 0 0,0,0,.slice none 0 0⟩,.mk 0 [] [] 0 0 [])⟩
instance:Inhabited (LV × Rule):=⟨(⟨⟨#[]⟩,false,⟨0,⟨#[]⟩,.slice none 0 0,0,0,.slice none 0 0⟩⟩,⟨[],false,.mk 0 [] [] 0 0 []⟩)⟩
section
variable {H:Type} {enc:TypeId × Value → H}
theorem zxp {W:World} {sp:Nat->Bool} {n:Nat} {c:Value} {y:DataW H × List MemPlace} (h:DataW.trod enc Tryz.prog W 0 sp true n 32 [c]=some y) :
  ∃ nums:List Int,RowAny W c nums.length (zat nums)/\nums.length<=Rows.uptoBulk y.1:=by
 rcases open_ints Tryz.underlying32 Tryz.underlying3 zs9 h with ⟨hcs,hx⟩ | ⟨a,len,cap,zs,hcs,_,hl,hm,hz,hx,hc,hw⟩
 ·simp at hcs
  subst hcs
  exact ⟨[],.inl ⟨rfl,none,0,rfl⟩,Nat.zero_le _⟩
 ·simp at hcs
  subst hcs
  have hle:len<=zs.length:=by rw [hz];split<;>omega
  have hlen:(zs.take len).length=len:=by rw [List.length_take];omega
  refine ⟨zs.take len,?_,?_⟩
  ·by_cases h0:len=0
   ·subst h0
    exact .inl ⟨by simp,_,_,rfl⟩
   ·obtain ⟨b,off,spot⟩:=a
    have c0:=hc 0 (by omega)
    have hspot:spot=none:=by simpa [Addr.add] using World.cell?_spot c0
    subst hspot
    have hlt:b<W.heap.size:=by
     have:=World.block_lt_of_cell? W _ c0
     simpa [Addr.add] using this
    refine .inr ⟨b,off,cap,by rw [hlen],by rw [hlen];exact hl,hm,hlt,fun j u hj=>?_⟩
    unfold zat at hj
    rw [List.getElem?_map,Option.map_eq_some_iff] at hj
    obtain ⟨z,hz1,rfl⟩:=hj
    have hjl:j<len:=by
     have:=(List.getElem?_eq_some_iff.1 hz1).1
     omega
    have hci:=hc j (by omega)
    rw [List.getElem?_take_of_lt hjl] at hz1
    have e:(⟨b,off,none⟩:Addr).add j=⟨b,off+j,none⟩:=by cases j<;>simp [Addr.add]
    rw [e,List.getD_eq_getElem?_getD,hz1] at hci
    exact hci
  ·rw [hx,hlen]
   have h1:=zsb (H:=H) (lits .i64 (zs.take len))
   have h2:(lits (H:=H) .i64 (zs.take len)).length=len:=by rw [lits,List.length_map,hlen]
   simp only [Rows.uptoBulk]
   omega
theorem zsc (b off j:Nat):(⟨b,off,none⟩:Addr).add j=⟨b,off+j,none⟩:=by
 cases j<;>simp [Addr.add]
theorem zxq {W:World} {sp:Nat->Bool}:∀ (fuel:Nat) (cs:List Value) (x:DataW H × List MemPlace),DataW.trod enc Tryz.prog W 0 sp true fuel 35 cs=some x ->
  ∃ (X:XV) (t:Tree),cs=X.cells/\ETree W X t/\t.tw<=Rows.uptoBulk x.1:=by
 intro fuel
 induction fuel using Nat.strongRecOn with
 | _ fuel ih =>
 intro cs x h
 obtain ⟨xs,n,hn,rfl,hl,hlen,hf⟩:=DataW.trod_struct Tryz.underlying35 h
 rw [zxm] at hl
 obtain ⟨c0,c1,c2,c3,c4,c5,rfl⟩:=qdv hl
 obtain ⟨y0,y1,y2,y3,y4,y5,rfl⟩:=qdv (hlen.trans rfl)
 have g0:=hf 0 _ rfl
 have g1:=hf 1 _ rfl
 have g2:=hf 2 _ rfl
 have g3:=hf 3 _ rfl
 have g4:=hf 4 _ rfl
 have g5:=hf 5 _ rfl
 simp only [List.getElem_toArray,List.getElem_cons_zero,List.getElem_cons_succ,zs9,zsa,zxk,zxl,List.drop,List.take,List.getElem?_cons_zero,List.getElem?_cons_succ] at g0 g1 g2 g3 g4 g5
 obtain ⟨k,e0,rfl,w0⟩:=DataW.trod_int Tryz.underlying3 g0
 obtain ⟨s,e1,rfl,w1⟩:=DataW.trod_string Tryz.underlying9 g1
 obtain ⟨lo,e3,rfl,w3⟩:=DataW.trod_int Tryz.underlying3 g3
 obtain ⟨hi,e4,rfl,w4⟩:=DataW.trod_int Tryz.underlying3 g4
 obtain ⟨nums,hnums,hnb⟩:=zxp g2
 obtain ⟨tx,rfl,hb,hsz⟩:=zxi s
 simp only [List.cons.injEq,and_true] at e0 e1 e3 e4
 subst e0 e1 e3 e4
 have hml:maxLen=9223372036854775807:=rfl
 have hbl:tx.length+1<=Rows.uptoBulk (DataW.lit (H:=H) (.string (za3 tx).data.toList)):=by
  have:(za3 tx).data.toList.length=tx.length:=by rw [zcf];simp
  simp only [Rows.uptoBulk]
  omega
 have bulks:∀ (ks:List Tree),(ks.map Tree.tw).sum<=Rows.uptoBulk y5.1->(Tree.mk k tx nums lo hi ks).tw<=Rows.uptoBulk (DataW.agg (([(DataW.lit (.int .i64 k),([]:List MemPlace)),(DataW.lit (.string (za3 tx).data.toList),[]),y2,(DataW.lit (.int .i64 lo),[]),(DataW.lit (.int .i64 hi),[]),y5]).map (·.1))):=by
  intro ks hks
  simp only [Tree.tw,List.map_cons,List.map_nil,Rows.uptoBulk,Rows.uptoBulkAll]
  simp only [Rows.uptoBulk] at hbl
  omega
 rcases DataW.trod_slice Tryz.underlying33 g5 with ⟨hcs,hx5⟩ | ⟨a,len,cap,elems,rest,n',hn',hcs,hx5,_,hl',hm,hlen',hel,_,_⟩
 ·simp at hcs
  subst hcs
  refine ⟨⟨k,za3 tx,c2,lo,hi,.slice none 0 0⟩,.mk k tx nums lo hi [],rfl,?_,bulks [] (Nat.zero_le _)⟩
  exact .mk [] hb (by omega) hnums (.inl ⟨rfl,none,0,rfl⟩) rfl (fun i y t hy _=>by simp at hy)
 ·simp at hcs
  subst hcs
  rw [zxm] at hel
  have each:∀ i,i<len->∃ q:XV × Tree,(∀ (j:Nat) (u:Value),q.1.cells[j]?=some u->W.cell? (a.add (i*6+j))=some u)/\ETree W q.1 q.2/\q.2.tw<=Rows.uptoBulk (elems.getD i (.nil,[])).1:=by
   intro i hi
   have h1:=hel i hi
   rw [List.getElem?_eq_getElem (by omega)] at h1
   obtain ⟨cs',h2,h3⟩:=Option.bind_eq_some_iff.1 h1
   obtain ⟨X,t,rfl,hE,hb'⟩:=ih n' (by omega) cs' _ h3
   obtain ⟨_,hc1,hc2⟩:=World.cells?_some h2
   refine ⟨(X,t),fun j u hj=>?_,hE,by simpa [List.getD,List.getElem?_eq_getElem (show i<elems.length by omega)] using hb'⟩
   have hj6:j<6:=by
    have:=(List.getElem?_eq_some_iff.1 hj).1
    simpa [XV.cells] using this
   have:=hc2 j hj6
   rw [hj] at this
   rw [<- this]
   congr 1
   obtain ⟨b,off,spot⟩:=a
   cases j<;>cases i<;>simp [Addr.add]<;>omega
  obtain ⟨q,hq⟩:=choose_lt each
  have hvl:((List.range len).map fun i=>(q i).1).length=len:=by simp
  have hkl:((List.range len).map fun i=>(q i).2).length=len:=by simp
  refine ⟨⟨k,za3 tx,c2,lo,hi,.slice (some a) len cap⟩,.mk k tx nums lo hi ((List.range len).map fun i=>(q i).2),rfl,?_,bulks _ ?_⟩
  ·refine .mk ((List.range len).map fun i=>(q i).1) hb (by omega) hnums ?_ (by rw [hvl,hkl]) (fun i y t hy ht=>?_)
   ·rw [hkl]
    by_cases h0:len=0
    ·subst h0
     exact .inl ⟨rfl,_,_,rfl⟩
    ·obtain ⟨b,off,spot⟩:=a
     have c0:=(hq 0 (by omega)).1 0 _ rfl
     have hspot:spot=none:=by simpa [Addr.add] using World.cell?_spot c0
     subst hspot
     have hlt:b<W.heap.size:=by
      have:=World.block_lt_of_cell? W _ c0
      simpa [Addr.add] using this
     refine .inr ⟨b,off,cap,rfl,hl',hm,hlt,fun j u hj=>?_⟩
     obtain ⟨X,hX,hu,hjl⟩:=qah _ j u hj
     rw [hvl] at hjl
     rw [List.getElem?_map,List.getElem?_range hjl] at hX
     simp at hX
     subst hX
     have:=(hq (j / 6) hjl).1 (j%6) u hu
     rw [zsc,show j / 6*6+j%6=j by omega] at this
     exact this
   ·have hil:i<len:=by
     have:=(List.getElem?_eq_some_iff.1 hy).1
     omega
    rw [List.getElem?_map,List.getElem?_range hil] at hy ht
    simp at hy ht
    subst hy ht
    exact (hq i hil).2.1
  ·rw [hx5,List.map_map]
   have h1:=znf (fun i=>(elems.getD i (.nil,[])).1) (fun i=>((q i).2).tw) (List.range len) (fun i hi=>(hq i (by simpa using hi)).2.2)
   have h2:(List.range len).map (fun i=>(elems.getD i (.nil,[])).1)=elems.map (·.1):=by
    apply List.ext_getElem? ;intro i
    by_cases hi:i<len
    ·rw [List.getElem?_map,List.getElem?_range hi,List.getElem?_map,List.getElem?_eq_getElem (show i<elems.length by omega)]
     simp [List.getD,List.getElem?_eq_getElem (show i<elems.length by omega)]
    ·rw [List.getElem?_eq_none (by simp;omega),List.getElem?_eq_none (by simp;omega)]
   rw [h2] at h1
   simp only [Rows.uptoBulk]
   have h3:((List.range len).map (Tree.tw ∘ fun i=>(q i).2))=(List.range len).map (fun i=>((q i).2).tw):=rfl
   rw [h3]
   omega
def zku (r:Rule):Nat:=1+r.name.length+r.expr.tw
theorem zxr {W:World} {sp:Nat->Bool} (fuel:Nat) (cs:List Value) (x:DataW H × List MemPlace) (h:DataW.trod enc Tryz.prog W 0 sp true fuel 37 cs=some x) :
  ∃ (Y:LV) (r:Rule),cs=Y.cells/\zl0 W Y r/\zku r<=Rows.uptoBulk x.1:=by
 obtain ⟨xs,n,hn,rfl,hl,hlen,hf⟩:=DataW.trod_struct Tryz.underlying37 h
 rw [qb5] at hl
 obtain ⟨c0,c1,c2,c3,c4,c5,c6,c7,rfl⟩:=list8 hl
 obtain ⟨y0,y1,y2,rfl⟩:=list3 (hlen.trans rfl)
 have g0:=hf 0 _ rfl
 have g1:=hf 1 _ rfl
 have g2:=hf 2 _ rfl
 simp only [List.getElem_toArray,List.getElem_cons_zero,List.getElem_cons_succ,zsa,zxj,zxm,List.drop,List.take,List.getElem?_cons_zero,List.getElem?_cons_succ] at g0 g1 g2
 obtain ⟨s,e0,rfl,w0⟩:=DataW.trod_string Tryz.underlying9 g0
 obtain ⟨m,e1,rfl⟩:=DataW.trod_bool Tryz.underlying4 g1
 obtain ⟨X,t,e2,hE,hb2⟩:=zxq n _ _ g2
 obtain ⟨tx,rfl,hb,hsz⟩:=zxi s
 simp only [List.cons.injEq,and_true] at e0 e1
 subst e0 e1
 have hml:maxLen=9223372036854775807:=rfl
 have hl2:tx.length<=9223372036854775807:=by omega
 refine ⟨⟨za3 tx,m,X⟩,⟨tx,m,t⟩,?_,⟨rfl,hb,hl2,rfl,hE⟩,?_⟩
 ·rw [LV.cells]
  simp [XV.cells] at e2
  simp [e2]
 ·have:(za3 tx).data.toList.length=tx.length:=by rw [zcf];simp
  simp only [zku,List.map_cons,List.map_nil,Rows.uptoBulk,Rows.uptoBulkAll]
  omega
theorem ztz {W:World} {base:Nat} {v:Value} {d:DataW H} {p:List MemPlace} (hval:Value.okWide Tryz.prog W .any base 22 v) (h:DataW.Trod enc Tryz.prog W 0 (fun _=>true) true 22 v d p) :
  ∃ ys l,LinesE W v ys l/\(l.map zku).sum<=Rows.uptoBulk d:=by
 obtain ⟨a0,len0,cap0,rfl⟩:=okWide_slice Tryz.underlying22 hval
 obtain ⟨fuel,hf⟩:=h
 rcases DataW.trod_slice Tryz.underlying22 hf with ⟨hcs,hx5⟩ | ⟨a,len,cap,elems,rest,n',hn',hcs,hx5,_,hl',hm,hlen',hel,_,_⟩
 ·simp [Value.cells] at hcs
  obtain ⟨rfl,rfl,rfl⟩:=hcs
  exact ⟨[],[],⟨.inl ⟨rfl,none,0,rfl⟩,rfl,fun i y t hy _=>by simp at hy⟩,Nat.zero_le _⟩
 ·simp [Value.cells] at hcs
  obtain ⟨rfl,rfl,rfl⟩:=hcs
  rw [qb5] at hel
  have each:∀ i,i<len0->∃ q:LV × Rule,(∀ (j:Nat) (u:Value),q.1.cells[j]?=some u->W.cell? (a.add (i*8+j))=some u)/\zl0 W q.1 q.2/\zku q.2<=Rows.uptoBulk (elems.getD i (.nil,[])).1:=by
   intro i hi
   have h1:=hel i hi
   rw [List.getElem?_eq_getElem (by omega)] at h1
   obtain ⟨cs',h2,h3⟩:=Option.bind_eq_some_iff.1 h1
   obtain ⟨X,t,rfl,hE,hb'⟩:=zxr n' cs' _ h3
   obtain ⟨_,hc1,hc2⟩:=World.cells?_some h2
   refine ⟨(X,t),fun j u hj=>?_,hE,by simpa [List.getD,List.getElem?_eq_getElem (show i<elems.length by omega)] using hb'⟩
   have hj6:j<8:=by
    have:=(List.getElem?_eq_some_iff.1 hj).1
    simpa [LV.cells] using this
   have:=hc2 j hj6
   rw [hj] at this
   rw [<- this]
   congr 1
   obtain ⟨b,off,spot⟩:=a
   cases j<;>cases i<;>simp [Addr.add]<;>omega
  obtain ⟨q,hq⟩:=choose_lt each
  have hvl:((List.range len0).map fun i=>(q i).1).length=len0:=by simp
  have hkl:((List.range len0).map fun i=>(q i).2).length=len0:=by simp
  refine ⟨(List.range len0).map fun i=>(q i).1,(List.range len0).map fun i=>(q i).2,⟨?_,by rw [hvl,hkl],fun i y t hy ht=>?_⟩,?_⟩
  ·rw [hkl]
   by_cases h0:len0=0
   ·subst h0
    exact .inl ⟨rfl,_,_,rfl⟩
   ·obtain ⟨b,off,spot⟩:=a
    have c0:=(hq 0 (by omega)).1 0 _ rfl
    have hspot:spot=none:=by simpa [Addr.add] using World.cell?_spot c0
    subst hspot
    have hlt:b<W.heap.size:=by
     have:=World.block_lt_of_cell? W _ c0
     simpa [Addr.add] using this
    refine .inr ⟨b,off,cap0,rfl,hl',hm,hlt,fun j u hj=>?_⟩
    obtain ⟨X,hX,hu,hjl⟩:=zxo _ j u hj
    rw [hvl] at hjl
    rw [List.getElem?_map,List.getElem?_range hjl] at hX
    simp at hX
    subst hX
    have:=(hq (j / 8) hjl).1 (j%8) u hu
    rw [zsc,show j / 8*8+j%8=j by omega] at this
    exact this
  ·have hil:i<len0:=by
    have:=(List.getElem?_eq_some_iff.1 hy).1
    omega
   rw [List.getElem?_map,List.getElem?_range hil] at hy ht
   simp at hy ht
   subst hy ht
   exact (hq i hil).2.1
  ·have hd:d=DataW.slice (elems.map (·.1)) (rest.map (·.1)):=congrArg Prod.fst hx5
   rw [hd,List.map_map]
   have h1:=znf (fun i=>(elems.getD i (.nil,[])).1) (fun i=>zku (q i).2) (List.range len0) (fun i hi=>(hq i (by simpa using hi)).2.2)
   have h2:(List.range len0).map (fun i=>(elems.getD i (.nil,[])).1)=elems.map (·.1):=by
    apply List.ext_getElem? ;intro i
    by_cases hi:i<len0
    ·rw [List.getElem?_map,List.getElem?_range hi,List.getElem?_map,List.getElem?_eq_getElem (show i<elems.length by omega)]
     simp [List.getD,List.getElem?_eq_getElem (show i<elems.length by omega)]
    ·rw [List.getElem?_eq_none (by simp;omega),List.getElem?_eq_none (by simp;omega)]
   rw [h2] at h1
   simp only [Rows.uptoBulk]
   have h3:((List.range len0).map (zku ∘ fun i=>(q i).2))=(List.range len0).map (fun i=>zku (q i).2):=rfl
   rw [h3]
   omega
end
end Go.Proofs.YtekjnfldgjcgeaaGreatDoor
namespace Go.Proofs.YtekjnfldgjcgeaaGreatDoor
open Go.RowKit
theorem RowAny.of_block {W:World} {g n:Nat} {cs:Array Value} {t:TypeId} (h:W.heap[g]?=some (.cells cs t (0,0))) (hn:n<=1000000):RowAny W (.slice (some ⟨g,0,none⟩) n n) n cs.toList:=by
 refine .inr ⟨g,0,n,rfl,Nat.le_refl _,by unfold maxLen;omega,(Array.getElem?_eq_some_iff.1 h).1,fun j u hj=>?_⟩
 simp only [World.cell?,h,Nat.zero_add]
 simpa using hj
def sw (l:List Tree):Nat:=(l.map Tree.tw).sum
theorem qdw (t:Tree):1<=t.tw:=by
 obtain ⟨k,x,ns,lo,hi,kids⟩:=t
 rw [Tree.tw]
 omega
theorem qb6:∀ l:List Tree,l.length<=sw l
 | []=>by simp [sw]
 | t::l=>by
  have:=qb6 l
  have:=qdw t
  simp only [sw,List.map_cons,List.sum_cons,List.length_cons] at *
  omega
theorem qck {l:List Tree} {i:Nat} {t:Tree} (h:l[i]?=some t):sw (l.take (i+1))=sw (l.take i)+t.tw:=by
 unfold sw
 rw [List.take_add_one,h]
 simp
theorem qdx (l:List Tree) (i:Nat):sw (l.take i)<=sw l:=by
 have h:sw l=sw (l.take i)+sw (l.drop i):=by
  unfold sw
  rw [<- List.sum_append,<- List.map_append,List.take_append_drop]
 omega
def WtS (w:World) (g o:Nat) (s:ByteArray) (ns ks:Value) (W:World):Prop :=
 (W.cell? ⟨g,o+1,none⟩=some (.string s)/\W.cell? ⟨g,o+2,none⟩=some ns/\W.cell? ⟨g,o+5,none⟩=some ks)/\Below w.heap.size w W
theorem WtS.step {w:World} {g o:Nat} {s:ByteArray} {ns ks:Value} {W W':World} (hb:Below W.heap.size W W') (h:WtS w g o s ns ks W):WtS w g o s ns ks W' :=
 ⟨⟨zac h.1.1 hb,zac h.1.2.1 hb,zac h.1.2.2 hb⟩,za0 h.2 hb⟩
theorem WtS.drew {w:World} {g o:Nat} {s:ByteArray} {ns ks:Value} {W:World} (h:WtS w g o s ns ks W):WtS w g o s ns ks W.drew:=⟨h.1,za7 h.2 1⟩
def qb7 (n:Nat) (w:World) (e:Ending) (w':World):Prop:=e=.returned (.int .i64 (n:Int))/\Below w.heap.size w w'
theorem zu0:∀ (k:Nat) (w:World) (v:Value) (vs:List XV) (l:List Tree),ze6 w v vs l->sw l<=k->k<=2000000->Calls Tryz.prog 13 #[v] w (qb7 (sw l) w):=by
 intro k
 induction k using Nat.strongRecOn with
 | _ k ih =>
 intro w v vs l h hk hk2
 obtain ⟨h1,h2,h3⟩:=h
 have H2:=hh9 h2
 have H3:=hh9 h3
 have IH:=hh9 ih
 obtain ⟨n,hnn⟩:∃ n,n=l.length:=⟨_,rfl⟩
 obtain ⟨N,hN⟩:∃ N,N=sw l:=⟨_,rfl⟩
 have hlen:=qb6 l
 rw [<- hnn] at h1
 rw [<- hnn,<- hN] at hlen
 rw [<- hN] at hk ⊢
 have HNN:=hh9 hnn
 have HN:=hh9 hN
 have hN2:N<=2000000:=by omega
 clear h2 h3 ih hnn hN
 rcases h1 with ⟨h0,a,cap,rfl⟩ | ⟨g,off,cap,rfl,g1,g2,g3,g4⟩
 ·have hx0:l=[]:=List.length_eq_zero_iff.1 (by rw [<- HNN.out];exact h0)
  subst h0
  subst hx0
  obtain rfl:N=0:=by rw [HN.out];rfl
  go_enter Tryz.func13,Tryz.ntmps13
  go_wp2_with fail
  go_loop [3,4] (fun s v=>s=.int .i64 0/\v=.int .i64 0) (fun _ _=>0)
  case atStart=>exact ⟨rfl,rfl⟩
  case round =>
   obtain ⟨rfl,rfl⟩:=hrel
   go_wp2_with fail
   go_ret
   exact ⟨rfl,Below.refl _ _⟩
 ·have G4:=hh9 g4
  unfold maxLen at g2
  clear g4
  have HB0:=hh9 (Below.refl w.heap.size w)
  go_enter Tryz.func13,Tryz.ntmps13
  go_wp2_with fail
  go_loopw [3,4] (fun s v wr=>∃ (i m:Nat),s=.int .i64 m/\v=.int .i64 i/\i<=n/\Hid (m+i=n+sw (l.take i))/\Hid (Below w.heap.size w wr)) (fun _ v _=>n-(intOf v).toNat)
  case atStart=>exact ⟨0,n,rfl,rfl,by omega,by simp [Hid,sw],HB0⟩
  case round =>
   obtain ⟨i,m,rfl,rfl,hi,HM,HBEL⟩:=hrel
   have hm0:=HM.out
   have hm1:=qdx l i
   rw [<- HN.out] at hm1
   by_cases hlt:i<n
   ·obtain ⟨Y,hY⟩:∃ y,vs[i]?=some y:=⟨_,List.getElem?_eq_getElem (by rw [H2.out,<- HNN.out];exact hlt)⟩
    obtain ⟨t,ht⟩:∃ y,l[i]?=some y:=⟨_,List.getElem?_eq_getElem (by rw [<- HNN.out];exact hlt)⟩
    have CX:∀ (j:Nat) (u:Value),j<6->Y.cells[j]?=some u->wr.cell? ⟨g,off+(i*6+j),none⟩=some u:=fun j u hj hu =>
     (HBEL.out.cell (p:=⟨g,off+(i*6+j),none⟩) g3).trans (G4.out _ u ((zc9 vs i j Y hY hj).trans hu))
    have hE:=H3.out i Y t hY ht
    have hsw:=qck ht
    have hs2:=qdx l (i+1)
    rw [hsw,<- HN.out] at hs2
    obtain ⟨x,ns,lo,hi',kids,ks,kv,nv,k',hYe,hte,k1,k2,k3⟩:∃ (x ns:List Int) (lo hi':Int) (kids:List Tree) (ks:List XV) (kv nv:Value) (k':Int),Y=⟨k',za3 x,nv,lo,hi',kv⟩/\t=.mk k' x ns lo hi' kids/\ze6 w kv ks kids/\RowAny w nv ns.length (zat ns)/\x.length<=9223372036854775807:=by
     cases hE with
     | mk vs a1 a2 a3 a4 a5 a6=>exact ⟨_,_,_,_,_,_,_,_,_,rfl,rfl,⟨a4,a5,a6⟩,a3,a2⟩
    subst hYe
    have htw:t.tw=1+x.length+ns.length+sw kids:=by rw [hte,Tree.tw];rfl
    have e1:=CX 1 _ (by omega) rfl
    have e2:=CX 2 _ (by omega) rfl
    have e5:=CX 5 _ (by omega) rfl
    rw [<- Nat.add_assoc] at e1 e2 e5
    simp only [] at e1 e2 e5
    obtain ⟨a3,c3,hnv,_⟩:=k2.slice
    obtain ⟨a5,c5,hkv,_⟩:=k1.1.slice
    have HK:=hh9 (fun W (hb:Below w.heap.size w W)=>IH.out (sw kids) (by omega) W kv ks kids (k1.below hb) (Nat.le_refl _) (by omega))
    have hsz:(za3 x).size=x.length:=za9 x
    obtain ⟨s,hs⟩:∃ s,s=za3 x:=⟨_,rfl⟩
    obtain ⟨K,hK⟩:∃ K,K=sw kids:=⟨_,rfl⟩
    obtain ⟨nl,hnl⟩:∃ q,q=ns.length:=⟨_,rfl⟩
    obtain ⟨kl,hkl⟩:∃ q,q=kids.length:=⟨_,rfl⟩
    rw [<- hs] at e1 hsz
    rw [<- hsz] at htw
    rw [<- hK] at HK htw
    rw [<- hnl] at hnv htw
    rw [<- hkl] at hkv
    subst hnv hkv
    have hsz2:s.size<=2000000:=by omega
    have hnl2:nl<=2000000:=by omega
    have hK2:K<=2000000:=by omega
    have hm2:m<=4000000:=by omega
    have HNX:=hh9 (show (m+s.size+nl+K)+(i+1)=n+sw (l.take (i+1)) by omega)
    have HWR:=hh9 (show IntKind.i64.wrap (IntKind.i64.wrap (IntKind.i64.wrap ((m:Int)+(s.size:Int))+(nl:Int))+(K:Int))=((m+s.size+nl+K:Nat):Int) by
     rw [IntWalk.i64_in ((m:Int)+(s.size:Int)) ⟨by omega,by omega⟩,IntWalk.i64_in ((m:Int)+(s.size:Int)+(nl:Int)) ⟨by omega,by omega⟩,IntWalk.i64_in ((m:Int)+(s.size:Int)+(nl:Int)+(K:Int)) ⟨by omega,by omega⟩]
     omega)
    clear CX hY ht hE k1 k2 k3 hte htw hsw hs2 hm0 hm1 hs hK hnl hkl hsz
    go_wp2_with fail
    go_region_held3 (fun W'=>(W'.cell? ⟨g,off+i*6+1,none⟩=some (.string s)/\W'.cell? ⟨g,off+i*6+2,none⟩=some (.slice a3 nl c3)/\W'.cell? ⟨g,off+i*6+5,none⟩=some (.slice a5 kl c5))/\Below w.heap.size w W')
     (first | exact WtS.step (by assumption) (by assumption) | exact WtS.drew (by assumption) | exact ⟨⟨by assumption,by assumption,by assumption⟩,za7 HBEL.out 1⟩)
     (first | (go_at_call 13;refine (HK.out _ (And.right (by assumption))).mono ?_;rintro e w' ⟨rfl,hb'⟩))
    rename_i hS
    have HB2:=hh9 hS.2
    clear hS e1 e2 e5
    go_wp2_with fail
    go_roundw
    case rel=>exact ⟨i+1,m+s.size+nl+K,by first | (exact congrArg (Value.int .i64) HWR.out) | go_num,by go_num,by omega,HNX,HB2⟩
    case measure=>simp [intOf];omega
   ·have hin:i=n:=by omega
    subst hin
    have hmN:m=N:=by
     rw [HN.out]
     have e:l.take i=l:=List.take_of_length_le (by rw [<- HNN.out];omega)
     rw [e] at hm0
     omega
    subst hmN
    go_wp2_with fail
    go_ret
    exact ⟨rfl,HBEL.out⟩
def lw (l:List Rule):Nat:=(l.map zku).sum
theorem qcl {l:List Rule} {i:Nat} {t:Rule} (h:l[i]?=some t):lw (l.take (i+1))=lw (l.take i)+zku t:=by
 unfold lw
 rw [List.take_add_one,h]
 simp
theorem qdy (l:List Rule) (i:Nat):lw (l.take i)<=lw l:=by
 have h:lw l=lw (l.take i)+lw (l.drop i):=by
  unfold lw
  rw [<- List.sum_append,<- List.map_append,List.take_append_drop]
 omega
theorem qai {W:World} {X:XV} {t:Tree} (hE:ETree W X t):ze6 ((W.alloc (xobj X.kind X.lo X.hi X.text X.ns X.ks)).drew) (.slice (some ⟨W.heap.size,0,none⟩) 1 1) [X] [t]:=by
 have hb:Below W.heap.size W ((W.alloc (xobj X.kind X.lo X.hi X.text X.ns X.ks)).drew):=za7 ((Below.refl _ _).alloc (Nat.le_refl _) _) 1
 refine ⟨?_,rfl,fun i y u hy hu=>?_⟩
 ·have h:=RowAny.of_block (W:=(W.alloc (xobj X.kind X.lo X.hi X.text X.ns X.ks)).drew) (g:=W.heap.size) (n:=1) (cs:=#[.int .i64 X.kind,.string X.text,X.ns,.int .i64 X.lo,.int .i64 X.hi,X.ks]) (t:=35) (heap_alloc_new W _) (by omega)
  exact h
 ·cases i with
  | zero =>
   simp at hy hu
   subst hy hu
   exact hE.under hb
  | succ i=>simp at hy
theorem zu1 {w:World} {v:Value} {vs:List LV} {l:List Rule} (h:LinesE w v vs l) (hN2:lw l<=1048576):Calls Tryz.prog 5 #[v] w (qb7 (lw l) w):=by
 obtain ⟨h1,h2,h3⟩:=h
 have H2:=hh9 h2
 have H3:=hh9 h3
 obtain ⟨n,hnn⟩:∃ n,n=l.length:=⟨_,rfl⟩
 obtain ⟨N,hN⟩:∃ N,N=lw l:=⟨_,rfl⟩
 rw [<- hnn] at h1
 rw [<- hN] at hN2 ⊢
 have HNN:=hh9 hnn
 have HN:=hh9 hN
 clear h2 h3 hnn hN
 rcases h1 with ⟨h0,a,cap,rfl⟩ | ⟨g,off,cap,rfl,g1,g2,g3,g4⟩
 ·have hx0:l=[]:=List.length_eq_zero_iff.1 (by rw [<- HNN.out];exact h0)
  subst h0
  subst hx0
  obtain rfl:N=0:=by rw [HN.out];rfl
  go_enter Tryz.func5,Tryz.ntmps5
  go_wp2_with fail
  go_loop [3,4] (fun s v=>s=.int .i64 0/\v=.int .i64 0) (fun _ _=>0)
  case atStart=>exact ⟨rfl,rfl⟩
  case round =>
   obtain ⟨rfl,rfl⟩:=hrel
   go_wp2_with fail
   go_ret
   exact ⟨rfl,Below.refl _ _⟩
 ·have G4:=hh9 g4
  unfold maxLen at g2
  clear g4
  have HB0:=hh9 (Below.refl w.heap.size w)
  go_enter Tryz.func5,Tryz.ntmps5
  go_wp2_with fail
  go_loopw [3,4] (fun s v wr=>∃ (i m:Nat),s=.int .i64 m/\v=.int .i64 i/\i<=n/\Hid (m=lw (l.take i))/\Hid (Below w.heap.size w wr)) (fun _ v _=>n-(intOf v).toNat)
  case atStart=>exact ⟨0,0,rfl,rfl,by omega,by simp [Hid,lw],HB0⟩
  case round =>
   obtain ⟨i,m,rfl,rfl,hi,HM,HBEL⟩:=hrel
   have hm0:=HM.out
   have hm1:=qdy l i
   rw [<- HN.out] at hm1
   by_cases hlt:i<n
   ·obtain ⟨Y,hY⟩:∃ y,vs[i]?=some y:=⟨_,List.getElem?_eq_getElem (by rw [H2.out,<- HNN.out];exact hlt)⟩
    obtain ⟨t,ht⟩:∃ y,l[i]?=some y:=⟨_,List.getElem?_eq_getElem (by rw [<- HNN.out];exact hlt)⟩
    have CX:∀ (j:Nat) (u:Value),j<8->Y.cells[j]?=some u->wr.cell? ⟨g,off+(i*8+j),none⟩=some u:=fun j u hj hu =>
     (HBEL.out.cell (p:=⟨g,off+(i*8+j),none⟩) g3).trans (G4.out _ u ((zdy vs i j Y hY hj).trans hu))
    have hL:=(H3.out i Y t hY ht).under HBEL.out
    have hgw:g<wr.heap.size:=Nat.lt_of_lt_of_le g3 HBEL.out.size
    have hsw:=qcl ht
    have hs2:=qdy l (i+1)
    rw [hsw,<- HN.out] at hs2
    have htw:zku t=1+t.name.length+t.expr.tw:=rfl
    obtain ⟨en,hc,hl,em,hE⟩:=hL
    have hsz:Y.name.size=t.name.length:=by rw [en,za9]
    rw [<- hsz] at htw
    obtain ⟨K,hK⟩:∃ K,K=t.expr.tw:=⟨_,rfl⟩
    have HK:=hh9 (zu0 2000000 _ _ _ _ (qai hE) (by simp [sw];omega) (Nat.le_refl _))
    have hKs:sw [t.expr]=K:=by rw [hK];simp [sw]
    rw [hKs] at HK
    rw [<- hK] at htw
    obtain ⟨nm,mo,⟨k,s,nv,lo,hi',kv⟩⟩:=Y
    simp only [] at hsz htw HK
    have e0:=CX 0 _ (by omega) rfl
    have e2:=CX 2 _ (by omega) rfl
    have e3:=CX 3 _ (by omega) rfl
    have e4:=CX 4 _ (by omega) rfl
    have e5:=CX 5 _ (by omega) rfl
    have e6:=CX 6 _ (by omega) rfl
    have e7:=CX 7 _ (by omega) rfl
    rw [<- Nat.add_assoc] at e0 e2 e3 e4 e5 e6 e7
    rw [Nat.add_zero] at e0
    simp only [] at e0 e2 e3 e4 e5 e6 e7
    have hb1:Below w.heap.size w ((wr.alloc (xobj k lo hi' s nv kv)).drew):=za7 (HBEL.out.alloc HBEL.out.size _) 1
    have HB1:=hh9 hb1
    have f0:(wr.alloc (xobj k lo hi' s nv kv)).cell? ⟨g,off+i*8,none⟩=some (.string nm):=zbi e0 _
    have F0:Hid (((wr.alloc (xobj k lo hi' s nv kv)).drew).cell? ⟨g,off+i*8,none⟩=some (.string nm)):=f0
    unfold xobj at f0
    have hnm2:nm.size<=2000000:=by omega
    have hK2:K<=2000000:=by omega
    have hm2:m<=2000000:=by omega
    have HNX:=hh9 (show m+1+nm.size+K=lw (l.take (i+1)) by omega)
    have HWR:=hh9 (show IntKind.i64.wrap (IntKind.i64.wrap (IntKind.i64.wrap ((m:Int)+1)+(nm.size:Int))+(K:Int))=((m+1+nm.size+K:Nat):Int) by
     rw [IntWalk.i64_in ((m:Int)+1) ⟨by omega,by omega⟩,IntWalk.i64_in ((m:Int)+1+(nm.size:Int)) ⟨by omega,by omega⟩,IntWalk.i64_in ((m:Int)+1+(nm.size:Int)+(K:Int)) ⟨by omega,by omega⟩]
     omega)
    obtain ⟨M,hM⟩:∃ M,M=m+1+nm.size+K:=⟨_,rfl⟩
    rw [<- hM] at HNX HWR
    unfold xobj at HK HB1 F0
    clear CX hY ht en hc hl em hE htw hsw hs2 hm0 hm1 hK hKs hsz hb1
    go_wp2_with fail
    go_region_law (first
     | ((try go_simp);go_at_call 13;(with_reducible (refine HK.out.mono ?_));rintro e w2 ⟨rfl,hb'⟩;have F2:w2.cell? ⟨g,off+i*8,none⟩=some (.string nm):=zac (j:=off+i*8) F0.out hb';have HB2:=hh9 (za0 HB1.out hb');clear hb')
     | fail)
    all_goals
     go_wp2_with fail
     go_roundw
     case rel=>exact ⟨i+1,M,by first | (exact congrArg (Value.int .i64) HWR.out) | go_num,by go_num,by omega,HNX,HB2⟩
     case measure=>simp [intOf];omega
   ·have hin:i=n:=by omega
    subst hin
    have hmN:m=N:=by
     rw [HN.out]
     have e:l.take i=l:=List.take_of_length_le (by rw [<- HNN.out];omega)
     rw [e] at hm0
     exact hm0
    subst hmN
    go_wp2_with fail
    go_ret
    exact ⟨rfl,HBEL.out⟩
end Go.Proofs.YtekjnfldgjcgeaaGreatDoor
