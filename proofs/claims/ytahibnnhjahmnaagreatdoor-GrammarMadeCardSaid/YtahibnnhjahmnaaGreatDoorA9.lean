/- Part 9 of what the laws of the grammar rest on. -/
import Derived.Test.YtahibnnhjahmnaaGreatDoorA8
import Derived.Lib.SmallJoins
import Derived.Lib.AppendIntMem
import Derived.Laws.MakeOwn
set_option linter.all false
set_option maxRecDepth 100000
set_option maxHeartbeats 8000000
namespace Go.Proofs.YtahibnnhjahmnaaGreatDoor
open Go.RowKit
def nJ(x:List Int)(w:World)(e:Ending)(w':World):Prop:=e=.returned (.string (ak x))/\Below w.heap.size w w'
theorem qeb{a:Nat}(h:a<16):Lib.upperB (ig (gZ a))=ig (cZ a):=by
 have key:∀ i:Fin 16,Lib.upperB (ig (gZ i.val))=ig (cZ i.val):=by decide +kernel
 exact key ⟨a,h⟩
theorem QS:∀ (f n:Nat),(eX f n).map (fun c=>Lib.upperB (ig c))=(dx f n).map ig
 |0,_=>rfl
 |f+1,n=>by
  unfold eX dx;rw[List.map_append,List.map_append]
  congr 1
  ·split
   ·rfl
   ·exact QS f _
  ·simp[qeb (a:=n%16) (by omega)]
theorem qa5(f n:Nat):(eX f n).length=(dx f n).length:=by
 have:=congrArg List.length (QS f n);simpa using this
theorem WY:∀ (f n:Nat) (c:Int),c∈eX f n->48<=c/\c<=102
 |0,_,_,h=>by simp[eX]at h
 |f+1,n,c,h=>by
  unfold eX at h;rw[List.mem_append]at h;rcases h with h|h
  ·split at h
   ·simp at h
   ·exact WY f _ c h
  ·have:=WO (n:=n%16) (by omega);simp at h;omega
theorem zw9(f n:Nat):(⟨(Lib.toUpperA (ak (eX f n)).data.toList).toArray⟩:ByteArray)=ak (dx f n):=by
 rw[Ag];unfold Lib.toUpperA ak;rw[List.map_map]
 congr 2
 exact QS f n
theorem qa6(n:Int)(h0:0<=n)(hn:n<=1114111){w:World}(hB:yH w):Calls Tryz.prog 94 #[.int .i64 n] w (nJ (aL n.toNat) w):=by
 obtain⟨m,rfl⟩:∃ m:Nat,n=m:=⟨n.toNat,by omega⟩
 have hm:m<=1114111:=by omega
 rw[Int.toNat_natCast];have HF:=hh9 (zw7 m hm hB);have hlen:=qa5 6 m;have uH:=QL 6 m
 have HU:Hid (∀ W,Calls Tryz.prog 110 #[.string (ak (eX 6 m))] W (nJ (dx 6 m) W)):=fun W=>by
  have:=Tryz.strings_ToUpper_ascii (ak (eX 6 m)) W (by rw[eP];omega) (fun j b hj=>by
   rw[Ag,List.getElem?_map]at hj
   cases hc:(eX 6 m)[j]? with
   |none=>rw[hc]at hj;cases hj
   |some c =>
    rw[hc]at hj;have:=WY 6 m c (zbI hc)
    cases hj
    unfold ig;simp;omega)
  rw[zw9]at this;exact this
 obtain⟨S,hS⟩:∃ S,S=ak (eX 6 m):=⟨_,rfl⟩
 obtain⟨T,hT⟩:∃ T,T=ak (dx 6 m):=⟨_,rfl⟩
 have hTs:T.size=(dx 6 m).length:=by rw[hT,eP]
 have JM:Hid (∀ W,Calls Tryz.prog 110 #[.string S] W (fun e w'=>e=.returned (.string T)/\Below W.heap.size W w')):=by rw[hS,hT];exact HU
 have EJ:Hid (Calls Tryz.prog 111 #[.int .i64 (m:Int),.int .i64 16] w (fun e w'=>e=.returned (.string S)/\Below w.heap.size w w')):=by rw[hS];exact HF
 by_cases g:m<16
 ·have e:dx 6 m=[cZ m]:=by rw[dx,if_pos g,Nat.mod_eq_of_lt g];rfl
  have ht1:T.size=1:=by rw[hTs,e];rfl
  have ay:=hh9 (show (⟨#[48]⟩:ByteArray)++T=ak (aL m) by
   unfold aL;rw[if_pos g,hT,e,show (⟨#[48]⟩:ByteArray)=ak [48]from rfl,eT];rfl)
  clear HU HF hlen uH hS hT hTs e hB;go_enter Tryz.func94,Tryz.ntmps94;go_wp2_with fail
  refine EJ.out.mono ?_;rintro e w1 ⟨rfl,hb⟩;have HB1:=hh9 hb;clear hb;go_wp2_with fail
  refine(JM.out _).mono ?_;rintro e w2 ⟨rfl,hb⟩;have HB2:=hh9 (aJ HB1.out hb);clear hb;go_wp2_with fail
  go_ret;exact⟨congrArg (fun u=>Ending.returned (Value.string u)) ay.out,HB2.out⟩
 ·have ht2:2<=T.size:=by
   rw[hTs,dx,if_neg g]
   have:0<(dx 5 (m / 16)).length:=by
    rw[show dx 5 (m / 16)=(if m / 16<16 then [] else dx 4 (m / 16 / 16))++[cZ (m / 16%16)]from rfl];simp
   rw[zbG];show 2<=_+1
   omega
  have ht3:T.size<=6:=by omega
  have ay:=hh9 (show T=ak (aL m) by unfold aL;rw[if_neg g,hT]);have q:decide ((T.size:Int)<2)=false:=zbM (by omega);clear HU HF hlen uH hS hT hTs hB;go_enter Tryz.func94,Tryz.ntmps94;go_wp2_with fail
  refine EJ.out.mono ?_;rintro e w1 ⟨rfl,hb⟩;have HB1:=hh9 hb;clear hb;go_wp2_with fail
  refine(JM.out _).mono ?_;rintro e w2 ⟨rfl,hb⟩;have HB2:=hh9 (aJ HB1.out hb);clear hb;go_wp2_with fail
  go_ret;exact⟨congrArg (fun u=>Ending.returned (Value.string u)) ay.out,HB2.out⟩
def gJ (W : World) : Prop := yH W /\ Lib.TabIs Tryz.prog W "internal/strconv.uint64pow10" .u64 Lib.pow10Tab
theorem gJ.below{W W':World}(h:gJ W)(hb:Below W.heap.size W W'):gJ W':=⟨h.1.below hb,Go.Joins.tab_stays (g:=2) (by kernel_rfl) h.2 hb (zbA _)⟩
theorem qa7{n:Int}(h0:0<=n)(hn:n<=200):(⟨(Lib.itoa n).toArray⟩:ByteArray)=ak (fA n.toNat):=by
 have key:∀ i:Fin 201,Lib.itoa ((i.val:Nat):Int)=(fA i.val).map ig:=by decide +kernel
 have:=key ⟨n.toNat,by omega⟩;unfold ak;rw[<- this]
 congr 3
 simp;omega
theorem NH(n:Int)(h0:0<=n)(hn:n<=200){w:World}(hT:gJ w):Calls Tryz.prog 130 #[.int .i64 n] w (nJ (fA n.toNat) w):=by
 refine(Tryz.strconv_Itoa n (by omega) (by omega) w hT.2).mono ?_;rintro e w' ⟨rfl,k,os,rfl⟩;exact⟨by rw[qa7 h0 hn],Lib.below_grow _ _ (zbA _) _ _⟩
theorem WZ{lo hi:Int}(h:dN lo hi=true):0<=lo/\lo<=200/\(hi=-1\/(lo<=hi/\hi<=200)):=by
 unfold dN at h;simp at h;omega
theorem zwa{lo hi:Int}(h:dN lo hi=true){w:World}(hT:gJ w):Calls Tryz.prog 109 #[.int .i64 lo,.int .i64 hi] w (nJ (cB lo hi) w):=by
 obtain⟨h0,h1,h2⟩:=WZ h;have HT:=hh9 hT;have Aw:=fun (g:0<lo)=>EI (n:=lo) (by omega) h1
 clear h hT;by_cases g0:hi=0
 ·subst g0;have e:cB lo 0=[48]:=rfl;rw[e];clear e Aw;go_enter Tryz.func109,Tryz.ntmps109;go_wp2_with fail
  go_ret;exact⟨rfl,zbE _ _⟩
 ·have q0:(hi==0)=false:=by simp;omega
  by_cases g1:hi=lo
  ·subst g1;have gp:0<hi:=by omega
   have q1:decide (0<hi)=true:=zbN gp;have e:cB hi hi=fA hi.toNat:=by unfold cB;rw[if_neg g0,if_pos gp,if_pos rfl,List.append_nil]
   rw[e];have HI:=hh9 (NH hi (by omega) h1 HT.out);clear e Aw g0;go_enter Tryz.func109,Tryz.ntmps109;go_wp2_with fail
   refine HI.out.mono ?_;rintro e w1 ⟨rfl,hb⟩;have HB:=hh9 hb;clear hb;go_wp2_with fail
   go_ret;exact⟨rfl,HB.out⟩
  ·have q1:(hi==lo)=false:=by simp;omega
   have HE:=hh9 (show cB lo hi=(if 0<lo then fA lo.toNat else [])++([42]++(if 0<=hi then fA hi.toNat else [])) by unfold cB;rw[if_neg g0,if_neg g1]);have e42:(⟨#[42]⟩:ByteArray)=ak [42]:=rfl;have s42:(ak [42]).size=1:=rfl;by_cases gl:0<lo
   ·have ql:decide (0<lo)=true:=zbN gl;have HI:=hh9 (NH lo (by omega) h1 HT.out);obtain⟨A,hA⟩:∃ A,A=ak (fA lo.toNat):=⟨_,rfl⟩
    have hAs:A.size<=3:=by rw[hA,eP];exact Aw gl
    have HI2:Hid (Calls Tryz.prog 130 #[.int .i64 lo] w (fun e w'=>e=.returned (.string A)/\Below w.heap.size w w')):=by rw[hA];exact HI
    by_cases gh:0<=hi
    ·have qh:decide (0<=hi)=true:=zbN gh;have yJ:hi<=200:=by omega
     have JN:=EI (n:=hi) gh yJ;obtain⟨B,hB⟩:∃ B,B=ak (fA hi.toNat):=⟨_,rfl⟩
     have BQ:B.size<=3:=by rw[hB,eP];exact JN
     have HJ:Hid (∀ W,gJ W->Calls Tryz.prog 130 #[.int .i64 hi] W (fun e w'=>e=.returned (.string B)/\Below W.heap.size W w')):=fun W hW=>by rw[hB];exact NH hi gh yJ hW
     have ay:=hh9 (show (A++(⟨#[42]⟩:ByteArray))++B=ak (cB lo hi) by
      rw[HE.out,if_pos gl,if_pos gh,hA,hB,e42,eT,eT,List.append_assoc])
     clear HI hA hB JN Aw g0 g1 e42;go_enter Tryz.func109,Tryz.ntmps109;go_wp2_with fail
     refine HI2.out.mono ?_;rintro e w1 ⟨rfl,hb⟩;have HB:=hh9 hb;clear hb;go_wp2_with fail
     refine(HJ.out _ (HT.out.below HB.out)).mono ?_;rintro e w2 ⟨rfl,hb⟩;have HB2:=hh9 (aJ HB.out hb);clear hb;go_wp2_with fail
     go_ret;exact⟨congrArg (fun u=>Ending.returned (Value.string u)) ay.out,HB2.out⟩
    ·have qh:decide (0<=hi)=false:=zbM gh
     have ay:=hh9 (show A++(⟨#[42]⟩:ByteArray)=ak (cB lo hi) by
      rw[HE.out,if_pos gl,if_neg gh,hA,e42,eT,List.append_nil])
     clear HI hA Aw g0 g1 e42;go_enter Tryz.func109,Tryz.ntmps109;go_wp2_with fail
     refine HI2.out.mono ?_;rintro e w1 ⟨rfl,hb⟩;have HB:=hh9 hb;clear hb;go_wp2_with fail
     go_ret;exact⟨congrArg (fun u=>Ending.returned (Value.string u)) ay.out,HB.out⟩
   ·have ql:decide (0<lo)=false:=zbM gl;by_cases gh:0<=hi
    ·have qh:decide (0<=hi)=true:=zbN gh;have yJ:hi<=200:=by omega
     have JN:=EI (n:=hi) gh yJ;obtain⟨B,hB⟩:∃ B,B=ak (fA hi.toNat):=⟨_,rfl⟩
     have BQ:B.size<=3:=by rw[hB,eP];exact JN
     have HJ:Hid (∀ W,gJ W->Calls Tryz.prog 130 #[.int .i64 hi] W (fun e w'=>e=.returned (.string B)/\Below W.heap.size W w')):=fun W hW=>by rw[hB];exact NH hi gh yJ hW
     have ay:=hh9 (show (⟨#[42]⟩:ByteArray)++B=ak (cB lo hi) by
      rw[HE.out,if_neg gl,if_pos gh,hB,e42,eT,List.nil_append])
     clear hB JN Aw g0 g1 e42;go_enter Tryz.func109,Tryz.ntmps109;go_wp2_with fail
     refine(HJ.out _ HT.out).mono ?_;rintro e w2 ⟨rfl,hb⟩;have HB2:=hh9 hb;clear hb;go_wp2_with fail
     go_ret;exact⟨congrArg (fun u=>Ending.returned (Value.string u)) ay.out,HB2.out⟩
    ·have qh:decide (0<=hi)=false:=zbM gh
     have ay:=hh9 (show (⟨#[42]⟩:ByteArray)=ak (cB lo hi) by
      rw[HE.out,if_neg gl,if_neg gh,e42];rfl)
     clear Aw g0 g1 e42;go_enter Tryz.func109,Tryz.ntmps109;go_wp2_with fail
     go_ret;exact⟨congrArg (fun u=>Ending.returned (Value.string u)) ay.out,zbE _ _⟩
def qX(n:Nat)(xs:List (List Int)):Array Value:=(xs.map (fun x=>Value.string (ak x))++List.replicate (n-xs.length) (Value.string ⟨#[]⟩)).toArray
theorem zu8{n:Nat}{xs:List (List Int)}(h:xs.length<n)(x:List Int):(qX n xs).setIfInBounds xs.length (.string (ak x))=qX n (xs++[x]):=by
 unfold qX;obtain⟨m,hm⟩:∃ m,n-xs.length=m+1:=⟨n-xs.length-1,by omega⟩
 have e2:n-(xs++[x]).length=m:=by simp;omega
 rw[hm,e2,List.setIfInBounds_toArray]
 congr 1
 rw[List.set_append_right _ _ (by simp)];simp[List.replicate_succ]
theorem zr0{n:Nat}{xs:List (List Int)}(h:xs.length<n):(qX n xs)[xs.length]?=some (.string ⟨#[]⟩):=by
 unfold qX;rw[List.getElem?_toArray,zbL (by simp),List.length_map,Nat.sub_self,List.getElem?_replicate,if_pos (by omega)]
def TX(B n:Nat)(xs:List (List Int))(W:World):Prop:=W.heap[B]?=some (.cells (qX n xs) 9 (0,0))
theorem TX.lt{B n:Nat}{xs:List (List Int)}{W:World}(h:TX B n xs W):B<W.heap.size:=(zbD.1 h).1
theorem TX.under{B n:Nat}{xs:List (List Int)}{W W':World}(h:TX B n xs W)(hb:Below W.heap.size W W'):TX B n xs W':=(hb.block B h.lt).trans h
theorem TX.cell{B n:Nat}{xs:List (List Int)}{W:World}(h:TX B n xs W)(hl:xs.length<n):W.cell? ⟨B,xs.length,none⟩=some (.string ⟨#[]⟩):=by
 unfold TX at h;simp only[World.cell?,h];exact zr0 hl
theorem TX.frozen{B n:Nat}{xs:List (List Int)}{W:World}(h:TX B n xs W)(j:Nat):W.frozen? ⟨B,j,none⟩=false:=by
 unfold TX at h;simp[World.frozen?,h]
theorem TX.set{B n:Nat}{xs:List (List Int)}{W:World}(h:TX B n xs W)(hl:xs.length<n)(x:List Int):TX B n (xs++[x]) (W.setCell ⟨B,xs.length,none⟩ (.string (ak x))):=by
 unfold TX at h ⊢;rw[setCell_eq_setRow _ _ _ _ _ _ _ h,zu8 hl];exact setRow_heap _ _ _ _ _ _ h
theorem TX.read{B:Nat}{xs:List (List Int)}{W:World}(h:TX B xs.length xs W)(j:Nat)(x:List Int)(hx:xs[j]?=some x):W.cell? ⟨B,j,none⟩=some (.string (ak x)):=by
 unfold TX at h;simp only[World.cell?,h];unfold qX;rw[List.getElem?_toArray,zbK (by simpa using(zbF.1 hx).1)];simp[hx]
theorem qa8(s:List Int):∀ l:List (List Int),Lib.join (l.map (·.map ig)) (s.map ig)=(aO s l).map ig:=by
 intro l
 induction l with
 |nil=>rfl
 |cons x l ih =>
  cases l with
  |nil=>simp[aO,Lib.join]
  |cons y l =>
   rw[aO,List.map_append,List.map_append,<- ih];simp[Lib.join]
theorem QT{B:Nat}{xs:List (List Int)}{W:World}(h:TX B xs.length xs W)(s:List Int)(hl:(aO s xs).length<=1000000000000)(hn:xs.length<=2000000000000) :
  Calls Tryz.prog 68 #[.slice (some ⟨B,0,none⟩) xs.length xs.length,.string (ak s)] W (nJ (aO s xs) W):=by
 have e:xs.length=(xs.map ak).length:=by simp
 have hm:(xs.map ak).map (·.data.toList)=xs.map (·.map ig):=by
  rw[List.map_map];exact List.map_congr_left fun x _=>Ag x
 have hj:Lib.join ((xs.map ak).map (·.data.toList)) (ak s).data.toList=(aO s xs).map ig:=by rw[hm,Ag,qa8]
 have:=Tryz.strings_Join B 0 xs.length (xs.map ak) (ak s) W (fun j y hy=>by
  rw[List.getElem?_map]at hy
  cases hx:xs[j]? with
  |none=>rw[hx]at hy;cases hy
  |some x =>
   rw[hx]at hy
   cases hy
   rw[Nat.zero_add];exact h.read j x hx) h.lt (by rw[<- e];omega) (by rw[<- e];exact zbA _) (by rw[hj,List.length_map];omega)
 rw[hj,<- e]at this;exact this
theorem qcz:(Tryz.prog.info? 9).map (fun i=>(i.zero,i.size,i.bytes))=some (some (.string ⟨#[]⟩),1,16):=by kernel_rfl
theorem zu9(n:Nat):madeCells (Value.string ⟨#[]⟩).cells (n*1)=qX n []:=by
 unfold madeCells qX;apply Array.ext
 ·simp
 ·intro i h1 h2;simp[Value.cells,Nat.mod_one]
theorem QU(n:Nat)(hn:n<=2000000000000)(w:World):(Instr.makeSlice 35 (.int .i64 (n:Int)) (.int .i64 (n:Int))).run Tryz.prog w=.ok (.slice (some ⟨w.heap.size,0,none⟩) n n) (w.alloc (.cells (qX n []) 9)):=by
 have hi:=qcz
 cases h:Tryz.prog.info? 9 with
 |none=>rw[h]at hi;cases hi
 |some i =>
  rw[h]at hi;simp only[Option.map_some,Option.some.injEq,Prod.mk.injEq]at hi;obtain⟨h1,h2,h3⟩:=hi;have:=run_make (P:=Tryz.prog) w 35 9 i (.string ⟨#[]⟩) Tryz.underlying35 h h1 .i64 .i64 (n:Int) (n:Int) (by omega) (by omega) (by rw[h3];omega) (by omega);rw[h2,Int.toNat_natCast,zu9]at this;exact this
theorem zwb{nums:List Int}{v:Value}{w:World}(hv:au w v nums.length (dA nums))(hn:nums.all bK=true)(h1:1<=nums.length)(h2:nums.length<=10000)(hT:gJ w)(s:List Int)(hs:s.length=1) :
  Calls Tryz.prog 93 #[v,.string (ak s),.func (Fn.func 94) #[] #[]] w (nJ (aO s (nums.map fun n=>aL n.toNat)) w):=by
 rcases hv with ⟨h0,_⟩|⟨g,off,cap,rfl,g1,g2,g3,g4⟩
 ·omega
 ·have HT:=hh9 hT;have G4:=hh9 g4;have HN:=hh9 hn;obtain⟨n,hnn⟩:∃ n,n=nums.length:=⟨_,rfl⟩
  rw[<- hnn]at g1 h1 h2 ⊢;have bH:=hh9 hnn;unfold maxLen at g2;clear hT g4 hn hnn;go_enter Tryz.func93,Tryz.ntmps93;have hmk:=QU n (by omega) w;have HB0:=hh9 ((zbE w.heap.size w).alloc (zbA _) (.cells (qX n []) 9));have HX0:Hid (TX w.heap.size n [] (w.alloc (.cells (qX n []) 9))):=zbO w _;obtain⟨W0,hW0⟩:∃ W0,W0=w.alloc (.cells (qX n []) 9):=⟨_,rfl⟩
  rw[<- hW0]at hmk HB0 HX0;clear hW0;go_wp2_with fail
  go_loopw [15] (fun v wr=>∃ i:Nat,v=.int .i64 i/\i<=n/\Hid (Below w.heap.size w wr)/\Hid (TX w.heap.size n ((nums.take i).map fun n=>aL n.toNat) wr)) (fun v _=>n-(intOf v).toNat)
  case atStart=>exact⟨0,rfl,by omega,HB0,HX0⟩
  case round =>
   obtain⟨i,rfl,hi,aA,HX⟩:=hrel;clear hmk;by_cases hlt:i<n
   ·obtain⟨Z,hZ⟩:∃ z,nums[i]?=some z:=⟨_,zbC (by rw[<- bH.out];exact hlt)⟩
    have c0:=(aA.out.cell (p:=⟨g,off+i,none⟩) g3).trans (G4.out i _ (He hZ));have hz:=List.all_eq_true.1 HN.out Z (zbI hZ);unfold bK at hz;simp at hz;have HH:=hh9 (qa6 Z hz.1 hz.2 (HT.out.1.below aA.out));have hlen:((nums.take i).map fun n:Int=>aL n.toNat).length=i:=by rw[List.length_map,List.length_take,<- bH.out];omega
    have wM:=hh9 (show (nums.take (i+1)).map (fun n:Int=>aL n.toNat)=((nums.take i).map fun n:Int=>aL n.toNat)++[aL Z.toNat] by
     rw[List.take_add_one,hZ];simp)
    have HLEN:=hh9 hlen;clear hZ hz hlen;go_wp2_with fail
    refine HH.out.mono ?_;rintro e w1 ⟨rfl,hb⟩;have HB1:=hh9 (aJ aA.out hb);have hX1:=HX.out.under hb;have k0:=hX1.cell (by rw[HLEN.out];exact hlt);have k1:=hX1.frozen i;rw[HLEN.out]at k0;have wL:=hh9 (hX1.set (by rw[HLEN.out];exact hlt) (aL Z.toNat));clear hb hX1;go_wp2_with fail
    go_roundw
    case rel=>exact⟨i+1,by go_num,by omega,HB1.out.setCell (zbA _) _,by unfold Hid;have:=wL.out;rw[HLEN.out,<- wM.out]at this;exact this⟩
    case measure=>simp[intOf];omega
   ·have hin:i=n:=by omega
    subst hin
    have kF:Hid (TX w.heap.size (nums.map fun n:Int=>aL n.toNat).length (nums.map fun n:Int=>aL n.toNat) wr):=by
     have:=HX.out;rw[List.take_of_length_le (by rw[<- bH.out];omega)]at this;rw[Hid,List.length_map,<- bH.out];exact this
    have hle:(nums.map fun n:Int=>aL n.toNat).length=i:=by rw[List.length_map,<- bH.out]
    have hsl:(aO s (nums.map fun n:Int=>aL n.toNat)).length<=1000000000000:=by
     have a:=JL s (nums.map fun n:Int=>aL n.toNat);rw[List.map_map]at a
     have b:(nums.map ((fun x:List Int=>x.length+s.length) ∘ fun n:Int=>aL n.toNat)).sum<=(nums.map fun _=>7).sum:=Dw nums fun u hu=>by
      have:=NG u.toNat;simp;omega
     rw[QM,<- bH.out]at b;omega
    have HJ:=hh9 (QT kF.out s hsl (by rw[hle];omega));rw[hle]at HJ;clear hsl hle;go_wp2_with fail
    refine HJ.out.mono ?_;rintro e w1 ⟨rfl,hb⟩;have HB1:=hh9 (aJ aA.out hb);clear hb;go_wp2_with fail
    go_ret;exact⟨rfl,HB1.out⟩
def Dx(d:Nat):Prop:=∀ (W:World) (X:XV) (t:Tree),aM W X t->dK d t=true->gJ W->(aI d t).length<=1000000000000->Calls Tryz.prog 69 #[X.val] W (nJ (aI d t) W)
def Ay(W:World)(K:Nat)(xs:List Int):Prop:=∃ v,W.cell? ⟨K,0,none⟩=some v/\au W v xs.length (dA xs)
theorem Ay.below{W W':World}{K:Nat}{xs:List Int}(h:Ay W K xs)(hb:Below W.heap.size W W'):Ay W' K xs:=by
 obtain⟨v,h1,h2⟩:=h;exact⟨v,gu h1 hb,h2.below hb⟩
def zwc(xs:List Int)(w:World)(e:Ending)(w':World):Prop:=∃ K,e=.returned (.func (Fn.func 107) #[] #[.pointer (some ⟨K,0,none⟩)])/\Ay w' K xs/\Below w.heap.size w w'
theorem W9{xs:List Int}{v:Value}{w:World}(hv:au w v xs.length (dA xs)):Calls Tryz.prog 91 #[v] w (zwc xs w):=by
 obtain⟨a,cap,rfl,_⟩:=hv.slice;have hb:=(zbE w.heap.size w).alloc (zbA _) (.cells #[.slice a xs.length cap] 26);have HE:Hid (Ay (w.alloc (.cells #[.slice a xs.length cap] 26)) w.heap.size xs):=⟨.slice a xs.length cap,by simp only[World.cell?,zbO];rfl,hv.below hb⟩
 have HB:=hh9 hb;clear hb hv;go_enter Tryz.func91,Tryz.ntmps91;go_wp2_with fail
 go_ret;exact⟨w.heap.size,rfl,HE.out,HB.out⟩
theorem aM.slices{W:World}{X:XV}{t:Tree}(h:aM W X t):∃ a m ca c n cc,X.ns=.slice a m ca/\X.ks=.slice c n cc:=by
 cases h with
 |mk vs h0 hl h1 h2 h3 h4 =>
  obtain⟨a,ca,e1,_⟩:=h1.slice;obtain⟨c,cc,e2,_⟩:=h2.slice;exact⟨a,_,ca,c,_,cc,e1,e2⟩
theorem aM.size{W:World}{X:XV}{t:Tree}(h:aM W X t):∃ x ns lo hi kids,t=.mk X.kind x ns lo hi kids:=by
 cases h with|mk vs h0 hl h1 h2 h3 h4=>exact⟨_,_,_,_,_,rfl⟩
theorem Xa{d:Nat}(ih:Dx d){K:Nat}{xs:List Int}{W:World}{X:XV}{t:Tree}(h:aM W X t)(hr:dK d t=true)(hT:gJ W)(hl:(aI d t).length<=1000000000000)(hK:Ay W K xs) :
  Calls Tryz.prog 107 #[X.val,.pointer (some ⟨K,0,none⟩)] W (nJ (dD (eF xs t.kind) (aI d t)) W):=by
 obtain⟨o1,o2⟩:=h.ones;have ek:t.kind=X.kind:=by obtain⟨_,_,_,_,_,rfl⟩:=h.size;rfl
 rw[ek];have hb:=(zbE W.heap.size W).alloc (zbA _) (aB X.kind X.lo X.hi X.text X.ns X.ks);obtain⟨v,hk1,hk2⟩:=hK.below hb;have hX:=X6.new W X.kind X.lo X.hi X.text X.ns X.ks;have HI:=hh9 (fun (bb:Bool) (hbb:eF xs X.kind=bb)=>pW (X:=X) hbb o1 o2 _ v hk2);have kF:=hh9 (fun W' (hb':Below W.heap.size W W')=>ih W' X t (h.under hb') hr (hT.below hb') hl);have hsz:(ak (aI d t)).size<=1000000000000:=by rw[eP];exact hl
 obtain⟨S,hS⟩:∃ S,S=ak (aI d t):=⟨_,rfl⟩
 have BR:=hh9 (show ((⟨#[40]⟩:ByteArray)++S)++⟨#[41]⟩=ak (dD true (aI d t)) by
  rw[hS,show (⟨#[40]⟩:ByteArray)=ak [40]from rfl,show (⟨#[41]⟩:ByteArray)=ak [41]from rfl,eT,eT];rfl)
 have Dy:=hh9 (show S=ak (dD false (aI d t)) by rw[hS];rfl);have lu:Hid (∀ W',Below W.heap.size W W'->Calls Tryz.prog 69 #[X.val] W' (fun e w'=>e=.returned (.string S)/\Below W'.heap.size W' w')):=by rw[hS];exact kF
 rw[<- hS]at hsz;obtain⟨k,s,nv,lo,hi,kv⟩:=X;unfold aB at hb hX HI hk1;have HB:=hh9 hb;have HX:=hh9 hX;show Calls _ _ #[.agg #[.int .i64 k,.string s,nv,.int .i64 lo,.int .i64 hi,kv],.pointer (some ⟨K,0,none⟩)] W _
 clear hb h hK hk2 hS hT hr hl ek kF hX
 cases hp:eF xs k
 all_goals
  have HP:=hh9 (HI.out _ hp);clear hp;go_enter Tryz.func107,Tryz.ntmps107;go_wp2_with fail
  refine HP.out.mono ?_;rintro e w1 ⟨rfl,hb⟩;have HB1:=hh9 (aJ HB.out hb);obtain⟨a0,a1,a2,a3,a4,a5⟩:=(HX.out.under hb).cells;clear hb;go_wp2_with fail
  refine(lu.out _ HB1.out).mono ?_;rintro e w2 ⟨rfl,hb⟩;have HB2:=hh9 (aJ HB1.out hb);clear hb a0 a1 a2 a3 a4 a5;go_wp2_with fail
  go_ret
  first
   |exact⟨congrArg (fun u=>Ending.returned (Value.string u)) BR.out,HB2.out⟩
   |exact⟨congrArg (fun u=>Ending.returned (Value.string u)) Dy.out,HB2.out⟩
theorem zwd{d:Nat}(ih:Dx d){K:Nat}{xs:List Int}{w:World}{v:Value}{vs:List XV}{kids:List Tree}(h:pX w v vs kids)(hr:∀ t∈kids,dK d t=true)(hT:gJ w)(hl:∀ t∈kids,(aI d t).length<=1000000000000)
  (s:List Int) (hs:(aO s (kids.map fun t=>dD (eF xs t.kind) (aI d t))).length<=1000000000000) (hn1:1<=kids.length) (hn:kids.length<=2000000000000) (hK:Ay w K xs) :
  Calls Tryz.prog 90 #[v,.string (ak s),.func (Fn.func 107) #[] #[.pointer (some ⟨K,0,none⟩)]] w (nJ (aO s (kids.map fun t=>dD (eF xs t.kind) (aI d t))) w):=by
 obtain⟨h1,h2,h3⟩:=h;rcases h1 with ⟨h0,_⟩|⟨g,off,cap,rfl,g1,g2,g3,g4⟩
 ·omega
 ·have HT:=hh9 hT;have G4:=hh9 g4;have H2:=hh9 h2;have H3:=hh9 h3;have HR:=hh9 hr;have HL:=hh9 hl;have HK:=hh9 hK;have IH:=hh9 ih;have HS:=hh9 hs;obtain⟨n,hnn⟩:∃ n,n=kids.length:=⟨_,rfl⟩
  rw[<- hnn]at g1 hn1 hn ⊢;have bH:=hh9 hnn;unfold maxLen at g2;clear hT g4 h2 h3 hr hl hK ih hs hnn;have hmk:=QU n (by omega) w;have HB0:=hh9 ((zbE w.heap.size w).alloc (zbA _) (.cells (qX n []) 9));have HX0:Hid (TX w.heap.size n [] (w.alloc (.cells (qX n []) 9))):=zbO w _;obtain⟨W0,hW0⟩:∃ W0,W0=w.alloc (.cells (qX n []) 9):=⟨_,rfl⟩
  rw[<- hW0]at hmk HB0 HX0;clear hW0;go_enter Tryz.func90,Tryz.ntmps90;go_wp2_with fail
  go_loopw [15] (fun v wr=>∃ i:Nat,v=.int .i64 i/\i<=n/\Hid (Below w.heap.size w wr)/\Hid (TX w.heap.size n ((kids.take i).map fun t=>dD (eF xs t.kind) (aI d t)) wr)) (fun v _=>n-(intOf v).toNat)
  case atStart=>exact⟨0,rfl,by omega,HB0,HX0⟩
  case round =>
   obtain⟨i,rfl,hi,aA,HX⟩:=hrel;clear hmk;by_cases hlt:i<n
   ·obtain⟨Y,hY⟩:∃ y,vs[i]?=some y:=⟨_,zbC (by rw[H2.out,<- bH.out];exact hlt)⟩
    obtain⟨t,ht⟩:∃ y,kids[i]?=some y:=⟨_,zbC (by rw[<- bH.out];exact hlt)⟩
    have CX:∀ (j:Nat) (u:Value),j<6->Y.cells[j]?=some u->wr.cell? ⟨g,off+(i*6+j),none⟩=some u:=fun j u hj hu =>
     (aA.out.cell (p:=⟨g,off+(i*6+j),none⟩) g3).trans (G4.out _ u ((pV vs i j Y hY hj).trans hu))
    obtain⟨aa,am,ac,ca,cm,cc,en,ek⟩:=(H3.out i Y t hY ht).slices;have HH:=hh9 (fun W' (hb:Below w.heap.size w W')=>Xa (K:=K) (xs:=xs) IH.out ((H3.out i Y t hY ht).under hb) (HR.out t (zbI ht)) (HT.out.below hb) (HL.out t (zbI ht)) (HK.out.below hb));have hlen:((kids.take i).map fun t=>dD (eF xs t.kind) (aI d t)).length=i:=by rw[List.length_map,List.length_take,<- bH.out];omega
    have wM:=hh9 (show (kids.take (i+1)).map (fun t=>dD (eF xs t.kind) (aI d t))=((kids.take i).map fun t=>dD (eF xs t.kind) (aI d t))++[dD (eF xs t.kind) (aI d t)] by
     rw[List.take_add_one,ht];simp)
    have HLEN:=hh9 hlen;obtain⟨k,sx,nv,lo,hi',kv⟩:=Y;simp only[]at en ek;subst en ek;have e0:=CX 0 _ (by omega) rfl;have e1:=CX 1 _ (by omega) rfl;have e2:=CX 2 _ (by omega) rfl;have e3:=CX 3 _ (by omega) rfl;have e4:=CX 4 _ (by omega) rfl;have e5:=CX 5 _ (by omega) rfl;rw[<- Nat.add_assoc]at e0 e1 e2 e3 e4 e5;rw[Nat.add_zero]at e0;have hxb:=HX.out.lt;clear hY ht hlen CX;have hne:wr.heap.size≠w.heap.size:=by omega
    have HA:=hh9 (Qc aA.out (aB k lo hi' sx (.slice aa am ac) (.slice ca cm cc)));have JO:=hh9 (HX.out.under ((zbE wr.heap.size wr).alloc (zbA _) (aB k lo hi' sx (.slice aa am ac) (.slice ca cm cc))));unfold aB at HA JO;go_wp2_with fail
    refine(HH.out _ HA.out).mono ?_;rintro e w1 ⟨rfl,hb⟩;have HB1:=hh9 (aJ HA.out hb);have hX1:=JO.out.under hb;have k0:=hX1.cell (by rw[HLEN.out];exact hlt);have k1:=hX1.frozen i;rw[HLEN.out]at k0;have wL:=hh9 (hX1.set (by rw[HLEN.out];exact hlt) (dD (eF xs t.kind) (aI d t)));clear hb hX1 e0 e1 e2 e3 e4 e5;go_wp2_with fail
    go_roundw
    case rel=>exact⟨i+1,by go_num,by omega,HB1.out.setCell (zbA _) _,by unfold Hid;have:=wL.out;rw[HLEN.out,<- wM.out]at this;exact this⟩
    case measure=>simp[intOf];omega
   ·have hin:i=n:=by omega
    subst hin
    have kF:Hid (TX w.heap.size (kids.map fun t=>dD (eF xs t.kind) (aI d t)).length (kids.map fun t=>dD (eF xs t.kind) (aI d t)) wr):=by
     have:=HX.out;rw[List.take_of_length_le (by rw[<- bH.out];omega)]at this;rw[Hid,List.length_map,<- bH.out];exact this
    have hle:(kids.map fun t=>dD (eF xs t.kind) (aI d t)).length=i:=by rw[List.length_map,<- bH.out]
    have HJ:=hh9 (QT kF.out s HS.out (by rw[hle];omega));rw[hle]at HJ;clear hle;go_wp2_with fail
    refine HJ.out.mono ?_;rintro e w1 ⟨rfl,hb⟩;have HB1:=hh9 (aJ aA.out hb);clear hb;go_wp2_with fail
    go_ret;exact⟨rfl,HB1.out⟩
end Go.Proofs.YtahibnnhjahmnaaGreatDoor
namespace Go.Proofs.YtahibnnhjahmnaaGreatDoor
def Has(f:Nat->Int)(p:Nat)(x:List Int):Prop:=∀ (i:Nat) (c:Int),x[i]?=some c->f (p+i)=c
theorem Has.left{f:Nat->Int}{p:Nat}{x y:List Int}(h:Has f p (x++y)):Has f p x:=fun i c hc=>h i c (by rw[zbK (zbF.1 hc).1];exact hc)
theorem Has.right{f:Nat->Int}{p:Nat}{x y:List Int}(h:Has f p (x++y)):Has f (p+x.length) y:=fun i c hc=>by
 rw[Nat.add_assoc];exact h (x.length+i) c (by rw[zbL (by omega)];simpa using hc)
theorem Has.head{f:Nat->Int}{p:Nat}{c:Int}{x:List Int}(h:Has f p (c::x)):f p=c:=h 0 c rfl
theorem Has.tail{f:Nat->Int}{p:Nat}{c:Int}{x:List Int}(h:Has f p (c::x)):Has f (p+1) x:=fun i a hi=>by
 have:=h (i+1) a hi;rw[<- this]
 congr 1
 omega
theorem Has.run{P:Int->Bool}{f:Nat->Int}{p:Nat}{x:List Int}(h:Has f p x)(ha:x.all P=true)(hs:P (f (p+x.length))=false):jC P f p=p+x.length:=by
 refine eG.eq ⟨by omega,fun i a b=>?_,hs⟩;have hi:i-p<x.length:=by omega
 have:=h (i-p) x[i-p] (zbC hi);rw[show p+(i-p)=i by omega]at this;rw[this];exact List.all_eq_true.1 ha _ (List.getElem_mem hi)
theorem Has.cut{f:Nat->Int}{p:Nat}{x:List Int}(h:Has f p x):cut f p x.length=x:=by
 apply List.ext_getElem?;intro i;unfold Go.Proofs.YtahibnnhjahmnaaGreatDoor.cut;by_cases hi:i<x.length
 ·have:=h i x[i] (zbC hi);rw[List.getElem?_map,List.getElem?_range hi,zbC hi,Option.map_some,this]
 ·rw[List.getElem?_eq_none (by simp;omega),List.getElem?_eq_none (by omega)]
theorem Xb{c:Int}(h:kS c=true):dM c=true/\low c=c:=by
 unfold kS uw aS at h;unfold dM aH aS low;simp at h ⊢;omega
theorem qed{c:Int}(h:kZ c=true):gT c=true/\low c=c:=by
 unfold kZ at h;unfold gT low;simp at h ⊢;omega
theorem Xc{P:Int->Bool}{x:List Int}(h:x.all P=true)(hp:∀ c,P c=true->low c=c):x.map low=x:=by
 rw[List.all_eq_true]at h;have:x.map low=x.map id:=List.map_congr_left fun c hc=>hp c (h c hc)
 rw[this,List.map_id]
theorem Hf{x:List Int}(h:mF x=true):x.length<=40/\x.all kS=true/\∃ c l,x=c::l/\aH c=true:=by
 cases x with
 |nil=>cases h
 |cons c l =>
  unfold mF at h;simp only[zbJ,decide_eq_true_eq]at h;refine⟨h.1.1,h.2,c,l,rfl,?_⟩;have:=h.1.2;unfold uw at this;unfold aH;simp at this ⊢;omega
theorem Has.name{f:Nat->Int}{p:Nat}{x:List Int}(h:Has f p x)(hn:mF x=true)(hs:dM (f (p+x.length))=false):lU f p=.ok x (p+x.length):=by
 obtain⟨h1,h2,_⟩:=Hf hn;have hr:jC dM f p=p+x.length:=h.run (List.all_eq_true.2 fun c hc=>(Xb (List.all_eq_true.1 h2 c hc)).1) hs;unfold lU;rw[hr,Nat.add_sub_cancel_left,if_neg (by omega),h.cut,Xc h2 fun c hc=>(Xb hc).2]
theorem Has.quote{f:Nat->Int}{p:Nat}{x:List Int}(h:Has f p ([34]++x++[34]))(hx:x.all kZ=true):iY f p=.ok x (p+(x.length+2))/\x.map low=x:=by
 have h0:f p=34:=h.left.left.head;have h1:Has f (p+1) x:=h.left.right
 have h2:f (p+1+x.length)=34:=by
  have:=h.right.head;rw[<- this]
  congr 1
  simp;omega
 have hr:jC gT f (p+1)=p+1+x.length:=h1.run (List.all_eq_true.2 fun c hc=>(qed (List.all_eq_true.1 hx c hc)).1) (by rw[h2];decide);refine⟨?_,Xc hx fun c hc=>(qed hc).2⟩;unfold iY;rw[if_pos h0,hr,if_pos h2,Nat.add_sub_cancel_left,h1.cut]
 congr 1
 omega
theorem Xd{d:Nat}(h:d<10):iN (48+(d:Int))=d:=by unfold iN;rw[if_pos (by omega)];omega
theorem QV{d:Nat}(h:d<16):iN (cZ d)=d:=by
 unfold cZ iN;by_cases g:d<10
 ·rw[if_pos g,if_pos (by omega)];omega
 ·rw[if_neg g,if_neg (by omega),if_neg (by omega),if_pos (by omega)];omega
structure Num (b:Int) (x:List Int) (n:Int):Prop where
 pos:0<x.length
 all:x.all (bC b)=true
 is:∀ (f:Nat->Int) (p:Nat),Has f p x->val b f p x.length=n
theorem Num.one{b c m:Int}(hc:iN c=m)(hm:m<b):Num b [c] m:=by
 refine⟨by simp,by unfold bC;simp[hc,hm],fun f p h=>?_⟩;show val b f p (0+1)=m
 unfold val;rw[Nat.add_zero,h.head,hc];unfold val;omega
theorem Num.snoc{b c m n:Int}{x:List Int}(h:Num b x n)(hc:iN c=m)(hm:m<b):Num b (x++[c]) (n*b+m):=by
 refine⟨by simp,by rw[List.all_append,h.all];unfold bC;simp[hc,hm],fun f p hh=>?_⟩;rw[zbG];show val b f p (x.length+1)=_
 unfold val;rw[h.is f p hh.left,hh.right.head,hc]
theorem Xe:∀ (k n:Nat),n<10 ^ k->0<k->Num 10 (iK k n) n
 |0,n,_,h=>absurd h (by omega)
 |k+1,n,h,_=>by
  unfold iK;by_cases g:n<10
  ·rw[if_pos g,Nat.mod_eq_of_lt g];exact Num.one (Xd g) (by omega)
  ·have hk:0<k:=by
    rcases Nat.eq_zero_or_pos k with e|e
    ·subst e;simp at h;omega
    ·exact e
   have ih:=Xe k (n / 10) (by rw[Nat.pow_succ]at h;omega) hk;rw[if_neg g];have:=ih.snoc (c:=48+((n%10:Nat):Int)) (m:=((n%10:Nat):Int)) (Xd (by omega)) (by omega);rwa[show ((n / 10:Nat):Int)*10+((n%10:Nat):Int)=(n:Int) by omega]at this
theorem Xf:∀ (k n:Nat),n<16 ^ k->0<k->Num 16 (dx k n) n
 |0,n,_,h=>absurd h (by omega)
 |k+1,n,h,_=>by
  unfold dx;by_cases g:n<16
  ·rw[if_pos g,Nat.mod_eq_of_lt g];exact Num.one (QV g) (by omega)
  ·have hk:0<k:=by
    rcases Nat.eq_zero_or_pos k with e|e
    ·subst e;simp at h;omega
    ·exact e
   have ih:=Xf k (n / 16) (by rw[Nat.pow_succ]at h;omega) hk;rw[if_neg g];have:=ih.snoc (c:=cZ (n%16)) (m:=((n%16:Nat):Int)) (QV (by omega)) (by omega);rwa[show ((n / 16:Nat):Int)*16+((n%16:Nat):Int)=(n:Int) by omega]at this
theorem NI(n:Int)(h0:0<=n)(h:n<=1114111):Num 16 (aL n.toNat) n:=by
 unfold aL;by_cases g:n.toNat<16
 ·rw[if_pos g];have:=(Num.one (b:=16) (c:=48) (m:=0) (by decide) (by omega)).snoc (c:=cZ n.toNat) (m:=(n.toNat:Int)) (QV g) (by omega);rwa[show (0:Int)*16+(n.toNat:Int)=n by omega]at this
 ·rw[if_neg g];have:=Xf 6 n.toNat (by rw[show (16:Nat) ^ 6=16777216 by decide];omega) (by omega);rwa[show (n.toNat:Int)=n by omega]at this
theorem NJ(n:Int)(h0:0<=n)(h:n<=200):Num 10 (fA n.toNat) n:=by
 have:=Xe 20 n.toNat (by rw[show (10:Nat) ^ 20=100000000000000000000 by decide];omega) (by omega);rwa[show (n.toNat:Int)=n by omega]at this
theorem Num.at{b lim n:Int}{x:List Int}(h:Num b x n){f:Nat->Int}{p:Nat}(hh:Has f p x)(hs:bC b (f (p+x.length))=false)(hl:n<=lim):fC b lim f p=.ok n (p+x.length):=by
 have hr:=hh.run h.all hs;have hp:=h.pos;unfold fC;rw[hr,if_neg (by omega),Nat.add_sub_cancel_left,h.is f p hh,if_neg (by omega)]
theorem Num.dc{n:Int}{x:List Int}(h:Num 10 x n){f:Nat->Int}{p:Nat}(hh:Has f p x):aS (f p)=true:=by
 obtain⟨hp,ha,_⟩:=h
 cases x with
 |nil=>simp at hp
 |cons c l =>
  rw[hh.head];have:=List.all_eq_true.1 ha c (by simp);unfold bC at this;simp at this;unfold iN at this;unfold aS;simp;split at this
  ·omega
  ·split at this
   ·omega
   ·split at this<;>omega
theorem Xg{f:Nat->Int}{p:Nat}(h1:aS (f p)=false)(h2:f p≠42):aN f p=.ok (0,0,false) p:=by
 unfold aN;rw[h1];simp[h2];omega
theorem Xh{f:Nat->Int}{p q:Nat}{lo:Int}(h0:0<=lo)(h1:aS (f p)=true)(h:fC 10 200 f p=.ok lo q)(h2:f q≠42):aN f p=.ok (lo,lo,true) q:=by
 unfold aN;rw[h1];simp only[if_true,h];rw[if_neg h2,show max lo 0=lo by omega,zbN h0]
theorem qd0{f:Nat->Int}{p q q':Nat}{lo lo' hi:Int}(h:(if aS (f p) then fC 10 200 f p else .ok (-1) p)=.ok lo' q)(hq:f q=42)(h2:(if aS (f (q+1)) then fC 10 200 f (q+1) else .ok (-1) (q+1))=.ok hi q')(hm:max lo' 0=lo):aN f p=.ok (lo,hi,true) q':=by
 unfold aN;rw[h];simp only[];rw[if_pos hq,h2,hm]
theorem QW{c:Int}(h:aS c=false):bC 10 c=false:=by
 unfold aS at h;simp at h;unfold bC iN;simp;split
 ·omega
 ·split
  ·omega
  ·split<;>omega
theorem qee{lo hi:Int}(hc:dN lo hi=true){f:Nat->Int}{p:Nat}(h:Has f p (cB lo hi))(h1:aS (f (p+(cB lo hi).length))=false)(h2:f (p+(cB lo hi).length)≠42):aN f p=.ok (lo,hi,true) (p+(cB lo hi).length):=by
 unfold dN at hc;simp at hc;obtain⟨⟨c0,c1⟩,c2⟩:=hc;by_cases g0:hi=0
 ·have hlo:lo=0:=by omega
  subst g0 hlo;have e:cB 0 0=[48]:=rfl;rw[e]at h h1 h2 ⊢;have hn:Num 10 [48] 0:=Num.one (by decide) (by omega);exact Xh (by omega) (hn.dc h) (hn.at h (QW h1) (by omega)) h2
 ·by_cases g1:hi=lo
  ·subst g1;have e:cB hi hi=fA hi.toNat:=by unfold cB;rw[if_neg g0,if_pos (by omega),if_pos rfl,List.append_nil]
   rw[e]at h h1 h2 ⊢;have hn:=NJ hi (by omega) (by omega);exact Xh (by omega) (hn.dc h) (hn.at h (QW h1) (by omega)) h2
  ·obtain⟨u,hu⟩:∃ u,u=(if 0<lo then fA lo.toNat else []):=⟨_,rfl⟩
   obtain⟨v,hv⟩:∃ v,v=(if 0<=hi then fA hi.toNat else []):=⟨_,rfl⟩
   have e:cB lo hi=u++([42]++v):=by unfold cB;rw[if_neg g0,if_neg g1,<- hu,<- hv]
   rw[e]at h h1 h2 ⊢;have hL:(u++([42]++v)).length=u.length+1+v.length:=by simp;omega
   rw[hL]at h1 h2 ⊢;have QX:f (p+u.length)=42:=h.right.left.head;have hV:Has f (p+u.length+1) v:=h.right.right
   have a1:∃ lo',(if aS (f p) then fC 10 200 f p else .ok (-1) p)=.ok lo' (p+u.length)/\max lo' 0=lo:=by
    by_cases g2:0<lo
    ·rw[if_pos g2]at hu;subst hu;have hn:=NJ lo (by omega) (by omega);refine⟨lo,?_,by omega⟩;rw[if_pos (hn.dc h.left)];exact hn.at h.left (by rw[QX];decide) (by omega)
    ·rw[if_neg g2]at hu;subst hu;refine⟨-1,?_,by omega⟩;have:f p=42:=QX;rw[this,if_neg (by decide)];rfl
   have a2:(if aS (f (p+u.length+1)) then fC 10 200 f (p+u.length+1) else .ok (-1) (p+u.length+1))=.ok hi (p+u.length+1+v.length):=by
    by_cases g2:0<=hi
    ·rw[if_pos g2]at hv;subst hv;have hn:=NJ hi (by omega) (by omega);rw[if_pos (hn.dc hV)];refine hn.at hV ?_ (by omega);rw[show p+u.length+1+(fA hi.toNat).length=p+(u.length+1+(fA hi.toNat).length) by omega];exact QW h1
    ·rw[if_neg g2]at hv;subst hv;have:aS (f (p+u.length+1))=false:=h1;rw[this];have hh:hi=-1:=by omega
     rw[hh];rfl
   obtain⟨lo',b1,b2⟩:=a1;have:=qd0 b1 QX a2 b2;rw[this]
   congr 1
   omega
end Go.Proofs.YtahibnnhjahmnaaGreatDoor
