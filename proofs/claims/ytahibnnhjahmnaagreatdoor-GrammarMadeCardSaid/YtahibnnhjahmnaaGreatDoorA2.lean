/- Part 2 of what the laws of the grammar rest on. -/
import Derived.Test.YtahibnnhjahmnaaGreatDoorA1
set_option linter.all false
set_option maxRecDepth 100000
set_option maxHeartbeats 8000000
namespace Go.Proofs.YtahibnnhjahmnaaGreatDoor
open Go.RowKit
theorem zvr{d:Nat}(hd:d<=10)(ih:jW d):jW (d+1):=by
 intro R a v zs w D hD h hc;have hR:=h.lt;have nS:Hid (jW d):=@ih;have HZ:Hid (fM (w.alloc (.cells #[.int .i64 0,.string ⟨#[]⟩,.slice none 0 0,.int .i64 0,.int .i64 0,.slice none 0 0] 29)) w.heap.size):=zbO w _;have HP:=hh9 (h.alloc (.cells #[.int .i64 0,.string ⟨#[]⟩,.slice none 0 0,.int .i64 0,.int .i64 0,.slice none 0 0] 29));have HG:=hh9 (World.grownBy_alloc w (.cells #[.int .i64 0,.string ⟨#[]⟩,.slice none 0 0,.int .i64 0,.int .i64 0,.slice none 0 0] 29) (some R));have hk:=mE zs a (n:=12) (by omega);obtain⟨k,hk0⟩:∃ k,k=jE zs a 12:=⟨_,rfl⟩
 rw[<- hk0]at hk;have HK:=hh9 hk0;have hcr:5+3*gI d<=gI (d+1):=zbA _
 have hc0:4<=gI d:=by
  cases d with
  |zero=>decide
  |succ d=>simp only[gI];omega
 have hD1:decide (D<1)=false:=zbM (by omega);have Wi:wrap64 (D-1)=D-1:=Go.IntWalk.wrap64_in _ (by omega);have hDi:IntKind.i64.wrap (D-1)=D-1:=Jp _ (by omega);have HD:=hh9 hD;clear h hk0 ih hD;obtain g|g|g|g|g|g:k<2\/k=2\/k=3\/k=4\/(k=5\/k=6)\/7<=k:=by omega
 ·have q2:decide ((k:Int)<2)=true:=zbN (by omega);obtain⟨x,hx,hcell⟩:=Qf (jE zs (a+1) 5) (by have:=mE zs (a+1) (n:=5) (by omega);omega);have HX:=hh9 hx;clear hx;go_enter Tryz.func13,Tryz.ntmps13;go_wp2_with fail
  refine(iw (n:=12) HP.out (by omega) (by omega)).mono ?_;rintro e w1 ⟨rfl,hp,hg⟩;rw[<- HK.out];have iJ:=hh9 hp;have hz1:w.heap.size+1<=w1.heap.size:=by have:=hg.size;simp at this;omega
  have aT:=hh9 (HG.out.trans hg);have HZ1:=hh9 (HZ.out.grown hg (by omega));clear hp hg HP HG HZ;have yB:=hh9 (Dk w1 #[.string ⟨#[97]⟩,.string ⟨#[98]⟩,.string ⟨#[99]⟩,.string ⟨#[119,111,114,100]⟩,.string ⟨#[120,45,49]⟩] 9 _ hcell);have hj:=mE zs (a+1) (n:=5) (by omega);go_wp2_with fail
  refine(iw (n:=5) (iJ.out.alloc _) (by omega) (by omega)).mono ?_;rintro e w2 ⟨rfl,hp,hg⟩;have hc2:=pE yB.out hg (by simp) (by omega);obtain⟨j,hj0⟩:∃ j,j=jE zs (a+1) 5:=⟨_,rfl⟩
  rw[<- hj0]at hc2 hj ⊢;have fZ:=hh9 hp;have HG2:=hh9 ((dn aT.out _).trans hg);have HR2:=hh9 ((HZ1.out.alloc _).grown hg (by omega)).res;obtain⟨s,hs⟩:∃ s,s=ak x:=⟨_,rfl⟩
  rw[<- hs]at hc2
  have aU:Hid (dV R v zs a (gI (d+1)) (d+1) w (.returned (XV.val ⟨4,s,.slice none 0 0,0,0,.slice none 0 0⟩)) (w2.setRow w.heap.size (XV.arr ⟨4,s,.slice none 0 0,0,0,.slice none 0 0⟩))):=by
   rw[hs];exact cK (bV.leaf _ _ _ _ _ _) (.ref HX.out) (a':=a+1+1) (by omega) fZ.out HG2.out hR
  clear hp hg iJ aT HZ1 yB hcell hj0 hs;go_wp2_with (refine bA rfl _ _ rfl w.heap.size ⟨4,s,.slice none 0 0,0,0,.slice none 0 0⟩ rfl rfl HR2.out rfl rfl ?_)
  exact bodyPost_ret_by (zag rfl _ _ w.heap.size ⟨4,s,.slice none 0 0,0,0,.slice none 0 0⟩ rfl HR2.out) rfl aU.out
 ·subst g;obtain⟨x,hx,hcell⟩:=Wh (jE zs (a+1) 5) (by have:=mE zs (a+1) (n:=5) (by omega);omega);have HX:=hh9 hx;clear hx;go_enter Tryz.func13,Tryz.ntmps13;go_wp2_with fail
  refine(iw (n:=12) HP.out (by omega) (by omega)).mono ?_;rintro e w1 ⟨rfl,hp,hg⟩;rw[<- HK.out];have iJ:=hh9 hp;have hz1:w.heap.size+1<=w1.heap.size:=by have:=hg.size;simp at this;omega
  have aT:=hh9 (HG.out.trans hg);have HZ1:=hh9 (HZ.out.grown hg (by omega));clear hp hg HP HG HZ;have yB:=hh9 (Dk w1 #[.string ⟨#[]⟩,.string ⟨#[97]⟩,.string ⟨#[98,32,99]⟩,.string ⟨#[120,59]⟩,.string ⟨#[105,102]⟩] 9 _ hcell);have hj:=mE zs (a+1) (n:=5) (by omega);go_wp2_with fail
  refine(iw (n:=5) (iJ.out.alloc _) (by omega) (by omega)).mono ?_;rintro e w2 ⟨rfl,hp,hg⟩;have hc2:=pE yB.out hg (by simp) (by omega);obtain⟨j,hj0⟩:∃ j,j=jE zs (a+1) 5:=⟨_,rfl⟩
  rw[<- hj0]at hc2 hj ⊢;have fZ:=hh9 hp;have HG2:=hh9 ((dn aT.out _).trans hg);have HR2:=hh9 ((HZ1.out.alloc _).grown hg (by omega)).res;obtain⟨s,hs⟩:∃ s,s=ak x:=⟨_,rfl⟩
  rw[<- hs]at hc2
  have aU:Hid (dV R v zs a (gI (d+1)) (d+1) w (.returned (XV.val ⟨5,s,.slice none 0 0,0,0,.slice none 0 0⟩)) (w2.setRow w.heap.size (XV.arr ⟨5,s,.slice none 0 0,0,0,.slice none 0 0⟩))):=by
   rw[hs];exact cK (bV.leaf _ _ _ _ _ _) (.fold HX.out) (a':=a+1+1) (by omega) fZ.out HG2.out hR
  clear hp hg iJ aT HZ1 yB hcell hj0 hs;go_wp2_with (refine bA rfl _ _ rfl w.heap.size ⟨5,s,.slice none 0 0,0,0,.slice none 0 0⟩ rfl rfl HR2.out rfl rfl ?_)
  exact bodyPost_ret_by (zag rfl _ _ w.heap.size ⟨5,s,.slice none 0 0,0,0,.slice none 0 0⟩ rfl HR2.out) rfl aU.out
 ·subst g;obtain⟨n,hn,hcell⟩:=qc5 (jE zs (a+1) 5) (by have:=mE zs (a+1) (n:=5) (by omega);omega);have HN:=hh9 hn;clear hn;have hj:=mE zs (a+1) (n:=5) (by omega);have hm1:=mE zs (a+1+1) (n:=4) (by omega);have hm2:=mE zs (a+1+1+1) (n:=2) (by omega);go_enter Tryz.func13,Tryz.ntmps13;go_wp2_with fail
  refine(iw (n:=12) HP.out (by omega) (by omega)).mono ?_;rintro e w1 ⟨rfl,hp,hg⟩;rw[<- HK.out];have iJ:=hh9 hp;have hz1:w.heap.size+1<=w1.heap.size:=by have:=hg.size;simp at this;omega
  have aT:=hh9 (HG.out.trans hg);have HZ1:=hh9 (HZ.out.grown hg (by omega));clear hp hg HP HG HZ;have gq:=hh9 (fun W=>Dk W #[.int .i64 0,.int .i64 65,.int .i64 10,.int .i64 255,.int .i64 1114111] 3 _ hcell);clear hcell;obtain⟨j,hj0⟩:∃ j,j=jE zs (a+1) 5:=⟨_,rfl⟩
  obtain⟨m1,uo⟩:∃ j,j=jE zs (a+1+1) 4:=⟨_,rfl⟩
  obtain⟨m2,uq⟩:∃ j,j=jE zs (a+1+1+1) 2:=⟨_,rfl⟩
  rw[<- hj0]at hj gq;rw[<- uo]at hm1;rw[<- uq]at hm2;have Qg:IntKind.i64.wrap (97+(m1:Int))=97+(m1:Int):=Jp _ (by omega);have hs1:0<=1+(m2:Int):=by omega
  have hs2:1+(m2:Int)<=2:=by omega
  have hs3:(1+(m2:Int)).toNat=m2+1:=by omega
  have hwr2:IntKind.i64.wrap (1+(m2:Int))=1+(m2:Int):=Jp _ (by omega);have yC:=hh9 hj0;have yD:=hh9 uo;have tK:=hh9 uq;clear hj0 uo uq;go_wp2_with fail
  go_cut []from 37 to 51 (fun W=>∃ (X:XV) (W0:World),fM W0 w.heap.size/\W=W0.setRow w.heap.size X.arr/\dV R v zs a (gI (d+1)) (d+1) w (.returned X.val) W)
  case rest =>
   obtain⟨X,W0,hz,rfl,hM⟩:=hcut;go_wp2_with fail
   exact bodyPost_ret_by (zag rfl _ _ w.heap.size X rfl hz.res) rfl hM
  go_region_law (first
   |(go_simp;go_at_call 12;(with_reducible (refine(iw (W:=w1.drew) (n:=5) (cu.drew iJ.out) (by omega) (by omega)).mono ?_));rintro e w2 ⟨rfl,hp,hg⟩;have hz2:w1.heap.size+0<=w2.heap.size:=(by have hs:=hg.size;(try simp at hs);omega);rw[<- yC.out];have fZ:=hh9 hp;have HG2:=hh9 (nE hg (Bl aT.out));have F2:=gq.out w2;have HZ2:=hh9 (fM.grown (W:=w1.drew) HZ1.out hg (by omega));clear hp hg)
   |(go_simp;go_at_call 12;(with_reducible (refine(iw (W:=(w1.alloc (.cells #[.int .i64 0,.int .i64 65,.int .i64 10,.int .i64 255,.int .i64 1114111] 3)).drew) (n:=5) (cu.drew (cu.alloc iJ.out _)) (by omega) (by omega)).mono ?_));rintro e w2 ⟨rfl,hp,hg⟩;have hz2:w1.heap.size+1<=w2.heap.size:=(by have hs:=hg.size;(try simp at hs);omega);rw[<- yC.out];have fZ:=hh9 hp;have HG2:=hh9 (nE hg (Bl (dn aT.out _)));have F1:w2.cell? ⟨w1.heap.size,j,none⟩=some (.int .i64 n):=pE (W:=(w1.alloc (.cells #[.int .i64 0,.int .i64 65,.int .i64 10,.int .i64 255,.int .i64 1114111] 3)).drew) (gq.out w1) hg (by simp) (by omega);have HZ2:=hh9 (fM.grown (W:=(w1.alloc (.cells #[.int .i64 0,.int .i64 65,.int .i64 10,.int .i64 255,.int .i64 1114111] 3)).drew) (HZ1.out.alloc _) hg (by omega));clear hp hg)
   |(go_simp;go_at_call 12;(with_reducible (refine(iw (W:=w2) (n:=4) fZ.out (by omega) (by omega)).mono ?_));rintro e w3 ⟨rfl,hp,hg⟩;have hz3:w2.heap.size+0<=w3.heap.size:=(by have hs:=hg.size;(try simp at hs);omega);rw[<- yD.out];have jP:=hh9 hp;have aG:=hh9 (nE hg HG2.out);have F3:=gq.out w3;(try (have F4:=pE F1 hg (by omega) (by omega)));have HZ3:=hh9 (fM.grown HZ2.out hg (by omega));clear hp hg)
   |(go_simp;go_at_call 12;(with_reducible (refine(iw (W:=w2.alloc (.cells #[.int .i64 0,.int .i64 65,.int .i64 10,.int .i64 255,.int .i64 1114111] 3)) (n:=4) (cu.alloc fZ.out _) (by omega) (by omega)).mono ?_));rintro e w3 ⟨rfl,hp,hg⟩;have hz3:w2.heap.size+1<=w3.heap.size:=(by have hs:=hg.size;(try simp at hs);omega);rw[<- yD.out];have jP:=hh9 hp;have aG:=hh9 (nE hg (dn HG2.out _));have F4:=pE F2 hg (by simp) (by omega);have HZ3:=hh9 (fM.grown (HZ2.out.alloc _) hg (by omega));clear hp hg)
   |(go_simp;go_at_call 12;(with_reducible (refine(iw (W:=w3) (n:=2) jP.out (by omega) (by omega)).mono ?_));rintro e w4 ⟨rfl,hp,hg⟩;have dF:w3.heap.size+0<=w4.heap.size:=(by have hs:=hg.size;(try simp at hs);omega);rw[<- tK.out];have su:=hh9 hp;have bD:=hh9 (nE hg aG.out);have F5:=gq.out w4;(try (have F6:=pE F4 hg (by omega) (by omega)));have jJ:=hh9 (fM.grown HZ3.out hg (by omega));obtain⟨z0,z1,z2,z3,z4,z5,y0,y1,y2,y3,y4,y5⟩:=jJ.out.cells;obtain⟨t0,t1,t2,t3,t4,t5,x0,x1,x2,x3,x4,x5⟩:=(jJ.out.alloc (.cells #[.int .i64 n,.int .i64 (97+(m1:Int))] 3)).cells;obtain⟨p0,p1,p2,p3,p4,p5,r0,r1,r2,r3,r4,r5⟩:=((jJ.out.alloc (.cells #[.int .i64 0,.int .i64 65,.int .i64 10,.int .i64 255,.int .i64 1114111] 3)).alloc (.cells #[.int .i64 n,.int .i64 (97+(m1:Int))] 3)).cells;clear hp hg)
   |(go_simp;go_at_call 12;(with_reducible (refine(iw (W:=w3.alloc (.cells #[.int .i64 0,.int .i64 65,.int .i64 10,.int .i64 255,.int .i64 1114111] 3)) (n:=2) (cu.alloc jP.out _) (by omega) (by omega)).mono ?_));rintro e w4 ⟨rfl,hp,hg⟩;have dF:w3.heap.size+1<=w4.heap.size:=(by have hs:=hg.size;(try simp at hs);omega);rw[<- tK.out];have su:=hh9 hp;have bD:=hh9 (nE hg (dn aG.out _));have F6:=pE F3 hg (by simp) (by omega);have jJ:=hh9 (fM.grown (fM.alloc HZ3.out _) hg (by omega));obtain⟨z0,z1,z2,z3,z4,z5,y0,y1,y2,y3,y4,y5⟩:=jJ.out.cells;obtain⟨t0,t1,t2,t3,t4,t5,x0,x1,x2,x3,x4,x5⟩:=(jJ.out.alloc (.cells #[.int .i64 n,.int .i64 (97+(m1:Int))] 3)).cells;clear hp hg)
   |(go_simp;go_at_call 12;(with_reducible (refine(iw (W:=w3.alloc (.cells #[.int .i64 n,.int .i64 (97+(m1:Int))] 3)) (n:=2) (cu.alloc jP.out _) (by omega) (by omega)).mono ?_));rintro e w4 ⟨rfl,hp,hg⟩;have dF:w3.heap.size+1<=w4.heap.size:=(by have hs:=hg.size;(try simp at hs);omega);rw[<- tK.out];have su:=hh9 hp;have bD:=hh9 (nE hg (dn aG.out _));have jX:=hh9 ((hg.block w3.heap.size (by simp) (fun e=>by have:=zbB e;have:=jP.out.lt;omega)).trans (zbO w3 _));have jJ:=hh9 (fM.grown (fM.alloc HZ3.out _) hg (by omega));obtain⟨z0,z1,z2,z3,z4,z5,y0,y1,y2,y3,y4,y5⟩:=jJ.out.cells;clear hp hg)
   |(go_simp;go_at_call 12;(with_reducible (refine(iw (W:=(w3.alloc (.cells #[.int .i64 0,.int .i64 65,.int .i64 10,.int .i64 255,.int .i64 1114111] 3)).alloc (.cells #[.int .i64 n,.int .i64 (97+(m1:Int))] 3)) (n:=2) (cu.alloc (cu.alloc jP.out _) _) (by omega) (by omega)).mono ?_));rintro e w4 ⟨rfl,hp,hg⟩;have dF:w3.heap.size+2<=w4.heap.size:=(by have hs:=hg.size;(try simp at hs);omega);rw[<- tK.out];have su:=hh9 hp;have bD:=hh9 (nE hg (dn (dn aG.out _) _));have jX:=hh9 ((hg.block (w3.heap.size+1) (by simp) (fun e=>by have:=zbB e;have:=jP.out.lt;omega)).trans (um _ _ _ (by simp)));have jJ:=hh9 (fM.grown (fM.alloc (fM.alloc HZ3.out _) _) hg (by omega));obtain⟨z0,z1,z2,z3,z4,z5,y0,y1,y2,y3,y4,y5⟩:=jJ.out.cells;clear hp hg)
   |fail)
  all_goals first
   |(rw[Dl (W:=(w4.alloc (.cells #[.int .i64 0,.int .i64 65,.int .i64 10,.int .i64 255,.int .i64 1114111] 3)).alloc (.cells #[.int .i64 n,.int .i64 (97+(m1:Int))] 3)) (fM.alloc (fM.alloc jJ.out _) _)];have aU:=hh9 (Dm (a:=a) (c:=gI (d+1)) (d:=d+1) (m1:=m1) (m2:=m2) (w:=w) (W:=(w4.alloc (.cells #[.int .i64 0,.int .i64 65,.int .i64 10,.int .i64 255,.int .i64 1114111] 3)).alloc (.cells #[.int .i64 n,.int .i64 (97+(m1:Int))] 3)) (g:=w4.heap.size+1) HN.out (um _ _ _ (by simp)) (by omega) (by omega) (by omega) (by omega) (cu.alloc (cu.alloc su.out _) _) (dn (dn bD.out _) _) hR);(try clear z0 z1 z2 z3 z4 z5 y0 y1 y2 y3 y4 y5);(try clear t0 t1 t2 t3 t4 t5 x0 x1 x2 x3 x4 x5);(try clear p0 p1 p2 p3 p4 p5 r0 r1 r2 r3 r4 r5);(try clear F1);(try clear F2);(try clear F3);(try clear F4);(try clear F5);(try clear F6);go_wp2_with fail;go_meet;exact⟨⟨6,⟨#[]⟩,.slice (some ⟨w4.heap.size+1,0,none⟩) (m2+1) 2,0,0,.slice none 0 0⟩,_,(fM.alloc (fM.alloc jJ.out _) _),rfl,aU.out⟩)
   |(rw[Dl (W:=w4.alloc (.cells #[.int .i64 n,.int .i64 (97+(m1:Int))] 3)) (fM.alloc jJ.out _)];have aU:=hh9 (Dm (a:=a) (c:=gI (d+1)) (d:=d+1) (m1:=m1) (m2:=m2) (w:=w) (W:=w4.alloc (.cells #[.int .i64 n,.int .i64 (97+(m1:Int))] 3)) (g:=w4.heap.size) HN.out (um _ _ _ rfl) (by omega) (by omega) (by omega) (by omega) (cu.alloc su.out _) (dn bD.out _) hR);(try clear z0 z1 z2 z3 z4 z5 y0 y1 y2 y3 y4 y5);(try clear t0 t1 t2 t3 t4 t5 x0 x1 x2 x3 x4 x5);(try clear p0 p1 p2 p3 p4 p5 r0 r1 r2 r3 r4 r5);(try clear F1);(try clear F2);(try clear F3);(try clear F4);(try clear F5);(try clear F6);go_wp2_with fail;go_meet;exact⟨⟨6,⟨#[]⟩,.slice (some ⟨w4.heap.size,0,none⟩) (m2+1) 2,0,0,.slice none 0 0⟩,_,(fM.alloc jJ.out _),rfl,aU.out⟩)
   |(rw[Dl (W:=w4) jJ.out];have aU:=hh9 (Dm (a:=a) (c:=gI (d+1)) (d:=d+1) (m1:=m1) (m2:=m2) (w:=w) (W:=w4) (g:=w3.heap.size+1) HN.out jX.out (by omega) (by omega) (by omega) (by omega) su.out bD.out hR);(try clear z0 z1 z2 z3 z4 z5 y0 y1 y2 y3 y4 y5);(try clear t0 t1 t2 t3 t4 t5 x0 x1 x2 x3 x4 x5);(try clear p0 p1 p2 p3 p4 p5 r0 r1 r2 r3 r4 r5);(try clear F1);(try clear F2);(try clear F3);(try clear F4);(try clear F5);(try clear F6);go_wp2_with fail;go_meet;exact⟨⟨6,⟨#[]⟩,.slice (some ⟨w3.heap.size+1,0,none⟩) (m2+1) 2,0,0,.slice none 0 0⟩,_,jJ.out,rfl,aU.out⟩)
   |(rw[Dl (W:=w4) jJ.out];have aU:=hh9 (Dm (a:=a) (c:=gI (d+1)) (d:=d+1) (m1:=m1) (m2:=m2) (w:=w) (W:=w4) (g:=w3.heap.size) HN.out jX.out (by omega) (by omega) (by omega) (by omega) su.out bD.out hR);(try clear z0 z1 z2 z3 z4 z5 y0 y1 y2 y3 y4 y5);(try clear t0 t1 t2 t3 t4 t5 x0 x1 x2 x3 x4 x5);(try clear p0 p1 p2 p3 p4 p5 r0 r1 r2 r3 r4 r5);(try clear F1);(try clear F2);(try clear F3);(try clear F4);(try clear F5);(try clear F6);go_wp2_with fail;go_meet;exact⟨⟨6,⟨#[]⟩,.slice (some ⟨w3.heap.size,0,none⟩) (m2+1) 2,0,0,.slice none 0 0⟩,_,jJ.out,rfl,aU.out⟩)
   |fail
 ·subst g;have hn1:=mE zs (a+1) (n:=200) (by omega);have hn2:=mE zs (a+1+1) (n:=60) (by omega);go_enter Tryz.func13,Tryz.ntmps13;go_wp2_with fail
  refine(iw (n:=12) HP.out (by omega) (by omega)).mono ?_;rintro e w1 ⟨rfl,hp,hg⟩;rw[<- HK.out];have iJ:=hh9 hp;have hz1:w.heap.size+1<=w1.heap.size:=by have:=hg.size;simp at this;omega
  have aT:=hh9 (HG.out.trans hg);have HZ1:=hh9 (HZ.out.grown hg (by omega));clear hp hg HP HG HZ;obtain⟨n1,jo⟩:∃ j,j=jE zs (a+1) 200:=⟨_,rfl⟩
  obtain⟨n2,oC⟩:∃ j,j=jE zs (a+1+1) 60:=⟨_,rfl⟩
  rw[<- jo]at hn1;rw[<- oC]at hn2;have Bn:=hh9 jo;have gY:=hh9 oC;clear jo oC;go_wp2_with fail
  refine(iw (n:=200) iJ.out (by omega) (by omega)).mono ?_;rintro e w2 ⟨rfl,hp,hg⟩;rw[<- Bn.out];have fZ:=hh9 hp;have HG2:=hh9 (aT.out.trans hg);have HZ2:=hh9 (HZ1.out.grown hg (by omega));have hz2:w.heap.size+1<=w2.heap.size:=by have:=hg.size;omega
  clear hp hg iJ aT HZ1;go_wp2_with fail
  refine(iw (n:=60) fZ.out (by omega) (by omega)).mono ?_;rintro e w3 ⟨rfl,hp,hg⟩;rw[<- gY.out];have jP:=hh9 (hp.alloc (.cells #[.int .i64 (n1:Int),.int .i64 ((n1:Int)+(n2:Int))] 3));have aG:=hh9 (dn (HG2.out.trans hg) (.cells #[.int .i64 (n1:Int),.int .i64 ((n1:Int)+(n2:Int))] 3));have HZ3:=hh9 ((HZ2.out.grown hg (by omega)).alloc (.cells #[.int .i64 (n1:Int),.int .i64 ((n1:Int)+(n2:Int))] 3));have hz3:w.heap.size+1<=w3.heap.size:=by have:=hg.size;omega
  have aU:Hid (dV R v zs a (gI (d+1)) (d+1) w (.returned (XV.val ⟨7,⟨#[]⟩,.slice (some ⟨w3.heap.size,0,none⟩) 2 2,0,0,.slice none 0 0⟩)) ((w3.alloc (.cells #[.int .i64 (n1:Int),.int .i64 ((n1:Int)+(n2:Int))] 3)).setRow w.heap.size (XV.arr ⟨7,⟨#[]⟩,.slice (some ⟨w3.heap.size,0,none⟩) 2 2,0,0,.slice none 0 0⟩))) :=
   cK (bV.mk (x:=[]) (nums:=[(n1:Int),(n1:Int)+(n2:Int)]) (kids:=[]) (bq (n:=2) hz3 (um _ _ _ rfl) (by unfold maxLen;omega) rfl) (fK.nil _ _) (.inr rfl)) (.span (by omega) (by omega) (by omega)) (a':=a+1+1+1) (by omega) jP.out aG.out hR
  have HRR:=hh9 HZ3.out.res;clear hp hg fZ HG2 HZ2 jP aG HZ3;go_wp2_with (refine bA rfl _ _ rfl w.heap.size ⟨7,⟨#[]⟩,.slice (some ⟨w3.heap.size,0,none⟩) 2 2,0,0,.slice none 0 0⟩ rfl rfl HRR.out rfl rfl ?_)
  exact bodyPost_ret_by (zag rfl _ _ w.heap.size ⟨7,⟨#[]⟩,.slice (some ⟨w3.heap.size,0,none⟩) 2 2,0,0,.slice none 0 0⟩ rfl HRR.out) rfl aU.out
 ·have g1:decide ((k:Int)<2)=false:=zbM (by omega);have g2:((k:Int)==2)=false:=by simp;omega
  have g3:((k:Int)==3)=false:=by simp;omega
  have g4:((k:Int)==4)=false:=by simp;omega
  have g5:decide ((k:Int)<7)=true:=zbN (by omega);have hn1:=mE zs (a+1) (n:=5) (by omega);have hn2:=mE zs (a+1+1) (n:=3) (by omega);go_enter Tryz.func13,Tryz.ntmps13;go_wp2_with fail
  refine(iw (n:=12) HP.out (by omega) (by omega)).mono ?_;rintro e w1 ⟨rfl,hp,hg⟩;rw[<- HK.out];have iJ:=hh9 hp;have hz1:w.heap.size+1<=w1.heap.size:=by have:=hg.size;simp at this;omega
  have aT:=hh9 (HG.out.trans hg);have HZ1:=hh9 (HZ.out.grown hg (by omega));clear hp hg HP HG HZ;obtain⟨n1,jo⟩:∃ j,j=jE zs (a+1) 5:=⟨_,rfl⟩
  obtain⟨n2,oC⟩:∃ j,j=jE zs (a+1+1) 3:=⟨_,rfl⟩
  rw[<- jo]at hn1;rw[<- oC]at hn2;have Bn:=hh9 jo;have gY:=hh9 oC;clear jo oC;go_wp2_with fail
  refine(iw (n:=5) iJ.out (by omega) (by omega)).mono ?_;rintro e w2 ⟨rfl,hp,hg⟩;rw[<- Bn.out];have fZ:=hh9 hp;have HG2:=hh9 (aT.out.trans hg);have HZ2:=hh9 (HZ1.out.grown hg (by omega));have hz2:w.heap.size+1<=w2.heap.size:=by have:=hg.size;omega
  clear hp hg iJ aT HZ1;go_wp2_with fail
  refine(iw (n:=3) fZ.out (by omega) (by omega)).mono ?_;rintro e w3 ⟨rfl,hp,hg⟩;rw[<- gY.out];have jP:=hh9 hp;have aG:=hh9 (HG2.out.trans hg);have HZ3:=hh9 (HZ2.out.grown hg (by omega));have hz3:w.heap.size+1<=w3.heap.size:=by have:=hg.size;omega
  clear hp hg fZ HG2 HZ2;obtain⟨f1,f2⟩|⟨f1,f2⟩|⟨f1,f2⟩|⟨f1,f2⟩:((n1:Int)-1<0/\0<n2)\/((n1:Int)-1<0/\¬ 0<n2)\/(¬ (n1:Int)-1<0/\(n1:Int)-1<(n2:Int))\/(¬ (n1:Int)-1<0/\¬ (n1:Int)-1<(n2:Int)):=by omega
  ·go_wp2_with fail
   with_reducible refine(jW.use nS.out (D-1) (by have:=HD.out;omega) jP.out (by omega)).mono ?_
   rintro e w4 ⟨X,t,a',ht,hm,rfl,ha',hp,hg⟩;have HO:=hh9 (⟨fq ht.tree,eU ht.tree⟩:X.ns.oneCell'=true/\X.ks.oneCell'=true);have dF:w3.heap.size<=w4.heap.size:=hg.size;have HRR:=hh9 ((HZ3.out.grown hg (by omega)).alloc (.cells X.arr 29)).res
   have aU:Hid (dV R v zs a (gI (d+1)) (d+1) w (.returned (XV.val ⟨3,⟨#[]⟩,.slice none 0 0,0,(n1:Int)-1,.slice (some ⟨w4.heap.size,0,none⟩) 1 1⟩)) ((w4.alloc (.cells X.arr 29)).setRow w.heap.size (XV.arr ⟨3,⟨#[]⟩,.slice none 0 0,0,(n1:Int)-1,.slice (some ⟨w4.heap.size,0,none⟩) 1 1⟩))):=by
    refine cK (bV.mk (x:=[]) (nums:=[]) (kids:=[t]) (GZ _ _ _) (fK.one (ht.tree.weak (P':=fun b=>w.heap.size+1<=b) (fun b hb _=>by omega)) (zbA _) (by omega) (um _ _ _ rfl) (fun b _ hl=>heap_alloc_old _ _ hl) (by simp)) (.inl rfl)) (.rep (by omega) (by omega) (by omega) (by omega) (by omega) hm) (a':=a') (by omega) (hp.alloc _) (dn (aG.out.trans hg) _) hR
   clear ht hm hp hg
   go_wp2_with (first
    |(refine nR rfl _ rfl X rfl HO.out.1 HO.out.2 ?_)
    |(refine bA rfl _ _ rfl w.heap.size ⟨3,⟨#[]⟩,.slice none 0 0,0,(n1:Int)-1,.slice (some ⟨w4.heap.size,0,none⟩) 1 1⟩ rfl rfl HRR.out rfl rfl ?_))
   exact bodyPost_ret_by (zag rfl _ _ w.heap.size ⟨3,⟨#[]⟩,.slice none 0 0,0,(n1:Int)-1,.slice (some ⟨w4.heap.size,0,none⟩) 1 1⟩ rfl HRR.out) rfl aU.out
  ·go_wp2_with fail
   with_reducible refine(jW.use nS.out (D-1) (by have:=HD.out;omega) jP.out (by omega)).mono ?_
   rintro e w4 ⟨X,t,a',ht,hm,rfl,ha',hp,hg⟩;have HO:=hh9 (⟨fq ht.tree,eU ht.tree⟩:X.ns.oneCell'=true/\X.ks.oneCell'=true);have dF:w3.heap.size<=w4.heap.size:=hg.size;have HRR:=hh9 ((HZ3.out.grown hg (by omega)).alloc (.cells X.arr 29)).res
   have aU:Hid (dV R v zs a (gI (d+1)) (d+1) w (.returned (XV.val ⟨3,⟨#[]⟩,.slice none 0 0,(n2:Int),(n1:Int)-1,.slice (some ⟨w4.heap.size,0,none⟩) 1 1⟩)) ((w4.alloc (.cells X.arr 29)).setRow w.heap.size (XV.arr ⟨3,⟨#[]⟩,.slice none 0 0,(n2:Int),(n1:Int)-1,.slice (some ⟨w4.heap.size,0,none⟩) 1 1⟩))):=by
    refine cK (bV.mk (x:=[]) (nums:=[]) (kids:=[t]) (GZ _ _ _) (fK.one (ht.tree.weak (P':=fun b=>w.heap.size+1<=b) (fun b hb _=>by omega)) (zbA _) (by omega) (um _ _ _ rfl) (fun b _ hl=>heap_alloc_old _ _ hl) (by simp)) (.inl rfl)) (.rep (by omega) (by omega) (by omega) (by omega) (by omega) hm) (a':=a') (by omega) (hp.alloc _) (dn (aG.out.trans hg) _) hR
   clear ht hm hp hg
   go_wp2_with (first
    |(refine nR rfl _ rfl X rfl HO.out.1 HO.out.2 ?_)
    |(refine bA rfl _ _ rfl w.heap.size ⟨3,⟨#[]⟩,.slice none 0 0,(n2:Int),(n1:Int)-1,.slice (some ⟨w4.heap.size,0,none⟩) 1 1⟩ rfl rfl HRR.out rfl rfl ?_))
   exact bodyPost_ret_by (zag rfl _ _ w.heap.size ⟨3,⟨#[]⟩,.slice none 0 0,(n2:Int),(n1:Int)-1,.slice (some ⟨w4.heap.size,0,none⟩) 1 1⟩ rfl HRR.out) rfl aU.out
  ·go_wp2_with fail
   with_reducible refine(jW.use nS.out (D-1) (by have:=HD.out;omega) jP.out (by omega)).mono ?_
   rintro e w4 ⟨X,t,a',ht,hm,rfl,ha',hp,hg⟩;have HO:=hh9 (⟨fq ht.tree,eU ht.tree⟩:X.ns.oneCell'=true/\X.ks.oneCell'=true);have dF:w3.heap.size<=w4.heap.size:=hg.size;have HRR:=hh9 ((HZ3.out.grown hg (by omega)).alloc (.cells X.arr 29)).res
   have aU:Hid (dV R v zs a (gI (d+1)) (d+1) w (.returned (XV.val ⟨3,⟨#[]⟩,.slice none 0 0,((n1:Int)-1),(n1:Int)-1,.slice (some ⟨w4.heap.size,0,none⟩) 1 1⟩)) ((w4.alloc (.cells X.arr 29)).setRow w.heap.size (XV.arr ⟨3,⟨#[]⟩,.slice none 0 0,((n1:Int)-1),(n1:Int)-1,.slice (some ⟨w4.heap.size,0,none⟩) 1 1⟩))):=by
    refine cK (bV.mk (x:=[]) (nums:=[]) (kids:=[t]) (GZ _ _ _) (fK.one (ht.tree.weak (P':=fun b=>w.heap.size+1<=b) (fun b hb _=>by omega)) (zbA _) (by omega) (um _ _ _ rfl) (fun b _ hl=>heap_alloc_old _ _ hl) (by simp)) (.inl rfl)) (.rep (by omega) (by omega) (by omega) (by omega) (by omega) hm) (a':=a') (by omega) (hp.alloc _) (dn (aG.out.trans hg) _) hR
   clear ht hm hp hg
   go_wp2_with (first
    |(refine nR rfl _ rfl X rfl HO.out.1 HO.out.2 ?_)
    |(refine bA rfl _ _ rfl w.heap.size ⟨3,⟨#[]⟩,.slice none 0 0,((n1:Int)-1),(n1:Int)-1,.slice (some ⟨w4.heap.size,0,none⟩) 1 1⟩ rfl rfl HRR.out rfl rfl ?_))
   exact bodyPost_ret_by (zag rfl _ _ w.heap.size ⟨3,⟨#[]⟩,.slice none 0 0,((n1:Int)-1),(n1:Int)-1,.slice (some ⟨w4.heap.size,0,none⟩) 1 1⟩ rfl HRR.out) rfl aU.out
  ·go_wp2_with fail
   with_reducible refine(jW.use nS.out (D-1) (by have:=HD.out;omega) jP.out (by omega)).mono ?_
   rintro e w4 ⟨X,t,a',ht,hm,rfl,ha',hp,hg⟩;have HO:=hh9 (⟨fq ht.tree,eU ht.tree⟩:X.ns.oneCell'=true/\X.ks.oneCell'=true);have dF:w3.heap.size<=w4.heap.size:=hg.size;have HRR:=hh9 ((HZ3.out.grown hg (by omega)).alloc (.cells X.arr 29)).res
   have aU:Hid (dV R v zs a (gI (d+1)) (d+1) w (.returned (XV.val ⟨3,⟨#[]⟩,.slice none 0 0,(n2:Int),(n1:Int)-1,.slice (some ⟨w4.heap.size,0,none⟩) 1 1⟩)) ((w4.alloc (.cells X.arr 29)).setRow w.heap.size (XV.arr ⟨3,⟨#[]⟩,.slice none 0 0,(n2:Int),(n1:Int)-1,.slice (some ⟨w4.heap.size,0,none⟩) 1 1⟩))):=by
    refine cK (bV.mk (x:=[]) (nums:=[]) (kids:=[t]) (GZ _ _ _) (fK.one (ht.tree.weak (P':=fun b=>w.heap.size+1<=b) (fun b hb _=>by omega)) (zbA _) (by omega) (um _ _ _ rfl) (fun b _ hl=>heap_alloc_old _ _ hl) (by simp)) (.inl rfl)) (.rep (by omega) (by omega) (by omega) (by omega) (by omega) hm) (a':=a') (by omega) (hp.alloc _) (dn (aG.out.trans hg) _) hR
   clear ht hm hp hg
   go_wp2_with (first
    |(refine nR rfl _ rfl X rfl HO.out.1 HO.out.2 ?_)
    |(refine bA rfl _ _ rfl w.heap.size ⟨3,⟨#[]⟩,.slice none 0 0,(n2:Int),(n1:Int)-1,.slice (some ⟨w4.heap.size,0,none⟩) 1 1⟩ rfl rfl HRR.out rfl rfl ?_))
   exact bodyPost_ret_by (zag rfl _ _ w.heap.size ⟨3,⟨#[]⟩,.slice none 0 0,(n2:Int),(n1:Int)-1,.slice (some ⟨w4.heap.size,0,none⟩) 1 1⟩ rfl HRR.out) rfl aU.out
 ·have g1:decide ((k:Int)<2)=false:=zbM (by omega);have g2:((k:Int)==2)=false:=by simp;omega
  have g3:((k:Int)==3)=false:=by simp;omega
  have g4:((k:Int)==4)=false:=by simp;omega
  have g5:decide ((k:Int)<7)=false:=zbM (by omega);obtain⟨c,hkc,hc2⟩:∃ c:Nat,(k:Int)%2=(c:Int)/\c<2:=⟨k%2,by omega,by omega⟩
  have hn1:=mE zs (a+1) (n:=2) (by omega);go_enter Tryz.func13,Tryz.ntmps13;go_wp2_with fail
  refine(iw (n:=12) HP.out (by omega) (by omega)).mono ?_;rintro e w1 ⟨rfl,hp,hg⟩;rw[<- HK.out];have iJ:=hh9 hp;have hz1:w.heap.size+1<=w1.heap.size:=by have:=hg.size;simp at this;omega
  have aT:=hh9 (HG.out.trans hg);have HZ1:=hh9 (HZ.out.grown hg (by omega));clear hp hg HP HG HZ;obtain⟨n1,jo⟩:∃ j,j=jE zs (a+1) 2:=⟨_,rfl⟩
  rw[<- jo]at hn1;have Bn:=hh9 jo;clear jo;have jq:Hid (bg (w1.alloc (.cells #[.int .i64 0,.string ⟨#[]⟩,.slice none 0 0,.int .i64 0,.int .i64 0,.slice none 0 0] 29)) w1.heap.size):=⟨_,rfl,zbO w1 _⟩
  have HE2:Hid (tJ ((w1.alloc (.cells #[.int .i64 0,.string ⟨#[]⟩,.slice none 0 0,.int .i64 0,.int .i64 0,.slice none 0 0] 29)).setRow w1.heap.size #[.int .i64 (1+(c:Int)),.string ⟨#[]⟩,.slice none 0 0,.int .i64 0,.int .i64 0,.slice none 0 0]) w1.heap.size (1+(c:Int)) (.slice none 0 0)):=setRow_heap _ _ _ _ _ _ (zbO w1 _);have fZ:Hid (cu ((w1.alloc (.cells #[.int .i64 0,.string ⟨#[]⟩,.slice none 0 0,.int .i64 0,.int .i64 0,.slice none 0 0] 29)).setRow w1.heap.size #[.int .i64 (1+(c:Int)),.string ⟨#[]⟩,.slice none 0 0,.int .i64 0,.int .i64 0,.slice none 0 0]) R v zs (a+1)):=(iJ.out.alloc _).aj (by omega) _;have HG2:Hid (w.grownBy ((w1.alloc (.cells #[.int .i64 0,.string ⟨#[]⟩,.slice none 0 0,.int .i64 0,.int .i64 0,.slice none 0 0] 29)).setRow w1.heap.size #[.int .i64 (1+(c:Int)),.string ⟨#[]⟩,.slice none 0 0,.int .i64 0,.int .i64 0,.slice none 0 0]) (some R)):=dY (dn aT.out _) (by omega) _;have HZ2:Hid (fM ((w1.alloc (.cells #[.int .i64 0,.string ⟨#[]⟩,.slice none 0 0,.int .i64 0,.int .i64 0,.slice none 0 0] 29)).setRow w1.heap.size #[.int .i64 (1+(c:Int)),.string ⟨#[]⟩,.slice none 0 0,.int .i64 0,.int .i64 0,.slice none 0 0]) w.heap.size):=(setRow_other _ _ _ _ (by omega)).trans (HZ1.out.alloc _);obtain⟨E,hE⟩:∃ E,E=w1.heap.size:=⟨_,rfl⟩
  have hEw:w.heap.size+1<=E:=by omega
  go_wp2_with (refine bA rfl _ _ rfl w1.heap.size ⟨1+(c:Int),⟨#[]⟩,.slice none 0 0,0,0,.slice none 0 0⟩ rfl rfl jq.out rfl rfl ?_)
  simp only[XV.arr];obtain⟨w2,hw2⟩:∃ W,W=(w1.alloc (.cells #[.int .i64 0,.string ⟨#[]⟩,.slice none 0 0,.int .i64 0,.int .i64 0,.slice none 0 0] 29)).setRow w1.heap.size #[.int .i64 (1+(c:Int)),.string ⟨#[]⟩,.slice none 0 0,.int .i64 0,.int .i64 0,.slice none 0 0]:=⟨_,rfl⟩
  rw[<- hw2]at HE2 fZ HG2 HZ2 ⊢;rw[<- hE]at HE2 ⊢;clear hw2 jq iJ aT HZ1 hz1 hE
  with_reducible refine(iw (n:=2) fZ.out (by omega) (by omega)).mono ?_
  rintro e w3 ⟨rfl,hp,hg⟩;rw[<- Bn.out];have hsz:=hg.size;have hEl:=HE2.out.lt
  have Jr:Hid (Many R v zs a w w3 E (1+(c:Int)) d (2+n1) (2+n1) [] (.slice none 0 0) (a+1+1)) :=
   ⟨HE2.out.kept (hg.block E hEl (fun e=>by have:=zbB e;omega)),fK.nil _ _,by simp,by simp,hp,by simp,HG2.out.trans hg,HZ2.out.grown hg (by omega),hEw⟩
  clear hp hg HE2 fZ HG2 HZ2 hsz hEl;go_wp2_with fail
  go_loopw [9] (fun v9 wr=>∃ (i:Nat) (l:List Tree) (ks:Value) (a':Nat),v9=.int .i64 i/\Hid (Many R v zs a w wr E (1+(c:Int)) d (2+n1) i l ks a')) (fun v9 _=>(intOf v9).toNat)
  case atStart=>exact⟨2+n1,[],_,_,by go_num,Jr⟩
  case round =>
   clear Jr;obtain⟨i,l,ks,a',rfl,HM⟩:=hrel;have G6:=HM.out.2.2.1;have ha1:=HM.out.2.2.2.2.2.1;have hlm:l.length*gI d<=(3-i)*gI d:=Nat.mul_le_mul_right _ (by omega);by_cases hi:0<i
   ·obtain⟨j,hj⟩:∃ j,i=j+1:=⟨i-1,by omega⟩
    have Qh:Hid (Many R v zs a w wr E (1+(c:Int)) d (2+n1) (j+1) l ks a'):=by rw[<- hj];exact HM.out
    have q1:decide ((0:Int)<(i:Int))=true:=zbN (by omega);have Js:=hh9 HM.out.2.2.2.2.1
    have qK:Hid (a'+gI d<=1000000):=by
     have h3:(3-i)*gI d<=2*gI d:=Nat.mul_le_mul_right _ (by omega);unfold Hid;omega
    have Qi:Hid (D-1=(d:Int)):=by have:=HD.out;unfold Hid;omega
    obtain⟨r0,r1⟩:=HM.out.1.five;obtain⟨vs,h1,h2,h3⟩:=HM.out.2.1;have H1:=hh9 h1;have H2:=hh9 h2;have H3:=hh9 h3;have hll:l.length<=3:=by omega
    have hEl:=HM.out.1.lt;obtain⟨i0,hi0,hi1⟩:=Option.map_eq_some_iff.1 Jl;obtain⟨hy0,hy1,hy2⟩:i0.zero=some _/\i0.size=6/\i0.bytes=_:=by simpa using hi1
    have yE:Hid (l.length+1<=maxLen):=by unfold Hid maxLen;omega
    have HL2:Hid ((l.length+1)*88<=140737488355328):=by unfold Hid;omega
    clear h1 h2 h3 hi1 HM hlm;go_wp2_with fail
    go_region_law (first
     |(refine step_append_lies _ (by rfl) _ _ _ (by rfl) (E+1) 29 i0 _ 6 88 Tryz.underlying27 hi0 hy0 hy1 hy2 rfl (by omega) ks l.length (vs.flatMap XV.cells) (by rfl) HOW.out ⟨w5.heap.size,0,none⟩ 1 1 [.int .i64 kx,.string sx,.slice b1 m1 c1,.int .i64 lx,.int .i64 hx,.slice b2 m2 c2] (by rfl) (by rfl) (World.news_of_block (cs:=#[.int .i64 kx,.string sx,.slice b1 m1 c1,.int .i64 lx,.int .i64 hx,.slice b2 m2 c2]) (t:=29) (fr:=(0,0)) (zbO w5 _)) (by simp[Value.oneCell']) (by omega) yE.out HL2.out Bo.out (w5.heap.size+1) (by simp) ?_;intro gg cap w6 hown hgrow hat Ey;have Wj:=hh9 (Many.push (X:=⟨kx,sx,.slice b1 m1 c1,lx,hx,.slice b2 m2 c2⟩) Qh.out hR HT.out Ez.out HA.out nG.out rM.out H1.out H2.out H3.out hown hgrow (hat.elim (fun h=>.inl h.symm) (fun h=>.inr ⟨gg,rfl,by rw[h];simp⟩)));obtain⟨v0,v1⟩:=Wj.out.1.five;clear hown hgrow hat)
     |(go_simp;go_at_call 13;(with_reducible (refine(jW.fields (w:=wr.drew) nS.out (D-1) Qi.out (cu.drew Js.out) qK.out).mono ?_));rintro e w5 ⟨kx,lx,hx,sx,b1,b2,m1,c1,m2,c2,t,a'',ht,hm,rfl,ha,hp,hg⟩;have HT:=hh9 ht;have Ez:=hh9 hm;have HA:=hh9 ha;have nG:=hh9 hp;have rM:Hid (wr.grownBy w5 (some R)):=⟨hg.os,hg.tape,hg.output,hg.size,hg.block⟩;have hzz:wr.heap.size<=w5.heap.size:=hg.size;obtain⟨t0,t1⟩:=(Qh.out.1.kept (rM.out.block E hEl (fun e=>by have:=zbB e;omega))).five;obtain⟨p0,p1⟩:=(Qh.out.1.kept ((zbP w5 (.cells #[.int .i64 kx,.string sx,.slice b1 m1 c1,.int .i64 lx,.int .i64 hx,.slice b2 m2 c2] 29) E (by omega)).trans (rM.out.block E hEl (fun e=>by have:=zbB e;omega)))).five;have HOW:Hid ((w5.alloc (.cells #[.int .i64 kx,.string sx,.slice b1 m1 c1,.int .i64 lx,.int .i64 hx,.slice b2 m2 c2] 29)).ownsRow (E+1) 29 6 ks l.length (vs.flatMap XV.cells)):=dI H2.out (fun b hb hl=>by rw[zbP _ _ _ (by omega),rM.out.block b hl (fun e=>by have:=zbB e;omega)]);have Bo:Hid (E+1<=(w5.alloc (.cells #[.int .i64 kx,.string sx,.slice b1 m1 c1,.int .i64 lx,.int .i64 hx,.slice b2 m2 c2] 29)).heap.size):=(by unfold Hid;simp;omega);clear ht hm ha hp hg)
     |fail)
    all_goals
     go_wp2_with fail
     go_roundw
     case rel=>exact⟨j,l++[t],_,a'',by go_num,Wj.out.2⟩
     case measure=>simp[intOf];omega
   ·obtain rfl:i=0:=by omega
    have oD:=hh9 HM.out.1;have Wm:=hh9 HM.out.2.2.2.2.2.2.2.1.res;have HKK:=hh9 (eU (HM.out.2.1.tree 0 0 0))
    have aU:Hid (dV R v zs a (gI (d+1)) (d+1) w (.returned (XV.val ⟨1+(c:Int),⟨#[]⟩,.slice none 0 0,0,0,ks⟩)) (wr.setRow w.heap.size (XV.arr ⟨1+(c:Int),⟨#[]⟩,.slice none 0 0,0,0,ks⟩))):=by
     obtain⟨e1,e2,e3,e4,e5,e6,e7,e8,e9⟩:=HM.out;have h3:l.length*gI d<=3*gI d:=Nat.mul_le_mul_right _ (by omega);exact cK (bV.mk (x:=[]) (nums:=[]) (kids:=l) (GZ _ _ _) (e2.lower (by omega)) (.inl rfl)) (.many (by omega) (by omega) (by omega) e4) (a':=a') (by omega) e5 e7 hR
    clear hlm HM
    go_wp2_with (first
     |(refine mO rfl _ rfl E ⟨1+(c:Int),⟨#[]⟩,.slice none 0 0,0,0,ks⟩ rfl oD.out ?_)
     |(refine bA rfl _ _ rfl w.heap.size ⟨1+(c:Int),⟨#[]⟩,.slice none 0 0,0,0,ks⟩ rfl rfl Wm.out rfl HKK.out ?_))
    exact bodyPost_ret_by (zag rfl _ _ w.heap.size ⟨1+(c:Int),⟨#[]⟩,.slice none 0 0,0,0,ks⟩ rfl Wm.out) rfl aU.out
theorem Wn:∀ d:Nat,d<=10->jW d
 |0,_=>zvq
 |d+1,h=>zvr (by omega) (Wn d (by omega))
theorem Wo{W W':World}{base size n:Nat}{e:TypeId}{v:Value}{xs:List Value}(h:W.ownsRow base e size v n xs)(hk:∀ g,v.ownBlock=some g->g<W.heap.size->W'.heap[g]?=W.heap[g]?):W'.ownsRow base e size v n xs:=by
 refine⟨h.1,?_⟩;rcases h.2 with hn|⟨g,cap,cur,rfl,hb,hg,rest⟩
 ·exact .inl hn
 ·exact .inr ⟨g,cap,cur,rfl,hb,(hk g rfl (zbD.1 hg).1).trans hg,rest⟩
theorem Wp{W:World}{base size n:Nat}{e:TypeId}{v:Value}{xs:List Value}(h:W.ownsRow base e size v n xs){base':Nat}(hb:base'<=base):W.ownsRow base' e size v n xs:=by
 refine⟨h.1,?_⟩;rcases h.2 with hn|⟨g,cap,cur,hv,hg,rest⟩
 ·exact .inl hn
 ·exact .inr ⟨g,cap,cur,hv,by omega,rest⟩
theorem EA{W:World}{base size n:Nat}{e:TypeId}{v:Value}{xs:List Value}(h:W.ownsRow base e size v n xs){g:Nat}(hg:v.ownBlock=some g):base<=g/\g<W.heap.size:=by
 rcases fB h with ⟨rfl,_⟩|⟨k,cap,rfl⟩
 ·simp[Value.ownBlock]at hg
 ·have:=iX h;simp[Value.ownBlock]at hg;omega
theorem Wq{W:World}{P:Nat->Prop}{base size n:Nat}{e:TypeId}{v:Value}{xs:List Value}(h:W.ownsRow base e size v n xs)(hP:∀ g,v.ownBlock=some g->P g)(he:KV e:=by unfold KV;decide):mW W P v n xs:=by
 rcases fB h with h0|⟨g,cap,rfl⟩
 ·exact .inl h0
 ·obtain⟨hb,hc,hm,hg⟩:=iX h;refine .inr ⟨g,cap,rfl,hc,hm,hP g rfl,hg,?_,fun j u hj=>eZ h hj⟩;rcases h.2 with ⟨hn,_⟩|⟨g',cap',cur,hv,_,hblk,_⟩
  ·cases hn
  ·simp at hv;obtain⟨rfl,_⟩:=hv;exact⟨_,_,he,hblk⟩
inductive qL (W:World) (P:Nat->Prop):XV->Tree->Prop
 |mk {k lo hi:Int} {x nums:List Int} {kids:List Tree} {ns ks:Value} (vs:List XV):W.ownsRow 0 3 1 ns nums.length (dA nums)->(∀ g,ns.ownBlock=some g->P g)->vs.length=kids.length ->
   W.ownsRow 0 29 6 ks kids.length (vs.flatMap XV.cells)->(∀ g,ks.ownBlock=some g->P g)->(∀ (i:Nat) (y:XV) (t:Tree),vs[i]?=some y->kids[i]?=some t->av W (fun b=>P b/\some b≠ks.ownBlock) y t) ->
   (ns=.slice none 0 0\/ks=.slice none 0 0)->qL W P ⟨k,ak x,ns,lo,hi,ks⟩ (.mk k x nums lo hi kids)
theorem qL.kept{W W':World}{P P':Nat->Prop}{X:XV}{t:Tree}(h:qL W P X t)(hk:∀ b,P b->b<W.heap.size->W'.heap[b]?=W.heap[b]?/\P' b)(hs:W.heap.size<=W'.heap.size):qL W' P' X t:=by
 cases h with
 |mk vs h1 h2 h3 h4 h5 h6 h7 =>
  exact .mk vs (Wo h1 (fun g hg hl=>(hk g (h2 g hg) hl).1)) (fun g hg=>(hk g (h2 g hg) (EA h1 hg).2).2) h3 (Wo h4 (fun g hg hl=>(hk g (h5 g hg) hl).1)) (fun g hg=>(hk g (h5 g hg) (EA h4 hg).2).2)
   (fun i y t hy ht=>(h6 i y t hy ht).kept (fun b hP hl=>⟨(hk b hP.1 hl).1,(hk b hP.1 hl).2,hP.2⟩) hs) h7
theorem qL.tree{W:World}{P:Nat->Prop}{X:XV}{t:Tree}(h:qL W P X t):av W P X t:=by
 cases h with
 |mk vs h1 h2 h3 h4 h5 h6 h7=>exact .mk vs (Wq h1 h2) (Wq h4 h5) h3 (fun i y t hy ht=>(h6 i y t hy ht).weak (fun b hP _=>hP.1))
theorem bV.top{W:World}{m:Nat}{X:XV}{t:Tree}(h:bV W m X t):qL W (fun b=>m<=b) X t:=by
 cases h with
 |mk h1 h2 h3 =>
  obtain⟨vs,g1,g2,g3⟩:=h2;exact .mk vs (Wp h1 (Nat.zero_le _)) (fun g hg=>(EA h1 hg).1) g1 (Wp g2 (Nat.zero_le _)) (fun g hg=>(EA g2 hg).1) g3 h3
def LT(W:World)(base:Nat)(v:Value)(l:List Rule)(ys:List LV):Prop :=
 ys.length=l.length/\W.ownsRow base 31 8 v l.length (ys.flatMap LV.cells) /\
  (∀ (i:Nat) (y:LV) (r:Rule),ys[i]?=some y->l[i]?=some r->tH W (fun b=>base<=b/\some b≠v.ownBlock) y r) /\
  (∀ (y:LV) (r:Rule),ys[0]?=some y->l[0]?=some r->qL W (fun b=>base<=b/\some b≠v.ownBlock) y.expr r.expr /\
   ∀ (i:Nat) (y':LV) (r':Rule),0<i->ys[i]?=some y'->l[i]?=some r'->av W (fun b=>(base<=b/\some b≠v.ownBlock)/\some b≠y.expr.ns.ownBlock/\some b≠y.expr.ks.ownBlock) y'.expr r'.expr)
theorem LT.nil(W:World)(base:Nat):LT W base (.slice none 0 0) [] []:=⟨rfl,World.ownsRow_nil _ _ _ _,fun i y r h=>by simp at h,fun y r h=>by simp at h⟩
theorem LT.kept{W W':World}{base:Nat}{v:Value}{l:List Rule}{ys:List LV}(h:LT W base v l ys)(hk:∀ b,base<=b->b<W.heap.size->W'.heap[b]?=W.heap[b]?)(hs:W.heap.size<=W'.heap.size):LT W' base v l ys:=by
 obtain⟨h1,h2,h3,h4⟩:=h
 exact⟨h1,dI h2 hk,fun i y r hy hr=>(h3 i y r hy hr).kept (fun b hP hl=>⟨hk b hP.1 hl,hP⟩) hs,
  fun y r hy hr=>⟨(h4 y r hy hr).1.kept (fun b hP hl=>⟨hk b hP.1 hl,hP⟩) hs,fun i y' r' hi hy' hr'=>((h4 y r hy hr).2 i y' r' hi hy' hr').kept (fun b hP hl=>⟨hk b hP.1.1 hl,hP⟩) hs⟩⟩
theorem LT.at{W:World}{base:Nat}{v:Value}{l:List Rule}{ys:List LV}(h:LT W base v l ys):jD W base v l:=⟨ys,h.1,h.2.1,h.2.2.1⟩
theorem LT.push{wr W W':World}{base m:Nat}{v v':Value}{l:List Rule}{ys:List LV}{x:LV}{t:Rule}(h:LT wr base v l ys)
  (hk:∀ b,base<=b->b<wr.heap.size->W.heap[b]?=wr.heap[b]?) (hs:wr.heap.size<=W.heap.size) (hx:bV W m x.expr t.expr) (hm:wr.heap.size<=m) (hb:base<=m) (hn:x.name=ak t.name/\x.more=t.more)
  (hown:W'.ownsRow base 31 8 v' (l.length+1) (ys.flatMap LV.cells++x.cells)) (hg:W.grownBy W' v.ownBlock) (hat:v'.ownBlock=v.ownBlock\/∃ k,v'.ownBlock=some k/\W.heap.size<=k):LT W' base v' (l++[t]) (ys++[x]):=by
 have hvl:∀ g,v.ownBlock=some g->g<wr.heap.size:=fun g hv=>(EA h.2.1 hv).2
 obtain⟨h1,h2,h3,h4⟩:=h.kept hk hs
 -- what lies apart from the row stays apart
 have hP:∀ b,(base<=b/\some b≠v.ownBlock)->b<W.heap.size->W'.heap[b]?=W.heap[b]?/\(base<=b/\some b≠v'.ownBlock):=fun b hb hl=>by
  refine⟨hg.block b hl hb.2,hb.1,?_⟩;rcases hat with e|⟨k,e,hk⟩
  ·rw[e];exact hb.2
  ·rw[e];intro e';have:=zbB e';omega
 have Ws:qL W (fun b=>base<=b/\some b≠v.ownBlock) x.expr t.expr:=hx.top.kept (fun b hb' _=>⟨rfl,by omega,fun e=>by have:=hvl b e.symm;omega⟩) (zbA _);refine⟨by simp[h1],by simpa using hown,fun i y r hy hr=>?_,fun y r hy hr=>?_⟩
 ·by_cases hi:i<l.length
  ·rw[zbK (by omega)]at hy;rw[zbK hi]at hr;exact(h3 i y r hy hr).kept hP hg.size
  ·have hi0:i=l.length:=by
    have:=(zbF.1 hr).1;simp at this;omega
   subst hi0;rw[zbL (by omega),h1]at hy;rw[zbL (by omega)]at hr;simp at hy hr;subst hy hr;exact⟨hn.1,hn.2,Ws.tree.kept hP hg.size⟩
 ·by_cases hl0:l.length=0
  ·have hy0:ys=[]:=List.length_eq_zero_iff.1 (by omega);have hr0:l=[]:=List.length_eq_zero_iff.1 hl0;subst hy0 hr0;simp at hy hr;subst hy hr;refine⟨Ws.kept hP hg.size,fun i y' r' hi hy' hr'=>?_⟩;have:=(zbF.1 hr').1;simp at this;omega
  ·rw[zbK (by omega)]at hy;rw[zbK (by omega)]at hr;obtain⟨g1,g2⟩:=h4 y r hy hr;refine⟨g1.kept hP hg.size,fun i y' r' hi hy' hr'=>?_⟩;have Wt:∀ b,((base<=b/\some b≠v.ownBlock)/\some b≠y.expr.ns.ownBlock/\some b≠y.expr.ks.ownBlock)->b<W.heap.size->W'.heap[b]?=W.heap[b]?/\((base<=b/\some b≠v'.ownBlock)/\some b≠y.expr.ns.ownBlock/\some b≠y.expr.ks.ownBlock):=fun b hb hl=>⟨(hP b hb.1 hl).1,(hP b hb.1 hl).2,hb.2⟩
   by_cases hi2:i<l.length
   ·rw[zbK (by omega)]at hy';rw[zbK hi2]at hr';exact(g2 i y' r' hi hy' hr').kept Wt hg.size
   ·have hi0:i=l.length:=by
     have:=(zbF.1 hr').1;simp at this;omega
    subst hi0;rw[zbL (by omega),h1]at hy';rw[zbL (by omega)]at hr';simp at hy' hr';subst hy' hr';obtain⟨f1,f2,f3,f4⟩:=h;obtain⟨g5,_⟩:=f4 y r hy hr
    -- the first one's own blocks are older than the call
    have hold:(∀ g,y.expr.ns.ownBlock=some g->g<wr.heap.size)/\∀ g,y.expr.ks.ownBlock=some g->g<wr.heap.size:=by
     revert g5;generalize y.expr=Y;generalize r.expr=T;intro g5
     cases g5 with
     |mk vs k1 k2 k3 k4 k5 k6 k7=>exact⟨fun g hg=>(EA k1 hg).2,fun g hg=>(EA k4 hg).2⟩
    refine(hx.tree.kept (P':=fun b=>(base<=b/\some b≠v.ownBlock)/\some b≠y.expr.ns.ownBlock/\some b≠y.expr.ks.ownBlock) (fun b hb' _=>⟨rfl,⟨by omega,fun e=>by have:=hvl b e.symm;omega⟩,fun e=>by have:=hold.1 b e.symm;omega,fun e=>by have:=hold.2 b e.symm;omega⟩) (zbA _)).kept Wt hg.size
end Go.Proofs.YtahibnnhjahmnaaGreatDoor
