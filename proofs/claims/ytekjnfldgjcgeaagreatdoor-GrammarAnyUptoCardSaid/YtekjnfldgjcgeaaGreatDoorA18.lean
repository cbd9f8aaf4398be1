/- Part 18 of what the laws of the grammar rest on. -/
import Derived.Test.YtekjnfldgjcgeaaGreatDoorA13
import Derived.Test.YtekjnfldgjcgeaaGreatDoorA17
import Derived.Defers
import Derived.Recover
import Derived.Laws.Pointers
set_option linter.all false
set_option maxRecDepth 100000
set_option maxHeartbeats 8000000
namespace Go.Proofs.YtekjnfldgjcgeaaGreatDoor
open Go.RowKit
theorem zrk:∀ k,zgu 140 .alts k:=by
 intro k
 induction k using Nat.strongRecOn with
 | _ k ih=>exact zw0 (zvz (zzc (zw1 ih)))
def zw2 (R:Nat) (s:ByteArray) (d:Nat) (g:Got Rule) (w:World) (e:Ending) (w':World):Prop :=
 match g with
 | .ok r q=>∃ y:LV,zej w' (fun b=>w.heap.size<=b) y r/\q<=s.size/\zob R s d y.val q w e w'
 | .err c=>zq4 R c w e w'
def zw3 (R:Nat) (s:ByteArray) (d p:Nat) (w:World) (e:Ending) (w':World):Prop:=∃ r:Got Rule,RuleAt (rd s) p r/\zw2 R s d r w e w'
theorem zzd {R p:Nat} {s:ByteArray} {w:World} (h:At w R s p 0) (hs:s.size<=50000) (hp:p<=s.size) :
  Calls Tryz.prog 113 #[.pointer (some ⟨R,0,none⟩)] w (zw3 R s 0 p w):=by
 have hR:=h.lt
 have h1:=zh8 w
 have h2:=zh8 (w.alloc (.cells #[.string ⟨#[]⟩,.bool false,.int .i64 0,.string ⟨#[]⟩,.slice none 0 0,.int .i64 0,.int .i64 0,.slice none 0 0] 37))
 have hsz:(w.alloc (.cells #[.string ⟨#[]⟩,.bool false,.int .i64 0,.string ⟨#[]⟩,.slice none 0 0,.int .i64 0,.int .i64 0,.slice none 0 0] 37)).heap.size=w.heap.size+1:=by simp
 rw [hsz] at h2
 have HL0:=hh9 (zln h1 (.cells #[.string ⟨#[]⟩,.bool false,.int .i64 0,.string ⟨#[]⟩,.slice none 0 0,.int .i64 0,.int .i64 0,.slice none 0 0] 37))
 have HL1:=hh9 h2
 have HA:=hh9 ((h.alloc (.cells #[.string ⟨#[]⟩,.bool false,.int .i64 0,.string ⟨#[]⟩,.slice none 0 0,.int .i64 0,.int .i64 0,.slice none 0 0] 37)).alloc (.cells #[.string ⟨#[]⟩,.bool false,.int .i64 0,.string ⟨#[]⟩,.slice none 0 0,.int .i64 0,.int .i64 0,.slice none 0 0] 37))
 have HG:=hh9 (zao (World.grownBy_alloc w (.cells #[.string ⟨#[]⟩,.bool false,.int .i64 0,.string ⟨#[]⟩,.slice none 0 0,.int .i64 0,.int .i64 0,.slice none 0 0] 37) (some R)) (.cells #[.string ⟨#[]⟩,.bool false,.int .i64 0,.string ⟨#[]⟩,.slice none 0 0,.int .i64 0,.int .i64 0,.slice none 0 0] 37))
 have hz0:w.heap.size+2<=((w.alloc (.cells #[.string ⟨#[]⟩,.bool false,.int .i64 0,.string ⟨#[]⟩,.slice none 0 0,.int .i64 0,.int .i64 0,.slice none 0 0] 37)).alloc (.cells #[.string ⟨#[]⟩,.bool false,.int .i64 0,.string ⟨#[]⟩,.slice none 0 0,.int .i64 0,.int .i64 0,.slice none 0 0] 37)).heap.size:=by simp
 clear h h1 h2 hsz
 cases hn:zcc (rd s) p with
 | err c =>
  have HE:=hh9 hn
  clear hn
  go_enter Tryz.func113,Tryz.ntmps113
  go_wp2_with fail
  refine (zh9 HA.out hs hp).mono ?_
  rw [HE.out]
  rintro e w1 ⟨rfl,hg⟩
  have HG1:=hh9 (HG.out.trans hg)
  clear hg
  go_wp2_with fail
  exact ⟨rfl,_,.name HE.out,rfl,HG1.out⟩
 | ok x q =>
  have HE:=hh9 hn
  have hq0:=(zem hp hn).2
  clear hn
  go_enter Tryz.func113,Tryz.ntmps113
  go_wp2_with fail
  refine (zh9 HA.out hs hp).mono ?_
  rw [HE.out]
  rintro e w1 ⟨_,rfl,ha,hg⟩
  have hz1:w.heap.size+2<=w1.heap.size:=Nat.le_trans hz0 hg.size
  have hl1:=HL1.out.grown hg (by omega)
  obtain ⟨c0,z0⟩:=hl1.cell 0 _ rfl
  have HLa:=hh9 ((HL0.out.grown hg (by omega)).other (j:=0) (k:=w.heap.size+1) (.string (za3 x)) (by omega))
  have HLb:=hh9 (hl1.set (j:=0) (.string (za3 x)))
  have HA1:Hid (At (w1.setCell ⟨w.heap.size+1,0,none⟩ (.string (za3 x))) R s q 0):=(Below.heap_setCell _ _ _ _ (show R≠w.heap.size+1 by omega)).trans ha
  have HG1:Hid (w.grownBy (w1.setCell ⟨w.heap.size+1,0,none⟩ (.string (za3 x))) (some R)):=by
   have h3:=HG.out.trans hg
   exact ⟨h3.os,h3.tape,h3.output,by simpa using h3.size,fun k hk hne=>(Below.heap_setCell _ _ _ _ (show k≠w.heap.size+1 by omega)).trans (h3.block k hk hne)⟩
  have hz2:w.heap.size+2<=(w1.setCell ⟨w.heap.size+1,0,none⟩ (.string (za3 x))).heap.size:=by simp;omega
  clear ha hg hl1 HL0 HL1 HA HG
  go_wp2_with fail
  obtain ⟨w2,hw2⟩:∃ y,y=w1.setCell ⟨w.heap.size+1,0,none⟩ (.string (za3 x)):=⟨_,rfl⟩
  rw [<- hw2] at HLa HLb HA1 HG1 hz2 ⊢
  clear hw2 c0 z0
  refine (zf8 HA1.out hs hq0).mono ?_
  rintro e w3 ⟨q1,hsk,hle,hls,rfl,ha,hg⟩
  have HSK:=hh9 hsk.eq
  have hz3:w.heap.size+2<=w3.heap.size:=Nat.le_trans hz2 hg.size
  have HLa3:=hh9 (HLa.out.grown hg (by omega))
  have HLb3:=hh9 (HLb.out.grown hg (by omega))
  have HA3:=hh9 ha
  have HG3:=hh9 (HG1.out.trans hg)
  clear hsk ha hg HLa HLb HA1 HG1
  by_cases h61:rd s q1=61
  ·have H61:Hid (rd s (zad (rd s) q)=61):=by rw [HSK.out];exact h61
   have H61b:=hh9 h61
   have hlt:=zbu (by omega) h61
   clear h61
   go_wp2_with fail
   refine (zb1 HA3.out hs 61 (by omega) H61b.out).mono ?_
   rintro e w4 ⟨rfl,ha,hg⟩
   have hz4:w.heap.size+2<=w4.heap.size:=Nat.le_trans hz3 hg.size
   have HLa4:=hh9 (HLa3.out.grown hg (by omega))
   have HLb4:=hh9 (HLb3.out.grown hg (by omega))
   have HA4:=hh9 ha
   have HG4:=hh9 (HG3.out.trans hg)
   clear ha hg HLa3 HLb3 HA3 HG3
   by_cases h47:rd s (q1+1)=47
   ·have H47:=hh9 h47
    have HEQ:Hid (eqAt (rd s) q=q1+2/\decide (rd s (zad (rd s) q+1)=47)=true):=by
     unfold eqAt;rw [HSK.out,if_pos h47];exact ⟨rfl,by simpa using h47⟩
    have hlt2:=zbu (by omega) h47
    clear h47
    go_wp2_with fail
    refine (zca HA4.out hs 47 (by omega) H47.out).mono ?_
    rintro e w5 ⟨rfl,ha,hg⟩
    have hz5:w.heap.size+2<=w5.heap.size:=Nat.le_trans hz4 hg.size
    have hl5:=HLb4.out.grown hg (by omega)
    obtain ⟨c0,z0⟩:=hl5.cell 1 _ rfl
    have HLa5:=hh9 ((HLa4.out.grown hg (by omega)).other (j:=1) (k:=w.heap.size+1) (.bool true) (by omega))
    have HLb5:=hh9 (hl5.set (j:=1) (.bool true))
    have HA5:Hid (At (w5.setCell ⟨w.heap.size+1,1,none⟩ (.bool true)) R s (q1+2) 0):=(Below.heap_setCell _ _ _ _ (show R≠w.heap.size+1 by omega)).trans ha
    have HG5:Hid (w.grownBy (w5.setCell ⟨w.heap.size+1,1,none⟩ (.bool true)) (some R)):=by
     have h3:=HG4.out.trans hg
     exact ⟨h3.os,h3.tape,h3.output,by simpa using h3.size,fun k hk hne=>(Below.heap_setCell _ _ _ _ (show k≠w.heap.size+1 by omega)).trans (h3.block k hk hne)⟩
    have hz6:w.heap.size+2<=(w5.setCell ⟨w.heap.size+1,1,none⟩ (.bool true)).heap.size:=by simp;omega
    clear ha hg hl5 HLa4 HLb4 HA4 HG4
    go_wp2_with fail
    obtain ⟨w6,hw6⟩:∃ y,y=w5.setCell ⟨w.heap.size+1,1,none⟩ (.bool true):=⟨_,rfl⟩
    rw [<- hw6] at HLa5 HLb5 HA5 HG5 hz6 ⊢
    clear hw6 c0 z0
    refine (zf8 HA5.out hs (by omega)).mono ?_
    rintro e w7 ⟨q3,hsk,hle3,hls3,rfl,ha,hg⟩
    have HSK3:Hid (zad (rd s) (eqAt (rd s) q)=q3):=by rw [HEQ.out.1];exact hsk.eq
    have hz7:w.heap.size+2<=w7.heap.size:=Nat.le_trans hz6 hg.size
    have HLa7:=hh9 (HLa5.out.grown hg (by omega))
    have HLb7:=hh9 (HLb5.out.grown hg (by omega))
    have HA7:=hh9 ha
    have HG7:=hh9 (HG5.out.trans hg)
    clear hsk ha hg HLa5 HLb5 HA5 HG5
    go_wp2_with fail
    refine (zrk _ HA7.out hs hls3 (by omega) (Nat.le_refl _)).mono ?_
    rintro e w8 ⟨r,hans,hgv⟩
    cases r with
    | err c =>
     obtain ⟨rfl,hg⟩:=hgv
     have HANS:Hid (Ans (rd s) .alts 0 (zad (rd s) (eqAt (rd s) q)) (.err c)):=by rw [HSK3.out];exact hans
     have HG8:=hh9 (HG7.out.trans hg)
     clear hans hg
     go_wp2_with fail
     exact ⟨rfl,_,.err HE.out H61.out HANS.out,rfl,HG8.out⟩
    | ok t q4 =>
     obtain ⟨X,ht,hqs4,rfl,ha,hg⟩:=hgv
     have HANS:Hid (Ans (rd s) .alts 0 (zad (rd s) (eqAt (rd s) q)) (.ok t q4)):=by rw [HSK3.out];exact hans
     have h2:=zaa ht
     have h5:=zab ht
     have H2:=hh9 h2
     have H5:=hh9 h5
     have hz8:w.heap.size+2<=w8.heap.size:=Nat.le_trans hz7 hg.size
     have HLb8:=hh9 (HLb7.out.grown hg (by omega))
     have HLb9:Hid (zcn (w8.setRow (w.heap.size+1) (LV.arr ⟨za3 x,true,X⟩)) (w.heap.size+1) (LV.arr ⟨za3 x,true,X⟩)):=HLb8.out.row _ rfl
     have HLa9:Hid (zcn (w8.setRow (w.heap.size+1) (LV.arr ⟨za3 x,true,X⟩)) w.heap.size zvr):=(HLa7.out.grown hg (by omega)).orow _ (by omega)
     have HA9:Hid (At (w8.setRow (w.heap.size+1) (LV.arr ⟨za3 x,true,X⟩)) R s q4 0):=ha.set_row (by omega) _
     have HG9:Hid (w.grownBy (w8.setRow (w.heap.size+1) (LV.arr ⟨za3 x,true,X⟩)) (some R)):=zae (HG7.out.trans hg) (by omega) _
     have HT9:Hid (TreeAt (w8.setRow (w.heap.size+1) (LV.arr ⟨za3 x,true,X⟩)) (fun b=>w.heap.size+2<=b) X t):=(ht.weak (P':=fun b=>w.heap.size+2<=b) (fun b hP _=>by omega)).set_row (fun b hP=>by omega) _
     have hz9:w.heap.size+2<=(w8.setRow (w.heap.size+1) (LV.arr ⟨za3 x,true,X⟩)).heap.size:=by simp;omega
     clear hans ha hg ht h2 h5 HLa7 HLb7 HA7 HG7
     go_wp2_with (refine zef rfl _ _ rfl (w.heap.size+1) X _ _ _ rfl rfl HLb8.out (zlp true) H2.out H5.out ?_)
     obtain ⟨w9,hw9⟩:∃ y,y=w8.setRow (w.heap.size+1) (LV.arr ⟨za3 x,true,X⟩):=⟨_,rfl⟩
     show Calls _ _ _ (w8.setRow (w.heap.size+1) (LV.arr ⟨za3 x,true,X⟩)) _
     rw [<- hw9] at HLb9 HLa9 HA9 HG9 HT9 hz9 ⊢
     clear hw9 HLb8
     cases hle:zas (rd s) q4 with
     | none =>
      have HLE:=hh9 hle
      clear hle
      refine (zi3 HA9.out hs hqs4 HLE.out).mono ?_
      rintro e w10 ⟨rfl,hg⟩
      have HG10:=hh9 (HG9.out.trans hg)
      clear hg
      go_wp2_with fail
      exact ⟨rfl,_,.noEnd HE.out H61.out HANS.out HLE.out,rfl,HG10.out⟩
     | some e0 =>
      have HLE:=hh9 hle
      have he0:=(zda hqs4 hle).2
      clear hle
      refine (zgt HA9.out hs hqs4 HLE.out).mono ?_
      rintro e w10 ⟨rfl,ha,hg⟩
      have HLa10:=hh9 (HLa9.out.grown hg (by omega))
      have HLb10:=hh9 (HLb9.out.grown hg (by omega))
      have HA10:=hh9 ha
      have HG10:=hh9 (HG9.out.trans hg)
      have HT10:=hh9 (HT9.out.kept (P':=fun b=>w.heap.size+2<=b) (fun b hP hl=>⟨hg.block b hl (fun e=>by have:=Option.some.inj e;omega),hP⟩) hg.size)
      clear ha hg HLa9 HLb9 HA9 HG9 HT9
      go_wp2_with (first
       | (refine zd5 rfl _ rfl (w.heap.size+1) ⟨za3 x,true,X⟩ rfl HLb10.out ?_)
       | (refine zck rfl _ _ rfl w.heap.size ⟨za3 x,true,X⟩ _ rfl rfl HLa10.out H2.out H5.out ?_))
      refine bodyPost_ret_by (zds rfl _ _ w.heap.size ⟨za3 x,true,X⟩ _ rfl HLa10.out) rfl ⟨_,.ok HE.out H61.out HANS.out HLE.out,⟨za3 x,true,X⟩,⟨rfl,HEQ.out.2.symm,?_⟩,he0,rfl,HA10.out.set_row (by omega) _,zae HG10.out (Nat.le_refl _) _⟩
      exact (HT10.out.set_row (fun b hb=>by omega) _).weak (fun b hb _=>by omega)
   ·have H47:=hh9 h47
    have HEQ:Hid (eqAt (rd s) q=q1+1/\decide (rd s (zad (rd s) q+1)=47)=false):=by
     unfold eqAt;rw [HSK.out,if_neg h47];exact ⟨rfl,by simpa using h47⟩
    clear h47
    go_wp2_with fail
    refine (zci HA4.out hs hlt 47 (by omega) H47.out).mono ?_
    rintro e w5 ⟨rfl,ha,hg⟩
    have hz5:w.heap.size+2<=w5.heap.size:=Nat.le_trans hz4 hg.size
    have hl5:=HLb4.out.grown hg (by omega)
    obtain ⟨c0,z0⟩:=hl5.cell 1 _ rfl
    have HLa5:=hh9 ((HLa4.out.grown hg (by omega)).other (j:=1) (k:=w.heap.size+1) (.bool false) (by omega))
    have HLb5:=hh9 (hl5.set (j:=1) (.bool false))
    have HA5:Hid (At (w5.setCell ⟨w.heap.size+1,1,none⟩ (.bool false)) R s (q1+1) 0):=(Below.heap_setCell _ _ _ _ (show R≠w.heap.size+1 by omega)).trans ha
    have HG5:Hid (w.grownBy (w5.setCell ⟨w.heap.size+1,1,none⟩ (.bool false)) (some R)):=by
     have h3:=HG4.out.trans hg
     exact ⟨h3.os,h3.tape,h3.output,by simpa using h3.size,fun k hk hne=>(Below.heap_setCell _ _ _ _ (show k≠w.heap.size+1 by omega)).trans (h3.block k hk hne)⟩
    have hz6:w.heap.size+2<=(w5.setCell ⟨w.heap.size+1,1,none⟩ (.bool false)).heap.size:=by simp;omega
    clear ha hg hl5 HLa4 HLb4 HA4 HG4
    go_wp2_with fail
    obtain ⟨w6,hw6⟩:∃ y,y=w5.setCell ⟨w.heap.size+1,1,none⟩ (.bool false):=⟨_,rfl⟩
    rw [<- hw6] at HLa5 HLb5 HA5 HG5 hz6 ⊢
    clear hw6 c0 z0
    refine (zf8 HA5.out hs (by omega)).mono ?_
    rintro e w7 ⟨q3,hsk,hle3,hls3,rfl,ha,hg⟩
    have HSK3:Hid (zad (rd s) (eqAt (rd s) q)=q3):=by rw [HEQ.out.1];exact hsk.eq
    have hz7:w.heap.size+2<=w7.heap.size:=Nat.le_trans hz6 hg.size
    have HLa7:=hh9 (HLa5.out.grown hg (by omega))
    have HLb7:=hh9 (HLb5.out.grown hg (by omega))
    have HA7:=hh9 ha
    have HG7:=hh9 (HG5.out.trans hg)
    clear hsk ha hg HLa5 HLb5 HA5 HG5
    go_wp2_with fail
    refine (zrk _ HA7.out hs hls3 (by omega) (Nat.le_refl _)).mono ?_
    rintro e w8 ⟨r,hans,hgv⟩
    cases r with
    | err c =>
     obtain ⟨rfl,hg⟩:=hgv
     have HANS:Hid (Ans (rd s) .alts 0 (zad (rd s) (eqAt (rd s) q)) (.err c)):=by rw [HSK3.out];exact hans
     have HG8:=hh9 (HG7.out.trans hg)
     clear hans hg
     go_wp2_with fail
     exact ⟨rfl,_,.err HE.out H61.out HANS.out,rfl,HG8.out⟩
    | ok t q4 =>
     obtain ⟨X,ht,hqs4,rfl,ha,hg⟩:=hgv
     have HANS:Hid (Ans (rd s) .alts 0 (zad (rd s) (eqAt (rd s) q)) (.ok t q4)):=by rw [HSK3.out];exact hans
     have h2:=zaa ht
     have h5:=zab ht
     have H2:=hh9 h2
     have H5:=hh9 h5
     have hz8:w.heap.size+2<=w8.heap.size:=Nat.le_trans hz7 hg.size
     have HLb8:=hh9 (HLb7.out.grown hg (by omega))
     have HLb9:Hid (zcn (w8.setRow (w.heap.size+1) (LV.arr ⟨za3 x,false,X⟩)) (w.heap.size+1) (LV.arr ⟨za3 x,false,X⟩)):=HLb8.out.row _ rfl
     have HLa9:Hid (zcn (w8.setRow (w.heap.size+1) (LV.arr ⟨za3 x,false,X⟩)) w.heap.size zvr):=(HLa7.out.grown hg (by omega)).orow _ (by omega)
     have HA9:Hid (At (w8.setRow (w.heap.size+1) (LV.arr ⟨za3 x,false,X⟩)) R s q4 0):=ha.set_row (by omega) _
     have HG9:Hid (w.grownBy (w8.setRow (w.heap.size+1) (LV.arr ⟨za3 x,false,X⟩)) (some R)):=zae (HG7.out.trans hg) (by omega) _
     have HT9:Hid (TreeAt (w8.setRow (w.heap.size+1) (LV.arr ⟨za3 x,false,X⟩)) (fun b=>w.heap.size+2<=b) X t):=(ht.weak (P':=fun b=>w.heap.size+2<=b) (fun b hP _=>by omega)).set_row (fun b hP=>by omega) _
     have hz9:w.heap.size+2<=(w8.setRow (w.heap.size+1) (LV.arr ⟨za3 x,false,X⟩)).heap.size:=by simp;omega
     clear hans ha hg ht h2 h5 HLa7 HLb7 HA7 HG7
     go_wp2_with (refine zef rfl _ _ rfl (w.heap.size+1) X _ _ _ rfl rfl HLb8.out (zlp false) H2.out H5.out ?_)
     obtain ⟨w9,hw9⟩:∃ y,y=w8.setRow (w.heap.size+1) (LV.arr ⟨za3 x,false,X⟩):=⟨_,rfl⟩
     show Calls _ _ _ (w8.setRow (w.heap.size+1) (LV.arr ⟨za3 x,false,X⟩)) _
     rw [<- hw9] at HLb9 HLa9 HA9 HG9 HT9 hz9 ⊢
     clear hw9 HLb8
     cases hle:zas (rd s) q4 with
     | none =>
      have HLE:=hh9 hle
      clear hle
      refine (zi3 HA9.out hs hqs4 HLE.out).mono ?_
      rintro e w10 ⟨rfl,hg⟩
      have HG10:=hh9 (HG9.out.trans hg)
      clear hg
      go_wp2_with fail
      exact ⟨rfl,_,.noEnd HE.out H61.out HANS.out HLE.out,rfl,HG10.out⟩
     | some e0 =>
      have HLE:=hh9 hle
      have he0:=(zda hqs4 hle).2
      clear hle
      refine (zgt HA9.out hs hqs4 HLE.out).mono ?_
      rintro e w10 ⟨rfl,ha,hg⟩
      have HLa10:=hh9 (HLa9.out.grown hg (by omega))
      have HLb10:=hh9 (HLb9.out.grown hg (by omega))
      have HA10:=hh9 ha
      have HG10:=hh9 (HG9.out.trans hg)
      have HT10:=hh9 (HT9.out.kept (P':=fun b=>w.heap.size+2<=b) (fun b hP hl=>⟨hg.block b hl (fun e=>by have:=Option.some.inj e;omega),hP⟩) hg.size)
      clear ha hg HLa9 HLb9 HA9 HG9 HT9
      go_wp2_with (first
       | (refine zd5 rfl _ rfl (w.heap.size+1) ⟨za3 x,false,X⟩ rfl HLb10.out ?_)
       | (refine zck rfl _ _ rfl w.heap.size ⟨za3 x,false,X⟩ _ rfl rfl HLa10.out H2.out H5.out ?_))
      refine bodyPost_ret_by (zds rfl _ _ w.heap.size ⟨za3 x,false,X⟩ _ rfl HLa10.out) rfl ⟨_,.ok HE.out H61.out HANS.out HLE.out,⟨za3 x,false,X⟩,⟨rfl,HEQ.out.2.symm,?_⟩,he0,rfl,HA10.out.set_row (by omega) _,zae HG10.out (Nat.le_refl _) _⟩
      exact (HT10.out.set_row (fun b hb=>by omega) _).weak (fun b hb _=>by omega)
  ·have H61:Hid (rd s (zad (rd s) q)≠61):=by rw [HSK.out];exact h61
   have H61b:=hh9 h61
   clear h61
   go_wp2_with fail
   refine (zi2 HA3.out hs hls 61 (by omega) H61b.out).mono ?_
   rintro e w4 ⟨rfl,hg⟩
   have HG4:=hh9 (HG3.out.trans hg)
   clear hg
   go_wp2_with fail
   exact ⟨rfl,_,.noEq HE.out H61.out,rfl,HG4.out⟩
theorem zze {w w':World} {base R:Nat} {s:ByteArray} {p d:Nat} {v:Value} {l:List Rule} (hk:zb4 w base v l) (h:At w R s p d) (hg:w.grownBy w' v.ownBlock) (hR:R<base):At w' R s p d:=by
 obtain ⟨vs,_,h2,_⟩:=hk
 refine h.kept hg (fun e=>?_)
 rcases zan h2 with ⟨rfl,_⟩ | ⟨g,cap,rfl⟩
 ·simp [Value.ownBlock] at e
 ·have hb:=(zb0 h2).1
  have:=Option.some.inj e
  simp at this
  omega
def zzf (R:Nat) (s:ByteArray) (w:World) (e:Ending) (w':World):Prop :=
 ∃ r:Got (List Rule),Rules (rd s) [] 0 r/\match r with
  | .ok l _=>∃ v,e=.returned v/\zb4 w' w.heap.size v l/\w.grownBy w' (some R)
  | .err c=>zq4 R c w e w'
def zw4 (R:Nat) (s:ByteArray) (w wr:World) (v:Value) (q:Nat):Prop :=
 ∃ l:List Rule,zb4 wr w.heap.size v l/\l.length<=500/\q<=s.size/\At wr R s q 0/\w.grownBy wr (some R)/\∀ r,Rules (rd s) l q r->Rules (rd s) [] 0 r
theorem zw5 {R:Nat} {s:ByteArray} {w:World} (h:At w R s 0 0) (hs:s.size<=50000) :
  Calls Tryz.prog 94 #[.pointer (some ⟨R,0,none⟩)] w (zzf R s w):=by
 have hR:=h.lt
 have H0:Hid (zw4 R s w w (.slice none 0 0) 0):=⟨[],zb4.nil w _,by simp,by omega,h,zak _ _,fun r hr=>hr⟩
 clear h
 go_enter Tryz.func94,Tryz.ntmps94
 go_wp2_with fail
 go_loopw [3] (fun v wr=>∃ q:Nat,Hid (zw4 R s w wr v q)) (fun _ wr=>s.size-zf4 R wr)
 case atStart=>exact ⟨0,H0⟩
 case round =>
  clear H0
  obtain ⟨q,HI⟩:=hrel
  obtain ⟨l,hk0,hl,hqs,ha,hg,hall⟩:=HI.out
  have HA:=hh9 ha
  have HG:=hh9 hg
  have HK:=hh9 hk0
  have HALL:=hh9 hall
  have HM:=hh9 ha.pos
  obtain ⟨c0,c1,c2,z0,z1,z2⟩:=ha.cells
  have hz:w.heap.size<=wr.heap.size:=hg.size
  clear ha hg hk0 hall
  by_cases hlt:q<s.size
  ·have q1:decide ((q:Int)<(s.size:Int))=true:=decide_eq_true (by omega)
   have q2:decide (q<s.size)=true:=decide_eq_true hlt
   have hr:=zcu s q
   have hpos:0<=rd s q:=by rw [zes hlt];omega
   cases hal:isAl (rd s q)
   ·have HAL:=hh9 (zmw.trans hal)
    have HAL0:=hh9 hal
    obtain ⟨hrun,hq1⟩:=zg0 (P:=isBl) (by decide) hqs
    have hq1':=hrun.le
    clear hal hrun
    cases hle:zas (rd s) (zbp isBl (rd s) q) with
    | none =>
     have HLE:=hh9 hle
     clear hle
     go_wp2_with fail
     go_quiet (fail)
     go_wp2_with fail
     refine (zag (HA.out.drew _) hs hqs).mono ?_
     rintro e w1 ⟨rfl,n,rfl⟩
     go_wp2_with fail
     refine (zaw _ _).mono ?_
     rw [HAL.out]
     rintro e w1 ⟨rfl,rfl⟩
     go_wp2_with fail
     refine (zza (HA.out.drew (nq+n)) hs hqs rfl HLE.out).mono ?_
     rintro e w2 ⟨rfl,hg⟩
     have HG2:=hh9 ((za5 HG.out (nq+n)).trans hg)
     clear hg
     go_wp2_with fail
     exact ⟨rfl,_,HALL.out _ (.bad hpos HAL0.out HLE.out),rfl,HG2.out⟩
    | some e0 =>
     have HLE:=hh9 hle
     have he1:=zda hq1 hle
     have he2:q<e0:=by
      by_cases g:q<zbp isBl (rd s) q
      ·omega
      ·have h2:zbp isBl (rd s) q=q:=by omega
       rw [h2] at hle
       exact qax hlt hle
     clear hle
     go_wp2_with fail
     go_quiet (fail)
     go_wp2_with fail
     refine (zag (HA.out.drew _) hs hqs).mono ?_
     rintro e w1 ⟨rfl,n,rfl⟩
     go_wp2_with fail
     refine (zaw _ _).mono ?_
     rw [HAL.out]
     rintro e w1 ⟨rfl,rfl⟩
     go_wp2_with fail
     refine (zvw (HA.out.drew (nq+n)) hs hqs rfl HLE.out).mono ?_
     rintro e w2 ⟨rfl,ha,hg⟩
     have HA2:=hh9 ha
     have HG2:=hh9 ((za5 HG.out (nq+n)).trans hg)
     have HK2:=hh9 (((HK.out.below (za7 (Below.refl _ _) (nq+n))).grown hg hR))
     clear ha hg
     go_wp2_with fail
     go_roundw
     case rel=>exact ⟨e0,l,HK2.out,hl,he1.2,HA2.out,HG2.out,fun r hr=>HALL.out r (.empty hpos HAL0.out HLE.out hr)⟩
     case measure =>
      rw [HM.out,HA2.out.pos]
      omega
   ·have HAL:=hh9 (zmw.trans hal)
    have HAL0:=hh9 hal
    clear hal
    go_wp2_with fail
    go_quiet (fail)
    go_wp2_with fail
    refine (zag (HA.out.drew _) hs hqs).mono ?_
    rintro e w1 ⟨rfl,n,rfl⟩
    go_wp2_with fail
    refine (zaw _ _).mono ?_
    rw [HAL.out]
    rintro e w1 ⟨rfl,rfl⟩
    go_wp2_with fail
    refine (zzd (HA.out.drew (nq+n)) hs hqs).mono ?_
    rintro e w2 ⟨r,hans,hgv⟩
    cases r with
    | err c =>
     obtain ⟨rfl,hg⟩:=hgv
     have HANS:=hh9 hans
     have HG2:=hh9 ((za5 HG.out (nq+n)).trans hg)
     clear hans hg
     go_wp2_with fail
     exact ⟨rfl,_,HALL.out _ (.err HAL0.out HANS.out),rfl,HG2.out⟩
    | ok x q3 =>
     obtain ⟨y,ht,hqs3,rfl,ha,hg⟩:=hgv
     have hb3:=(zt7 hqs hans).1
     have HANS:=hh9 hans
     have h2:=zaa ht.2.2
     have h5:=zab ht.2.2
     have H2:=hh9 h2
     have H5:=hh9 h5
     have hz2:w.heap.size<=w2.heap.size:=Nat.le_trans hz hg.size
     have hk1:=HK.out.below (za7 (Below.refl wr.heap.size wr) (nq+n))
     have HK2:=hh9 ((hk1.grown hg hR).below ((Below.refl w2.heap.size w2).alloc (Nat.le_refl _) (.cells y.arr 37)))
     have HT2:=hh9 ((zo8 hk1 ht hz).kept (W':=w2.alloc (.cells y.arr 37)) (fun b hP hl=>⟨Below.heap_alloc _ _ _ hl,hP⟩) (by simp))
     have HA2:=hh9 (ha.alloc (.cells y.arr 37))
     have HG2:=hh9 (zao ((za5 HG.out (nq+n)).trans hg) (.cells y.arr 37))
     clear hans ha hg ht h2 h5 hk1
     go_wp2_with (first
      | (refine zlq rfl _ rfl y rfl H2.out H5.out ?_)
      | (at_builtin;go_loud (refine zlr rfl _ _ rfl w.heap.size _ l x y w2.heap.size rfl rfl HK2.out HT2.out (heap_alloc_new w2 _) ?c1 ?c2 ?_)))
     case c1=>omega
     case c2=>simp;omega
     intro v' w5 hk5 hgrow
     have HK5:=hh9 hk5
     have HA5:=hh9 (zze HK2.out HA2.out hgrow (by omega))
     have HG5:=hh9 (zq2 HK2.out HG2.out hgrow (Nat.le_refl _))
     have hform:=zk5 hk5
     have hlen:(l++[x]).length=l.length+1:=by simp
     rw [hlen] at hform
     obtain ⟨g5,cap5,rfl⟩:=hform.resolve_left (fun h=>by omega)
     clear hk5 hgrow HK2 HA2 HG2 HT2 H2 H5 hform hlen
     by_cases hmany:500<=l.length
     ·have q3:decide ((500:Int)<((l.length+1:Nat):Int))=true:=decide_eq_true (by omega)
      have q4:decide (500<l.length+1)=true:=decide_eq_true (by omega)
      go_wp2_with fail
      refine (zea _ _).mono ?_
      rintro e w6 ⟨rfl,rfl⟩
      go_wp2_with fail
      exact ⟨rfl,_,HALL.out _ (.many HAL0.out HANS.out hmany),rfl,HG5.out⟩
     ·have q3':decide ((500:Int)<((l.length+1:Nat):Int))=false:=decide_eq_false (by omega)
      have q4:decide (500<l.length+1)=false:=decide_eq_false (by omega)
      go_wp2_with fail
      go_roundw
      case rel=>exact ⟨q3,l++[x],HK5.out,by simp;omega,hqs3,HA5.out,HG5.out,fun r hr=>HALL.out r (.rule HAL0.out HANS.out (by omega) hr)⟩
      case measure =>
       rw [HM.out,HA5.out.pos]
       omega
  ·obtain ⟨m,hm⟩:∃ m,m=s.size:=⟨_,rfl⟩
   have HMM:=hh9 hm
   obtain rfl:q=m:=by omega
   have q1:decide ((q:Int)<(s.size:Int))=false:=decide_eq_false (by omega)
   have q2:decide (q<s.size)=false:=decide_eq_false hlt
   have HEND:=hh9 (HALL.out _ (.done (zrd.2 hlt)))
   clear hm
   go_wp2_with fail
   go_quiet (fail)
   go_wp2_with fail
   go_ret
   exact ⟨_,HEND.out,_,rfl,HK.out.below (za7 (Below.refl _ _) _),za5 HG.out _⟩
theorem zka (g0 g1:Nat) (x y:Value) (c:Int) (older:List PanicEntry) (w:World) (B:Nat) (hne:g0≠g1) (hb0:B<=g0) (hb1:B<=g1) (h0:w.cell? ⟨g0,0,none⟩=some x) (h1:w.cell? ⟨g1,0,none⟩=some y)
  (z0:w.frozen? ⟨g0,0,none⟩=false) (z1:w.frozen? ⟨g1,0,none⟩=false) :
  CallsD Tryz.prog 93 #[.pointer (some ⟨g0,0,none⟩),.pointer (some ⟨g1,0,none⟩)] (.panicking ({ v:=.iface 127 (.agg #[.int .i64 c]),recovered:=false }::older)) w fun e u' w' =>
   e=.returned (.tuple #[])/\u'=.panicking ({ v:=.iface 127 (.agg #[.int .i64 c]),recovered:=true }::older)/\Caught B g0 g1 c w w':=by
 refine callsD_of_wpS Tryz.func93 rfl fun c₀ cs hu=>?_
 apply wpS_seq
 apply wpS_region
 simp [wpOpsS,go_sem,recoverD,hu,Tryz.ntmps93,Exit.thenS]
 apply wpS_seq
 apply wpS_region
 simp [wpOpsS,go_sem,Tryz.ntmps93,Exit.thenS]
 refine wpS_cond (t:=true) (by simp [Act.eval,Array.replicate]) ?_
 simp only [if_true]
 refine wpS_of_wp ?_
 have hta:∀ W:World,(Instr.typeAssert (.iface 127 (.agg #[.int .i64 c])) 20 127 false).run Tryz.prog W=.ok (.agg #[.int .i64 c]) W:=fun W=>by kernel_rfl
 have hfd:∀ W:World,(Instr.field 127 (.agg #[.int .i64 c]) 0).run Tryz.prog W=.ok (.int .i64 c) W:=fun W=>by kernel_rfl
 have h0':∀ (v:Value),((w.drew).setCell ⟨g1,0,none⟩ v).cell? ⟨g0,0,none⟩=some x:=fun v=>zgg (fun e=>hne e.symm) v h0
 have h1':∀ (v:Value),((w.drew).setCell ⟨g0,0,none⟩ v).cell? ⟨g1,0,none⟩=some y:=fun v=>zgg hne v h1
 go_region
 all_goals first
  | exact ⟨rfl,_,rfl,.tuple #[],results_none rfl _ _ _,rfl,rfl,zz6 hne hb0 hb1 h0 h1⟩
  | exact ⟨rfl,_,rfl,.tuple #[],results_none rfl _ _ _,rfl,rfl,zz7 hne hb0 hb1 h0 h1⟩
theorem zlw (g0 g1:Nat) (w:World) :
  CallsD Tryz.prog 93 #[.pointer (some ⟨g0,0,none⟩),.pointer (some ⟨g1,0,none⟩)] .returning w fun e u' w'=>e=.returned (.tuple #[])/\u'=.returning/\w'=w:=by
 refine callsD_of_wpS Tryz.func93 rfl fun c₀ cs hu=>?_
 apply wpS_seq
 apply wpS_region
 simp [wpOpsS,go_sem,recoverD,hu,Tryz.ntmps93,Exit.thenS]
 apply wpS_seq
 apply wpS_region
 simp [wpOpsS,go_sem,Tryz.ntmps93,Exit.thenS]
 refine wpS_cond (t:=false) (by simp [Act.eval,Array.replicate]) ?_
 simp only [Bool.false_eq_true,if_false]
 refine wpS_of_wp (wp_skip ?_)
 cases c₀
 simp_all [bodyPostS,results,Tryz.results93]
theorem zzg (s:ByteArray) (w:World) (hs:s.size<=maxLen):Calls Tryz.prog 68 #[.string s] w (zo9 s w):=by
 unfold maxLen at hs
 have hmf:∀ (fn:Fn) (first cap:Array Value) (w:World),(Instr.makeFunc fn first cap).run Tryz.prog w=.ok (.func fn first cap) w:=fun _ _ _ _=>rfl
 by_cases hbig:50000<s.size
 ·have hq:decide (50000<s.size)=true:=decide_eq_true hbig
  go_enter_defers Tryz.func68,Tryz.ntmps68
  go_wp2
  simp [Leaves,settle,results,Tryz.results68,go_sem,bodyPostD]
  exact ⟨.err 2,by unfold zeo;rw [if_pos hbig],((Below.refl _ _).alloc (Nat.le_refl _) _).alloc (by simp) _,rfl⟩
 ·have hq:decide (50000<s.size)=false:=decide_eq_false hbig
  have hR:At (((w.alloc (.cells #[.slice none 0 0] 22)).alloc (.cells #[.int .i64 0] 26)).alloc (.cells #[.string s,.int .i64 0,.int .i64 0] 130)) (w.heap.size+2) s 0 0:=by
   have:=heap_alloc_new ((w.alloc (.cells #[.slice none 0 0] 22)).alloc (.cells #[.int .i64 0] 26)) (.cells #[.string s,.int .i64 0,.int .i64 0] 130)
   rw [show ((w.alloc (.cells #[.slice none 0 0] 22)).alloc (.cells #[.int .i64 0] 26)).heap.size=w.heap.size+2 by simp] at this
   exact this
  have HR:=hh9 hR
  clear hR
  go_enter_defers Tryz.func68,Tryz.ntmps68
  go_wp2_with fail
  refine (zw5 HR.out (by omega)).mono ?_
  rintro e w1 ⟨r,hr,hgv⟩
  have HRU:=hh9 hr
  clear hr
  cases r with
  | err c =>
   obtain ⟨rfl,hg⟩:=hgv
   have hb1:Below w.heap.size w w1:=⟨hg.os,hg.tape,hg.output,by have:=hg.size;simp at this;omega,fun k hk=>by
    rw [hg.block k (by simp;omega) (fun e=>by have:=Option.some.inj e;omega),Below.heap_alloc _ _ _ (by simp;omega),Below.heap_alloc _ _ _ (by simp;omega),Below.heap_alloc _ _ _ hk]⟩
   have b0:w1.heap[w.heap.size]?=some (.cells #[.slice none 0 0] 22 (0,0)):=by
    rw [hg.block w.heap.size (by simp;omega) (fun e=>by have:=Option.some.inj e;omega),Below.heap_alloc _ _ _ (by simp;omega),Below.heap_alloc _ _ _ (by simp)]
    exact heap_alloc_new _ _
   have b1:w1.heap[w.heap.size+1]?=some (.cells #[.int .i64 0] 26 (0,0)):=by
    rw [hg.block (w.heap.size+1) (by simp) (fun e=>by have:=Option.some.inj e;omega),Below.heap_alloc _ _ _ (by simp)]
    have:=heap_alloc_new (w.alloc (.cells #[.slice none 0 0] 22)) (.cells #[.int .i64 0] 26)
    rwa [show (w.alloc (.cells #[.slice none 0 0] 22)).heap.size=w.heap.size+1 by simp] at this
   have HB1:=hh9 hb1
   have B0:=hh9 b0
   have B1:=hh9 b1
   clear hg hb1 b0 b1
   go_wp2_with fail
   refine leaves_cons (f:=93) (args:=#[.pointer (some ⟨w.heap.size,0,none⟩),.pointer (some ⟨w.heap.size+1,0,none⟩)]) (by simp) (by simp [go_sem]) ?_
   refine (zka w.heap.size (w.heap.size+1) (.slice none 0 0) (.int .i64 0) c [] w1 w.heap.size (by omega) (Nat.le_refl _) (by omega) (by simp [World.cell?,B0.out]) (by simp [World.cell?,B1.out]) (by simp [World.frozen?,B0.out]) (by simp [World.frozen?,B1.out])).mono ?_
   rintro e u' w2 ⟨rfl,rfl,hc0,hc1,hb⟩
   simp [Leaves,settle,results,Tryz.results68,go_sem,hc0,hc1]
   exact ⟨.err c,(if_neg hbig).mpr HRU.out,HB1.out.trans hb,rfl⟩
  | ok l q =>
   obtain ⟨v,rfl,hl,hg⟩:=hgv
   have hb1:Below w.heap.size w w1:=⟨hg.os,hg.tape,hg.output,by have:=hg.size;simp at this;omega,fun k hk=>by
    rw [hg.block k (by simp;omega) (fun e=>by have:=Option.some.inj e;omega),Below.heap_alloc _ _ _ (by simp;omega),Below.heap_alloc _ _ _ (by simp;omega),Below.heap_alloc _ _ _ hk]⟩
   have b0:w1.heap[w.heap.size]?=some (.cells #[.slice none 0 0] 22 (0,0)):=by
    rw [hg.block w.heap.size (by simp;omega) (fun e=>by have:=Option.some.inj e;omega),Below.heap_alloc _ _ _ (by simp;omega),Below.heap_alloc _ _ _ (by simp)]
    exact heap_alloc_new _ _
   have b1:w1.heap[w.heap.size+1]?=some (.cells #[.int .i64 0] 26 (0,0)):=by
    rw [hg.block (w.heap.size+1) (by simp) (fun e=>by have:=Option.some.inj e;omega),Below.heap_alloc _ _ _ (by simp)]
    have:=heap_alloc_new (w.alloc (.cells #[.slice none 0 0] 22)) (.cells #[.int .i64 0] 26)
    rwa [show (w.alloc (.cells #[.slice none 0 0] 22)).heap.size=w.heap.size+1 by simp] at this
   have hlb:zb4 w1 (w.heap.size+3) v l:=by
    have:=hl
    rwa [show (((w.alloc (.cells #[.slice none 0 0] 22)).alloc (.cells #[.int .i64 0] 26)).alloc (.cells #[.string s,.int .i64 0,.int .i64 0] 130)).heap.size=w.heap.size+3 by simp] at this
   have HL:=hh9 ((hlb.kept (W':=(w1.setCell ⟨w.heap.size,0,none⟩ v).setCell ⟨w.heap.size+1,0,none⟩ (.int .i64 0)) (fun b hb _=>by
    rw [Below.heap_setCell _ _ _ _ (show b≠w.heap.size+1 by omega),Below.heap_setCell _ _ _ _ (show b≠w.heap.size by omega)]) (by simp)).base (show w.heap.size<=w.heap.size+3 by omega))
   have HBB:Hid (Below w.heap.size w ((w1.setCell ⟨w.heap.size,0,none⟩ v).setCell ⟨w.heap.size+1,0,none⟩ (.int .i64 0))):=(hb1.setCell (Nat.le_refl _) _).setCell (by simp) _
   have c0:w1.cell? ⟨w.heap.size,0,none⟩=some (.slice none 0 0):=by simp [World.cell?,b0]
   have c1:w1.cell? ⟨w.heap.size+1,0,none⟩=some (.int .i64 0):=by simp [World.cell?,b1]
   have z0:w1.frozen? ⟨w.heap.size,0,none⟩=false:=by simp [World.frozen?,b0]
   have z1:w1.frozen? ⟨w.heap.size+1,0,none⟩=false:=by simp [World.frozen?,b1]
   have hcl0:((w1.setCell ⟨w.heap.size,0,none⟩ v).setCell ⟨w.heap.size+1,0,none⟩ (.int .i64 0)).cell? ⟨w.heap.size,0,none⟩=some v:=by
    rw [World.cell?_setCell_other _ _ _ _ (fun e=>by injection e with e;omega)];exact zgh _ c0
   have hcl1:((w1.setCell ⟨w.heap.size,0,none⟩ v).setCell ⟨w.heap.size+1,0,none⟩ (.int .i64 0)).cell? ⟨w.heap.size+1,0,none⟩=some (.int .i64 0):=by
    refine zgh (x:=.int .i64 0) _ ?_
    rw [World.cell?_setCell_other _ _ _ _ (fun e=>by injection e with e;omega)];exact c1
   have HC0:=hh9 hcl0
   have HC1:=hh9 hcl1
   have hform:=zk5 hl
   clear hl hg hb1 b0 b1 hlb hcl0 hcl1
   rcases hform with ⟨rfl,hl0⟩ | ⟨g,cap,rfl⟩
   ·clear hl0
    go_wp2_with fail
    refine leaves_cons (f:=93) (args:=#[.pointer (some ⟨w.heap.size,0,none⟩),.pointer (some ⟨w.heap.size+1,0,none⟩)]) (by simp) (by simp [go_sem]) ?_
    refine (zlw w.heap.size (w.heap.size+1) _).mono ?_
    rintro e u' w2 ⟨rfl,rfl,rfl⟩
    have hc0:=HC0.out
    have hc1:=HC1.out
    simp [Leaves,settle,results,Tryz.results68,go_sem,hc0,hc1]
    exact ⟨.ok l q,(if_neg hbig).mpr HRU.out,HBB.out,_,rfl,HL.out⟩
   ·go_wp2_with fail
    refine leaves_cons (f:=93) (args:=#[.pointer (some ⟨w.heap.size,0,none⟩),.pointer (some ⟨w.heap.size+1,0,none⟩)]) (by simp) (by simp [go_sem]) ?_
    refine (zlw w.heap.size (w.heap.size+1) _).mono ?_
    rintro e u' w2 ⟨rfl,rfl,rfl⟩
    have hc0:=HC0.out
    have hc1:=HC1.out
    simp [Leaves,settle,results,Tryz.results68,go_sem,hc0,hc1]
    exact ⟨.ok l q,(if_neg hbig).mpr HRU.out,HBB.out,_,rfl,HL.out⟩
end Go.Proofs.YtekjnfldgjcgeaaGreatDoor
