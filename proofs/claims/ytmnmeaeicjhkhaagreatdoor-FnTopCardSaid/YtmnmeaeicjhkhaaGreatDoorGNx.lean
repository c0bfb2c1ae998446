import Derived.Test.YtmnmeaeicjhkhaaGreatDoorG1x
import Derived.Test.YtmnmeaeicjhkhaaGreatDoorGZbx
set_option maxRecDepth 100000
set_option maxHeartbeats 16000000
namespace Go.Proofs.YtmnmeaeicjhkhaaGreatDoor
open Go.RowKit
section
attribute [local go_sem ↓] Go.wp_at_zero Go.wp_at_succ
theorem eN {W:World} {b:Nat} {k f l:Int} {nm:ByteArray} (h:W.heap[b]?=some (.cells #[.int .i64 k,.int .i64 f,.int .i64 l,.string nm] 45 (0,0))):(W.cell? ⟨b,0,none⟩=some (.int .i64 k)/\W.cell? ⟨b,1,none⟩=some (.int .i64 f)/\W.cell? ⟨b,2,none⟩=some (.int .i64 l)/\W.cell? ⟨b,3,none⟩=some (.string nm))/\W.frozen? ⟨b,0,none⟩=false/\W.frozen? ⟨b,1,none⟩=false/\W.frozen? ⟨b,2,none⟩=false/\W.frozen? ⟨b,3,none⟩=false:=by
 refine ⟨⟨?_,?_,?_,?_⟩,?_,?_,?_,?_⟩
 ·rw [cell_of_row W b 0 _ _ _ h];rfl
 ·rw [cell_of_row W b 1 _ _ _ h];rfl
 ·rw [cell_of_row W b 2 _ _ _ h];rfl
 ·rw [cell_of_row W b 3 _ _ _ h];rfl
 all_goals simp [World.frozen?,h]
def StopU (K pc len:Nat) (d:Nat) (c:Cu) (w:World) (e:Ending) (w':World):Prop :=
 (∃ (s:Sp) (c':Cu),e=.returned (.agg #[.int .i64 s.kind,.int .i64 s.fn,.int .i64 s.line,.string s.name])/\s.name.size<=40/\c'.at_<=c.at_+d/\Cur K w' pc len c')/\dY pc (pc+1) w w'
theorem bQ5 (K pc len:Nat) (c:Cu) (w:World) (h:Cur K w pc len c) (hK:K<=w.heap.size) (hat:c.at_<4611686018427387800) :
  Calls Tryz.prog 87 #[.pointer (some ⟨pc,0,none⟩)] w fun e w'=>StopU K pc len 3 c w e w':=by
 have hpc:pc<K:=h.hk
 have H0:=O (h.below ((bH w (.cells #[.int .i64 0,.int .i64 0,.int .i64 0,.string ⟨#[]⟩] 45)).mono hK))
 have BX0:=O (heap_alloc_new w (.cells #[.int .i64 0,.int .i64 0,.int .i64 0,.string ⟨#[]⟩] 45))
 have HB0:=O (dY.of_below pc (pc+1) (bH w (.cells #[.int .i64 0,.int .i64 0,.int .i64 0,.string ⟨#[]⟩] 45)))
 clear h
 go_enter Tryz.func87,Tryz.ntmps87
 go_wp2_with fail
 refine (bY K pc len c 6 _ (Z H0) (by omega) (by omega) (by omega)).mono ?_
 rintro e w1 ⟨⟨x,c1,rfl,hd,hc1⟩,hb1⟩
 have hat1:c1.at_=c.at_+1:=hd.at1
 obtain ⟨r,hr⟩:∃ r,r=x % 6:=⟨_,rfl⟩
 rw [<- hr]
 have hr6:r<6:=by omega
 have HC1:=O hc1
 have HB1:=O ((Z HB0).trans hb1)
 have BX1:=O ((hb1.block w.heap.size (by simp) (.inr (by omega))).trans (Z BX0))
 have hs1:w.heap.size+1<=w1.heap.size:=by have:=hb1.size;simpa using this
 clear hd hc1 hb1 hr H0 BX0 HB0
 rcases (by omega:r=0∨r=1∨r=2∨r=3∨r=4∨r=5) with rfl | rfl | rfl | rfl | rfl | rfl
 ·go_wp2_with fail
  refine (bY K pc len c1 4 _ (Z HC1) (by omega) (by omega) (by omega)).mono ?_
  rintro e w2 ⟨⟨x1,c2,rfl,hd,hc⟩,hb⟩
  have hat2:c2.at_=c1.at_+1:=hd.at1
  obtain ⟨p1,hv⟩:∃ r,r=x1 % 4:=⟨_,rfl⟩
  rw [<- hv]
  have hp1:p1<4:=by omega
  have HC2:=O hc
  have HB2:=O ((Z HB1).trans hb)
  have BX2:=O ((hb.block w.heap.size (by omega) (.inr (by omega))).trans (Z BX1))
  have hs2:w.heap.size+1<=w2.heap.size:=Nat.le_trans hs1 hb.size
  clear hd hc hb hv HC1 HB1 BX1
  go_wp2_with fail
  refine (bY K pc len c2 4 _ (Z HC2) (by omega) (by omega) (by omega)).mono ?_
  rintro e w3 ⟨⟨x2,c3,rfl,hd,hc⟩,hb⟩
  have hat3:c3.at_=c2.at_+1:=hd.at1
  obtain ⟨p2,hv⟩:∃ r,r=x2 % 4:=⟨_,rfl⟩
  rw [<- hv]
  have hp2:p2<4:=by omega
  have HC3:=O hc
  have HB3:=O ((Z HB2).trans hb)
  have BX3:=O ((hb.block w.heap.size (by omega) (.inr (by omega))).trans (Z BX2))
  have hs3:w.heap.size+1<=w3.heap.size:=Nat.le_trans hs2 hb.size
  clear hd hc hb hv HC2 HB2 BX2
  have wl:IntKind.i64.wrap (1+(p2:Int))=1+(p2:Int):=by rw [IntKind.wrap_i64];omega
  obtain ⟨⟨r0,r1,r2,r3⟩,f0,f1,f2,f3⟩:=eN (Z BX3)
  go_wp2
  refine bodyPost_ret (v:=.agg #[.int .i64 1,.int .i64 (p1:Int),.int .i64 (1+(p2:Int)),.string ⟨#[]⟩]) (by simp [results,Tryz.results87,go_sem,r0,r1,r2,r3]) rfl ?_
  refine ⟨⟨⟨1,(p1:Int),(1+(p2:Int)),⟨#[]⟩⟩,c3,rfl,Nat.zero_le _,by omega,(Z HC3).below (((((Below.refl K _).setCell (p:=⟨w.heap.size,0,none⟩) hK _).setCell (p:=⟨w.heap.size,1,none⟩) hK _).setCell (p:=⟨w.heap.size,2,none⟩) hK _).setCell (p:=⟨w.heap.size,3,none⟩) hK _)⟩,(Z HB3).onw (((((Below.refl w.heap.size _).setCell (p:=⟨w.heap.size,0,none⟩) (Nat.le_refl _) _).setCell (p:=⟨w.heap.size,1,none⟩) (Nat.le_refl _) _).setCell (p:=⟨w.heap.size,2,none⟩) (Nat.le_refl _) _).setCell (p:=⟨w.heap.size,3,none⟩) (Nat.le_refl _) _)⟩
 ·go_wp2_with fail
  refine (bY K pc len c1 4 _ (Z HC1) (by omega) (by omega) (by omega)).mono ?_
  rintro e w2 ⟨⟨x1,c2,rfl,hd,hc⟩,hb⟩
  have hat2:c2.at_=c1.at_+1:=hd.at1
  obtain ⟨p1,hv⟩:∃ r,r=x1 % 4:=⟨_,rfl⟩
  rw [<- hv]
  have hp1:p1<4:=by omega
  have HC2:=O hc
  have HB2:=O ((Z HB1).trans hb)
  have BX2:=O ((hb.block w.heap.size (by omega) (.inr (by omega))).trans (Z BX1))
  have hs2:w.heap.size+1<=w2.heap.size:=Nat.le_trans hs1 hb.size
  clear hd hc hb hv HC1 HB1 BX1
  go_wp2_with fail
  refine (bY K pc len c2 4 _ (Z HC2) (by omega) (by omega) (by omega)).mono ?_
  rintro e w3 ⟨⟨x2,c3,rfl,hd,hc⟩,hb⟩
  have hat3:c3.at_=c2.at_+1:=hd.at1
  obtain ⟨p2,hv⟩:∃ r,r=x2 % 4:=⟨_,rfl⟩
  rw [<- hv]
  have hp2:p2<4:=by omega
  have HC3:=O hc
  have HB3:=O ((Z HB2).trans hb)
  have BX3:=O ((hb.block w.heap.size (by omega) (.inr (by omega))).trans (Z BX2))
  have hs3:w.heap.size+1<=w3.heap.size:=Nat.le_trans hs2 hb.size
  clear hd hc hb hv HC2 HB2 BX2
  have wl:IntKind.i64.wrap (1+(p2:Int))=1+(p2:Int):=by rw [IntKind.wrap_i64];omega
  obtain ⟨⟨r0,r1,r2,r3⟩,f0,f1,f2,f3⟩:=eN (Z BX3)
  go_wp2
  refine bodyPost_ret (v:=.agg #[.int .i64 1,.int .i64 (p1:Int),.int .i64 (1+(p2:Int)),.string ⟨#[]⟩]) (by simp [results,Tryz.results87,go_sem,r0,r1,r2,r3]) rfl ?_
  refine ⟨⟨⟨1,(p1:Int),(1+(p2:Int)),⟨#[]⟩⟩,c3,rfl,Nat.zero_le _,by omega,(Z HC3).below (((((Below.refl K _).setCell (p:=⟨w.heap.size,0,none⟩) hK _).setCell (p:=⟨w.heap.size,1,none⟩) hK _).setCell (p:=⟨w.heap.size,2,none⟩) hK _).setCell (p:=⟨w.heap.size,3,none⟩) hK _)⟩,(Z HB3).onw (((((Below.refl w.heap.size _).setCell (p:=⟨w.heap.size,0,none⟩) (Nat.le_refl _) _).setCell (p:=⟨w.heap.size,1,none⟩) (Nat.le_refl _) _).setCell (p:=⟨w.heap.size,2,none⟩) (Nat.le_refl _) _).setCell (p:=⟨w.heap.size,3,none⟩) (Nat.le_refl _) _)⟩
 ·go_wp2_with fail
  refine (bY K pc len c1 4 _ (Z HC1) (by omega) (by omega) (by omega)).mono ?_
  rintro e w2 ⟨⟨x1,c2,rfl,hd,hc⟩,hb⟩
  have hat2:c2.at_=c1.at_+1:=hd.at1
  obtain ⟨p1,hv⟩:∃ r,r=x1 % 4:=⟨_,rfl⟩
  rw [<- hv]
  have hp1:p1<4:=by omega
  have HC2:=O hc
  have HB2:=O ((Z HB1).trans hb)
  have BX2:=O ((hb.block w.heap.size (by omega) (.inr (by omega))).trans (Z BX1))
  have hs2:w.heap.size+1<=w2.heap.size:=Nat.le_trans hs1 hb.size
  clear hd hc hb hv HC1 HB1 BX1
  obtain ⟨⟨r0,r1,r2,r3⟩,f0,f1,f2,f3⟩:=eN (Z BX2)
  go_wp2
  refine bodyPost_ret (v:=.agg #[.int .i64 2,.int .i64 (p1:Int),.int .i64 0,.string ⟨#[]⟩]) (by simp [results,Tryz.results87,go_sem,r0,r1,r2,r3]) rfl ?_
  refine ⟨⟨⟨2,(p1:Int),0,⟨#[]⟩⟩,c2,rfl,Nat.zero_le _,by omega,(Z HC2).below (((((Below.refl K _).setCell (p:=⟨w.heap.size,0,none⟩) hK _).setCell (p:=⟨w.heap.size,1,none⟩) hK _).setCell (p:=⟨w.heap.size,2,none⟩) hK _).setCell (p:=⟨w.heap.size,3,none⟩) hK _)⟩,(Z HB2).onw (((((Below.refl w.heap.size _).setCell (p:=⟨w.heap.size,0,none⟩) (Nat.le_refl _) _).setCell (p:=⟨w.heap.size,1,none⟩) (Nat.le_refl _) _).setCell (p:=⟨w.heap.size,2,none⟩) (Nat.le_refl _) _).setCell (p:=⟨w.heap.size,3,none⟩) (Nat.le_refl _) _)⟩
 ·go_wp2_with fail
  refine (bY K pc len c1 4 _ (Z HC1) (by omega) (by omega) (by omega)).mono ?_
  rintro e w2 ⟨⟨x1,c2,rfl,hd,hc⟩,hb⟩
  have hat2:c2.at_=c1.at_+1:=hd.at1
  obtain ⟨p1,hv⟩:∃ r,r=x1 % 4:=⟨_,rfl⟩
  rw [<- hv]
  have hp1:p1<4:=by omega
  have HC2:=O hc
  have HB2:=O ((Z HB1).trans hb)
  have BX2:=O ((hb.block w.heap.size (by omega) (.inr (by omega))).trans (Z BX1))
  have hs2:w.heap.size+1<=w2.heap.size:=Nat.le_trans hs1 hb.size
  clear hd hc hb hv HC1 HB1 BX1
  go_wp2_with fail
  refine (bY K pc len c2 3 _ (Z HC2) (by omega) (by omega) (by omega)).mono ?_
  rintro e w3 ⟨⟨x2,c3,rfl,hd,hc⟩,hb⟩
  have hat3:c3.at_=c2.at_+1:=hd.at1
  obtain ⟨p2,hv⟩:∃ r,r=x2 % 3:=⟨_,rfl⟩
  rw [<- hv]
  have hp2:p2<3:=by omega
  have HC3:=O hc
  have HB3:=O ((Z HB2).trans hb)
  have BX3:=O ((hb.block w.heap.size (by omega) (.inr (by omega))).trans (Z BX2))
  have hs3:w.heap.size+1<=w3.heap.size:=Nat.le_trans hs2 hb.size
  clear hd hc hb hv HC2 HB2 BX2
  have wl:IntKind.i64.wrap (97+(p2:Int))=97+(p2:Int):=by rw [IntKind.wrap_i64];omega
  have wu:IntKind.u8.wrap (97+(p2:Int))=97+(p2:Int):=by rw [qX];omega
  have BN:=O (bH w3 (.cells #[.int .u8 (97+(p2:Int))] 5))
  have ec:=kY (w3.alloc (.cells #[.int .u8 (97+(p2:Int))] 5)) w3.heap.size (97+(p2:Int)) (by rw [cell_of_row _ _ 0 _ _ _ (heap_alloc_new w3 _)];rfl)
  have HB4:=O ((Z HB3).onw ((Z BN).mono (by omega)))
  have HC4:=O ((Z HC3).below ((Z BN).mono (by omega)))
  have BX4:=O (((Z BN).block w.heap.size (by omega)).trans (Z BX3))
  obtain ⟨c4,e4⟩:∃ c4,c4=c3:=⟨_,rfl⟩
  rw [<- e4] at HC4 hat3
  clear e4
  obtain ⟨⟨r0,r1,r2,r3⟩,f0,f1,f2,f3⟩:=eN (Z BX4)
  go_wp2
  refine bodyPost_ret (v:=.agg #[.int .i64 3,.int .i64 (p1:Int),.int .i64 0,.string (strOfNums [97+(p2:Int)])]) (by simp [results,Tryz.results87,go_sem,r0,r1,r2,r3]) rfl ?_
  refine ⟨⟨⟨3,(p1:Int),0,(strOfNums [97+(p2:Int)])⟩,c4,rfl,by show (strOfNums [97+(p2:Int)]).size<=40;rw [bG7];omega,by omega,(Z HC4).below (((((Below.refl K _).setCell (p:=⟨w.heap.size,0,none⟩) hK _).setCell (p:=⟨w.heap.size,1,none⟩) hK _).setCell (p:=⟨w.heap.size,2,none⟩) hK _).setCell (p:=⟨w.heap.size,3,none⟩) hK _)⟩,(Z HB4).onw (((((Below.refl w.heap.size _).setCell (p:=⟨w.heap.size,0,none⟩) (Nat.le_refl _) _).setCell (p:=⟨w.heap.size,1,none⟩) (Nat.le_refl _) _).setCell (p:=⟨w.heap.size,2,none⟩) (Nat.le_refl _) _).setCell (p:=⟨w.heap.size,3,none⟩) (Nat.le_refl _) _)⟩
 ·go_wp2_with fail
  refine (bY K pc len c1 4 _ (Z HC1) (by omega) (by omega) (by omega)).mono ?_
  rintro e w2 ⟨⟨x1,c2,rfl,hd,hc⟩,hb⟩
  have hat2:c2.at_=c1.at_+1:=hd.at1
  obtain ⟨p1,hv⟩:∃ r,r=x1 % 4:=⟨_,rfl⟩
  rw [<- hv]
  have hp1:p1<4:=by omega
  have HC2:=O hc
  have HB2:=O ((Z HB1).trans hb)
  have BX2:=O ((hb.block w.heap.size (by omega) (.inr (by omega))).trans (Z BX1))
  have hs2:w.heap.size+1<=w2.heap.size:=Nat.le_trans hs1 hb.size
  clear hd hc hb hv HC1 HB1 BX1
  go_wp2_with fail
  refine (bY K pc len c2 3 _ (Z HC2) (by omega) (by omega) (by omega)).mono ?_
  rintro e w3 ⟨⟨x2,c3,rfl,hd,hc⟩,hb⟩
  have hat3:c3.at_=c2.at_+1:=hd.at1
  obtain ⟨p2,hv⟩:∃ r,r=x2 % 3:=⟨_,rfl⟩
  rw [<- hv]
  have hp2:p2<3:=by omega
  have HC3:=O hc
  have HB3:=O ((Z HB2).trans hb)
  have BX3:=O ((hb.block w.heap.size (by omega) (.inr (by omega))).trans (Z BX2))
  have hs3:w.heap.size+1<=w3.heap.size:=Nat.le_trans hs2 hb.size
  clear hd hc hb hv HC2 HB2 BX2
  have wl:IntKind.i64.wrap (97+(p2:Int))=97+(p2:Int):=by rw [IntKind.wrap_i64];omega
  have wu:IntKind.u8.wrap (97+(p2:Int))=97+(p2:Int):=by rw [qX];omega
  have BN:=O (bH w3 (.cells #[.int .u8 (97+(p2:Int))] 5))
  have ec:=kY (w3.alloc (.cells #[.int .u8 (97+(p2:Int))] 5)) w3.heap.size (97+(p2:Int)) (by rw [cell_of_row _ _ 0 _ _ _ (heap_alloc_new w3 _)];rfl)
  have HB4:=O ((Z HB3).onw ((Z BN).mono (by omega)))
  have HC4:=O ((Z HC3).below ((Z BN).mono (by omega)))
  have BX4:=O (((Z BN).block w.heap.size (by omega)).trans (Z BX3))
  obtain ⟨c4,e4⟩:∃ c4,c4=c3:=⟨_,rfl⟩
  rw [<- e4] at HC4 hat3
  clear e4
  obtain ⟨⟨r0,r1,r2,r3⟩,f0,f1,f2,f3⟩:=eN (Z BX4)
  go_wp2
  refine bodyPost_ret (v:=.agg #[.int .i64 3,.int .i64 (p1:Int),.int .i64 0,.string (strOfNums [97+(p2:Int)])]) (by simp [results,Tryz.results87,go_sem,r0,r1,r2,r3]) rfl ?_
  refine ⟨⟨⟨3,(p1:Int),0,(strOfNums [97+(p2:Int)])⟩,c4,rfl,by show (strOfNums [97+(p2:Int)]).size<=40;rw [bG7];omega,by omega,(Z HC4).below (((((Below.refl K _).setCell (p:=⟨w.heap.size,0,none⟩) hK _).setCell (p:=⟨w.heap.size,1,none⟩) hK _).setCell (p:=⟨w.heap.size,2,none⟩) hK _).setCell (p:=⟨w.heap.size,3,none⟩) hK _)⟩,(Z HB4).onw (((((Below.refl w.heap.size _).setCell (p:=⟨w.heap.size,0,none⟩) (Nat.le_refl _) _).setCell (p:=⟨w.heap.size,1,none⟩) (Nat.le_refl _) _).setCell (p:=⟨w.heap.size,2,none⟩) (Nat.le_refl _) _).setCell (p:=⟨w.heap.size,3,none⟩) (Nat.le_refl _) _)⟩
 obtain ⟨⟨r0,r1,r2,r3⟩,f0,f1,f2,f3⟩:=eN (Z BX1)
 go_wp2
 refine bodyPost_ret (v:=.agg #[.int .i64 4,.int .i64 0,.int .i64 0,.string ⟨#[]⟩]) (by simp [results,Tryz.results87,go_sem,r0,r1,r2,r3]) rfl ?_
 refine ⟨⟨⟨4,0,0,⟨#[]⟩⟩,c1,rfl,Nat.zero_le _,by omega,(Z HC1).below (((((Below.refl K _).setCell (p:=⟨w.heap.size,0,none⟩) hK _).setCell (p:=⟨w.heap.size,1,none⟩) hK _).setCell (p:=⟨w.heap.size,2,none⟩) hK _).setCell (p:=⟨w.heap.size,3,none⟩) hK _)⟩,(Z HB1).onw (((((Below.refl w.heap.size _).setCell (p:=⟨w.heap.size,0,none⟩) (Nat.le_refl _) _).setCell (p:=⟨w.heap.size,1,none⟩) (Nat.le_refl _) _).setCell (p:=⟨w.heap.size,2,none⟩) (Nat.le_refl _) _).setCell (p:=⟨w.heap.size,3,none⟩) (Nat.le_refl _) _)⟩
theorem placeU_any (K pc len:Nat) (c:Cu) (v1 v2:Value) (n:Nat) (f:Nat->M) (lo:Nat) (w:World) (h:Cur K w pc len c) (hK:K<=w.heap.size) (hat:c.at_<4611686018427387800) (hm:bQ lo w v2 n f) (hn:n<90) :
  Calls Tryz.prog 88 #[.pointer (some ⟨pc,0,none⟩),.agg #[v1,v2]] w fun e w'=>(∃ (x:Int) (c':Cu),e=.returned (.int .i64 x)/\c'.at_<=c.at_+1/\Cur K w' pc len c')/\dY pc (pc+1) w w':=by
 obtain ⟨a,cap,rfl,-⟩:=hm
 have H0:=O (h.below ((bH w (.cells #[v1,.slice a n cap] 26)).mono hK))
 have HB0:=O (dY.of_below pc (pc+1) (bH w (.cells #[v1,.slice a n cap] 26)))
 clear h
 have wn:IntKind.i64.wrap ((n:Int)+4)=((n+4:Nat):Int):=by rw [IntKind.wrap_i64];omega
 go_enter Tryz.func88,Tryz.ntmps88
 go_wp2_with fail
 rw [show ((n:Int)+4)=((n+4:Nat):Int) by omega]
 refine (bY K pc len c (n+4) _ (Z H0) (by omega) (by omega) (by omega)).mono ?_
 rintro e w1 ⟨⟨x,c1,rfl,hd,hc1⟩,hb1⟩
 have hat1:c1.at_=c.at_+1:=hd.at1
 obtain ⟨r,hr⟩:∃ r,r=x % (n+4):=⟨_,rfl⟩
 rw [<- hr]
 have hr6:r<n+4:=by rw [hr];exact Nat.mod_lt _ (by omega)
 have HC1:=O hc1
 have HB1:=O ((Z HB0).trans hb1)
 have wr:IntKind.i64.wrap ((r:Int) - 2)=(r:Int) - 2:=by rw [IntKind.wrap_i64];omega
 clear hd hc1 hb1 hr H0 HB0
 go_wp2
 go_ret
 exact ⟨⟨_,c1,rfl,by omega,Z HC1⟩,Z HB1⟩
theorem oddU_any (K pc len:Nat) (c:Cu) (w:World) (h:Cur K w pc len c) (hK:K<=w.heap.size) (hat:c.at_<4611686018427387700) :
  Calls Tryz.prog 89 #[.pointer (some ⟨pc,0,none⟩)] w fun e w'=>StopU K pc len 5 c w e w':=by
 have hpc:pc<K:=h.hk
 have H0:=O (h.below ((bH w (.cells #[.int .i64 0,.int .i64 0,.int .i64 0,.string ⟨#[]⟩] 45)).mono hK))
 have BX0:=O (heap_alloc_new w (.cells #[.int .i64 0,.int .i64 0,.int .i64 0,.string ⟨#[]⟩] 45))
 have HB0:=O (dY.of_below pc (pc+1) (bH w (.cells #[.int .i64 0,.int .i64 0,.int .i64 0,.string ⟨#[]⟩] 45)))
 clear h
 go_enter Tryz.func89,Tryz.ntmps89
 go_wp2_with fail
 refine (bQ5 K pc len c _ (Z H0) (by simp;omega) (by omega)).mono ?_
 rintro e w1 ⟨⟨s,c1,rfl,hz,hat1,hc1⟩,hb1⟩
 have hs1:w.heap.size+1<=w1.heap.size:=by have:=hb1.size;simpa using this
 have BN:=O (bH w1 (.cells #[.int .i64 s.kind,.int .i64 s.fn,.int .i64 s.line,.string s.name] 45))
 have BY1:=O (heap_alloc_new w1 (.cells #[.int .i64 s.kind,.int .i64 s.fn,.int .i64 s.line,.string s.name] 45))
 have HC1:=O (hc1.below ((Z BN).mono (by omega)))
 have HB1:=O (((Z HB0).trans hb1).onw ((Z BN).mono (by omega)))
 have BX1:=O (((Z BN).block w.heap.size (by omega)).trans ((hb1.block w.heap.size (by simp) (.inr (by omega))).trans (Z BX0)))
 clear hc1 hb1 H0 BX0 HB0 BN
 go_wp2_with fail
 refine (bY K pc len c1 4 _ (Z HC1) (by omega) (by omega) (by omega)).mono ?_
 rintro e w2 ⟨⟨x,c2,rfl,hd,hc2⟩,hb2⟩
 have hat2:c2.at_=c1.at_+1:=hd.at1
 obtain ⟨r,hr⟩:∃ r,r=x % 4:=⟨_,rfl⟩
 rw [<- hr]
 have hr4:r<4:=by omega
 have HC2:=O hc2
 have HB2:=O ((Z HB1).trans hb2)
 have BX2:=O ((hb2.block w.heap.size (by simp;omega) (.inr (by omega))).trans (Z BX1))
 have BY2:=O ((hb2.block w1.heap.size (by simp) (.inr (by omega))).trans (Z BY1))
 have hs2:w1.heap.size+1<=w2.heap.size:=by have:=hb2.size;simpa using this
 clear hd hc2 hb2 hr HC1 HB1 BX1 BY1
 rcases (by omega:r=0∨r=1∨r=2∨r=3) with rfl | rfl | rfl | rfl
 ·go_wp2_with fail
  refine (bY K pc len c2 6 _ (Z HC2) (by omega) (by omega) (by omega)).mono ?_
  rintro e w3 ⟨⟨x2,c3,rfl,hd,hc⟩,hb⟩
  have hat3:c3.at_=c2.at_+1:=hd.at1
  obtain ⟨p1,hv⟩:∃ r,r=x2 % 6:=⟨_,rfl⟩
  rw [<- hv]
  have hp1:p1<6:=by omega
  have HC3:=O hc
  have HB3:=O ((Z HB2).trans hb)
  have BX3:=O ((hb.block w.heap.size (by omega) (.inr (by omega))).trans (Z BX2))
  have BY3:=O ((hb.block w1.heap.size (by omega) (.inr (by omega))).trans (Z BY2))
  have hs3:w1.heap.size+1<=w3.heap.size:=Nat.le_trans hs2 hb.size
  clear hd hc hb hv HC2 HB2 BX2 BY2
  obtain ⟨⟨r0,r1,r2,r3⟩,f0,f1,f2,f3⟩:=eN (Z BX3)
  obtain ⟨⟨ry0,ry1,ry2,ry3⟩,fy0,fy1,fy2,fy3⟩:=eN (Z BY3)
  have hne:¬ w.heap.size=w1.heap.size:=by omega
  have hne':¬ w1.heap.size=w.heap.size:=by omega
  go_wp2
  refine bodyPost_ret (v:=.agg #[.int .i64 (p1:Int),.int .i64 s.fn,.int .i64 s.line,.string s.name]) (by simp [results,Tryz.results89,go_sem, *]) rfl ?_
  refine ⟨⟨⟨(p1:Int),s.fn,s.line,s.name⟩,c3,rfl,hz,by omega,(Z HC3).below ((((((Below.refl K _).setCell (p:=⟨w1.heap.size,0,none⟩) (by show _<=w1.heap.size;omega) _).setCell (p:=⟨w.heap.size,0,none⟩) hK _).setCell (p:=⟨w.heap.size,1,none⟩) hK _).setCell (p:=⟨w.heap.size,2,none⟩) hK _).setCell (p:=⟨w.heap.size,3,none⟩) hK _)⟩,(Z HB3).onw ((((((Below.refl w.heap.size _).setCell (p:=⟨w1.heap.size,0,none⟩) (by show _<=w1.heap.size;omega) _).setCell (p:=⟨w.heap.size,0,none⟩) (Nat.le_refl _) _).setCell (p:=⟨w.heap.size,1,none⟩) (Nat.le_refl _) _).setCell (p:=⟨w.heap.size,2,none⟩) (Nat.le_refl _) _).setCell (p:=⟨w.heap.size,3,none⟩) (Nat.le_refl _) _)⟩
 ·go_wp2_with fail
  refine (bY K pc len c2 2 _ (Z HC2) (by omega) (by omega) (by omega)).mono ?_
  rintro e w3 ⟨⟨x2,c3,rfl,hd,hc⟩,hb⟩
  have hat3:c3.at_=c2.at_+1:=hd.at1
  obtain ⟨p1,hv⟩:∃ r,r=x2 % 2:=⟨_,rfl⟩
  rw [<- hv]
  have hp1:p1<2:=by omega
  have HC3:=O hc
  have HB3:=O ((Z HB2).trans hb)
  have BX3:=O ((hb.block w.heap.size (by omega) (.inr (by omega))).trans (Z BX2))
  have BY3:=O ((hb.block w1.heap.size (by omega) (.inr (by omega))).trans (Z BY2))
  have hs3:w1.heap.size+1<=w3.heap.size:=Nat.le_trans hs2 hb.size
  clear hd hc hb hv HC2 HB2 BX2 BY2
  have wl:IntKind.i64.wrap (300 - (p1:Int))=300 - (p1:Int):=by rw [IntKind.wrap_i64];omega
  obtain ⟨⟨r0,r1,r2,r3⟩,f0,f1,f2,f3⟩:=eN (Z BX3)
  obtain ⟨⟨ry0,ry1,ry2,ry3⟩,fy0,fy1,fy2,fy3⟩:=eN (Z BY3)
  have hne:¬ w.heap.size=w1.heap.size:=by omega
  have hne':¬ w1.heap.size=w.heap.size:=by omega
  go_wp2
  refine bodyPost_ret (v:=.agg #[.int .i64 s.kind,.int .i64 (300 - (p1:Int)),.int .i64 s.line,.string s.name]) (by simp [results,Tryz.results89,go_sem, *]) rfl ?_
  refine ⟨⟨⟨s.kind,(300 - (p1:Int)),s.line,s.name⟩,c3,rfl,hz,by omega,(Z HC3).below ((((((Below.refl K _).setCell (p:=⟨w1.heap.size,1,none⟩) (by show _<=w1.heap.size;omega) _).setCell (p:=⟨w.heap.size,0,none⟩) hK _).setCell (p:=⟨w.heap.size,1,none⟩) hK _).setCell (p:=⟨w.heap.size,2,none⟩) hK _).setCell (p:=⟨w.heap.size,3,none⟩) hK _)⟩,(Z HB3).onw ((((((Below.refl w.heap.size _).setCell (p:=⟨w1.heap.size,1,none⟩) (by show _<=w1.heap.size;omega) _).setCell (p:=⟨w.heap.size,0,none⟩) (Nat.le_refl _) _).setCell (p:=⟨w.heap.size,1,none⟩) (Nat.le_refl _) _).setCell (p:=⟨w.heap.size,2,none⟩) (Nat.le_refl _) _).setCell (p:=⟨w.heap.size,3,none⟩) (Nat.le_refl _) _)⟩
 ·go_wp2_with fail
  refine (bY K pc len c2 3 _ (Z HC2) (by omega) (by omega) (by omega)).mono ?_
  rintro e w3 ⟨⟨x2,c3,rfl,hd,hc⟩,hb⟩
  have hat3:c3.at_=c2.at_+1:=hd.at1
  obtain ⟨p1,hv⟩:∃ r,r=x2 % 3:=⟨_,rfl⟩
  rw [<- hv]
  have hp1:p1<3:=by omega
  have HC3:=O hc
  have HB3:=O ((Z HB2).trans hb)
  have BX3:=O ((hb.block w.heap.size (by omega) (.inr (by omega))).trans (Z BX2))
  have BY3:=O ((hb.block w1.heap.size (by omega) (.inr (by omega))).trans (Z BY2))
  have hs3:w1.heap.size+1<=w3.heap.size:=Nat.le_trans hs2 hb.size
  clear hd hc hb hv HC2 HB2 BX2 BY2
  obtain ⟨⟨r0,r1,r2,r3⟩,f0,f1,f2,f3⟩:=eN (Z BX3)
  obtain ⟨⟨ry0,ry1,ry2,ry3⟩,fy0,fy1,fy2,fy3⟩:=eN (Z BY3)
  have hne:¬ w.heap.size=w1.heap.size:=by omega
  have hne':¬ w1.heap.size=w.heap.size:=by omega
  go_wp2
  refine bodyPost_ret (v:=.agg #[.int .i64 s.kind,.int .i64 s.fn,.int .i64 (p1:Int),.string s.name]) (by simp [results,Tryz.results89,go_sem, *]) rfl ?_
  refine ⟨⟨⟨s.kind,s.fn,(p1:Int),s.name⟩,c3,rfl,hz,by omega,(Z HC3).below ((((((Below.refl K _).setCell (p:=⟨w1.heap.size,2,none⟩) (by show _<=w1.heap.size;omega) _).setCell (p:=⟨w.heap.size,0,none⟩) hK _).setCell (p:=⟨w.heap.size,1,none⟩) hK _).setCell (p:=⟨w.heap.size,2,none⟩) hK _).setCell (p:=⟨w.heap.size,3,none⟩) hK _)⟩,(Z HB3).onw ((((((Below.refl w.heap.size _).setCell (p:=⟨w1.heap.size,2,none⟩) (by show _<=w1.heap.size;omega) _).setCell (p:=⟨w.heap.size,0,none⟩) (Nat.le_refl _) _).setCell (p:=⟨w.heap.size,1,none⟩) (Nat.le_refl _) _).setCell (p:=⟨w.heap.size,2,none⟩) (Nat.le_refl _) _).setCell (p:=⟨w.heap.size,3,none⟩) (Nat.le_refl _) _)⟩
 obtain ⟨⟨r0,r1,r2,r3⟩,f0,f1,f2,f3⟩:=eN (Z BX2)
 obtain ⟨⟨ry0,ry1,ry2,ry3⟩,fy0,fy1,fy2,fy3⟩:=eN (Z BY2)
 have hne:¬ w.heap.size=w1.heap.size:=by omega
 have hne':¬ w1.heap.size=w.heap.size:=by omega
 go_wp2
 refine bodyPost_ret (v:=.agg #[.int .i64 s.kind,.int .i64 s.fn,.int .i64 s.line,.string ⟨#[110]⟩]) (by simp [results,Tryz.results89,go_sem, *]) rfl ?_
 refine ⟨⟨⟨s.kind,s.fn,s.line,⟨#[110]⟩⟩,c2,rfl,by show (⟨#[110]⟩:ByteArray).size<=40;decide,by omega,(Z HC2).below ((((((Below.refl K _).setCell (p:=⟨w1.heap.size,3,none⟩) (by show _<=w1.heap.size;omega) _).setCell (p:=⟨w.heap.size,0,none⟩) hK _).setCell (p:=⟨w.heap.size,1,none⟩) hK _).setCell (p:=⟨w.heap.size,2,none⟩) hK _).setCell (p:=⟨w.heap.size,3,none⟩) hK _)⟩,(Z HB2).onw ((((((Below.refl w.heap.size _).setCell (p:=⟨w1.heap.size,3,none⟩) (by show _<=w1.heap.size;omega) _).setCell (p:=⟨w.heap.size,0,none⟩) (Nat.le_refl _) _).setCell (p:=⟨w.heap.size,1,none⟩) (Nat.le_refl _) _).setCell (p:=⟨w.heap.size,2,none⟩) (Nat.le_refl _) _).setCell (p:=⟨w.heap.size,3,none⟩) (Nat.le_refl _) _)⟩
end
section
attribute [local go_sem ↓] Go.wp_at_zero Go.wp_at_succ
def fV (l:List Ak):List Value:=l.flatMap fun a=>[.int .i64 a.op,.int .i64 a.n,.string a.name,.int .i64 a.stop.kind,.int .i64 a.stop.fn,.int .i64 a.stop.line,.string a.stop.name]
theorem akCells_app (l:List Ak) (a:Ak):fV (l ++ [a])=fV l ++ [.int .i64 a.op,.int .i64 a.n,.string a.name,.int .i64 a.stop.kind,.int .i64 a.stop.fn,.int .i64 a.stop.line,.string a.stop.name]:=by simp [fV]
structure vP (w0:World) (K pc len:Nat) (v1 v2:Value) (W:World) (c:Cu) (l:List Ak) (ov:Value):Prop where
 cur:Cur K W pc len c
 kw:K<=w0.heap.size
 btw:dY pc (pc+1) w0 W
 row:W.ownsRow (w0.heap.size+1) 47 7 ov l.length (fV l)
 tr:W.heap[w0.heap.size]?=some (.cells #[v1,v2] 26 (0,0))
 nm:∀ x,x∈l->x.name.size<=40/\x.stop.name.size<=40
structure ABx (w0:World) (mb:Nat) (W:World) (ov:Value) (a:Ak):Prop where
 hB:w0.heap.size+1<=mb
 box:W.heap[mb]?=some (.cells #[.int .i64 a.op,.int .i64 a.n,.string a.name,.int .i64 a.stop.kind,.int .i64 a.stop.fn,.int .i64 a.stop.line,.string a.stop.name] 47 (0,0))
 far:ov.ownBlock≠some mb
 nm:a.name.size<=40/\a.stop.name.size<=40
section
variable {w0:World} {K pc len mb:Nat} {v1 v2:Value} {W W':World} {c c':Cu} {l:List Ak} {ov:Value} {a:Ak}
theorem vP.draw  (h:vP w0 K pc len v1 v2 W c l ov) (hb:dY pc (pc+1) W W') (hc:Cur K W' pc len c'):vP w0 K pc len v1 v2 W' c' l ov:=by
 have h1:=h.cur.hk
 have h2:=h.kw
 exact ⟨hc,h.kw,h.btw.trans hb,mN h.row hb (by omega),by rw [hb.block w0.heap.size (cJ h.tr) (.inr (by omega))];exact h.tr,h.nm⟩
theorem vP.below  (h:vP w0 K pc len v1 v2 W c l ov) (hb:Below W.heap.size W W'):vP w0 K pc len v1 v2 W' c l ov:=by
 have h2:=h.kw
 have h3:=h.btw.size
 exact ⟨h.cur.below (hb.mono (by omega)),h.kw,h.btw.onw (hb.mono h3),bN h.row hb,by rw [hb.block _ (cJ h.tr)];exact h.tr,h.nm⟩
theorem vP.set  {i:Nat} {u:Value} (h:vP w0 K pc len v1 v2 W c l ov) (h1:w0.heap.size+1<=mb) (h2:ov.ownBlock≠some mb):vP w0 K pc len v1 v2 (W.setCell ⟨mb,i,none⟩ u) c l ov:=by
 have h3:=h.kw
 exact ⟨h.cur.below ((Below.refl K _).setCell (p:=⟨mb,i,none⟩) (by show K<=mb;omega) _),h.kw,h.btw.onw ((Below.refl w0.heap.size _).setCell (p:=⟨mb,i,none⟩) (by show _<=mb;omega) _),cM h.row h2,by rw [Below.heap_setCell _ _ _ _ (by show w0.heap.size≠mb;omega)];exact h.tr,h.nm⟩
theorem ABx.draw  (h:ABx w0 mb W ov a) (hb:dY pc (pc+1) W W') (hp:pc<w0.heap.size):ABx w0 mb W' ov a :=
 ⟨h.hB,by have:=h.hB;rw [hb.block mb (cJ h.box) (.inr (by omega))];exact h.box,h.far,h.nm⟩
theorem ABx.below  (h:ABx w0 mb W ov a) (hb:Below W.heap.size W W'):ABx w0 mb W' ov a :=
 ⟨h.hB,by rw [hb.block mb (cJ h.box)];exact h.box,h.far,h.nm⟩
theorem ABx.op  (h:ABx w0 mb W ov a) (x:Int):ABx w0 mb (W.setCell ⟨mb,0,none⟩ (.int .i64 x)) ov ⟨x,a.n,a.name,a.stop⟩ :=
 ⟨h.hB,by simp [World.setCell,Array.getElem?_modify,h.box],h.far,h.nm⟩
theorem ABx.n  (h:ABx w0 mb W ov a) (x:Int):ABx w0 mb (W.setCell ⟨mb,1,none⟩ (.int .i64 x)) ov ⟨a.op,x,a.name,a.stop⟩ :=
 ⟨h.hB,by simp [World.setCell,Array.getElem?_modify,h.box],h.far,h.nm⟩
theorem ABx.name  (h:ABx w0 mb W ov a) (x:ByteArray) (hx:x.size<=40):ABx w0 mb (W.setCell ⟨mb,2,none⟩ (.string x)) ov ⟨a.op,a.n,x,a.stop⟩ :=
 ⟨h.hB,by simp [World.setCell,Array.getElem?_modify,h.box],h.far,⟨hx,h.nm.2⟩⟩
theorem ABx.stop  (h:ABx w0 mb W ov a) (s:Sp) (hs:s.name.size<=40):ABx w0 mb ((((W.setCell ⟨mb,3,none⟩ (.int .i64 s.kind)).setCell ⟨mb,4,none⟩ (.int .i64 s.fn)).setCell ⟨mb,5,none⟩ (.int .i64 s.line)).setCell ⟨mb,6,none⟩ (.string s.name)) ov ⟨a.op,a.n,a.name,s⟩ :=
 ⟨h.hB,by simp [World.setCell,Array.getElem?_modify,h.box],h.far,h.nm.1,hs⟩
theorem ABx.cells  (h:ABx w0 mb W ov a):W.cell? ⟨mb,0,none⟩=some (.int .i64 a.op)/\W.cell? ⟨mb,1,none⟩=some (.int .i64 a.n)/\W.cell? ⟨mb,2,none⟩=some (.string a.name)/\W.cell? ⟨mb,3,none⟩=some (.int .i64 a.stop.kind)/\W.cell? ⟨mb,4,none⟩=some (.int .i64 a.stop.fn)/\W.cell? ⟨mb,5,none⟩=some (.int .i64 a.stop.line)/\W.cell? ⟨mb,6,none⟩=some (.string a.stop.name):=by
 refine ⟨?_,?_,?_,?_,?_,?_,?_⟩<;>(rw [cell_of_row W mb _ _ _ _ h.box];rfl)
theorem ABx.fz  (h:ABx w0 mb W ov a) (i:Nat):W.frozen? ⟨mb,i,none⟩=false:=by simp [World.frozen?,h.box]
theorem vP.tcells  (h:vP w0 K pc len v1 v2 W c l ov):W.cell? ⟨w0.heap.size,0,none⟩=some v1/\W.cell? ⟨w0.heap.size,1,none⟩=some v2:=by
 refine ⟨?_,?_⟩<;>(rw [cell_of_row W w0.heap.size _ _ _ _ h.tr];rfl)
end
theorem asksU_any (K pc len:Nat) (c:Cu) (v1 v2:Value) (nm:Nat) (f:Nat->M) (lo:Nat) (w:World) (h:Cur K w pc len c) (hK:K<=w.heap.size) (hat:c.at_<=10) (hm:∀ W,dY pc (pc+1) w W->bQ lo W v2 nm f) (hnm:nm<90) :
  Calls Tryz.prog 36 #[.pointer (some ⟨pc,0,none⟩),.agg #[v1,v2]] w fun e w'=>(∃ v l,e=.returned v/\l.length<=23/\w'.ownsRow (w.heap.size+1) 47 7 v l.length (fV l)/\∀ x,x∈l->x.name.size<=40/\x.stop.name.size<=40)/\dY pc (pc+1) w w':=by
 have hpK:pc<K:=h.hk
 have hpw:pc<w.heap.size:=by omega
 have HMS:=O hm
 have HR0:Hid (vP w K pc len v1 v2 (w.alloc (.cells #[v1,v2] 26)) c [] (.slice none 0 0)):=O ⟨h.below ((bH w _).mono hK),hK,dY.of_below pc (pc+1) (bH w _),World.ownsRow_nil _ _ _ _,heap_alloc_new w _,fun x hx=>by cases hx⟩
 clear h hm
 obtain ⟨i0,hi0,hz0,hz1,hz2⟩:=info_parts info_Ask
 have II:=O (And.intro hi0 (And.intro hz0 (And.intro hz1 hz2)));clear hi0 hz0 hz1 hz2
 go_enter Tryz.func36,Tryz.ntmps36
 go_wp2_with fail
 refine (bY K pc len c 24 _ (Z HR0).cur (by omega) (by omega) (by omega)).mono ?_
 rintro e w0 ⟨⟨x,c0,rfl,hd,hc⟩,hb⟩
 have hat0:c0.at_=c.at_+1:=hd.at1
 obtain ⟨n,hn⟩:∃ n,n=x % 24:=⟨_,rfl⟩
 have hn3:n<=23:=by omega
 rw [<- hn]
 have HR:=O ((Z HR0).draw hb hc)
 clear hd hc hb hn HR0
 go_wp2_with fail
 go_loopg [5,6] n (fun g ov nv wr=>∃ (l:List Ak) (c:Cu) (oa:Option Addr) (oc:Nat),l.length+g=n/\ov=.slice oa l.length oc/\nv=.int .i64 (g:Int)/\vP w K pc len v1 v2 wr c l ov/\c.at_<=20+20*l.length)
 case atStart=>exact ⟨[],c0,none,0,by simp,rfl,rfl,Z HR,by simp;omega⟩
 case round =>
  clear HR
  obtain ⟨l,c,oa,oc,hl,rfl,rfl,hr,hat⟩:=hrel
  have HR:=O hr
  clear hr
  obtain ⟨ln,hln⟩:∃ ln,ln=l.length:=⟨_,rfl⟩
  rw [<- hln] at hl hat HR ⊢
  have HLN:=O hln
  clear hln
  by_cases hlt:0<gk
  ·have hi1:(0:Int)<(gk:Int):=by omega
   go_upto_region 5 with fail
   go_cut [7] (fun m7 W=>∃ (mb:Nat) (c1:Cu) (a:Ak) (r:Nat),m7=.pointer (some ⟨mb,0,none⟩)/\vP w K pc len v1 v2 W c1 l (.slice oa ln oc)/\ABx w mb W (.slice oa ln oc) a/\a.op=1+(r:Int)/\r<13/\c1.at_<=c.at_+1)
   case first =>
    go_wp2_with fail
    refine (bY K pc len c 13 _ (Z HR).cur (by omega) (by omega) (by omega)).mono ?_
    rintro e wp ⟨⟨y,c1,rfl,hd,hc⟩,hb⟩
    have hat1:c1.at_=c.at_+1:=hd.at1
    obtain ⟨r,hr⟩:∃ r,r=y % 13:=⟨_,rfl⟩
    rw [<- hr]
    have hr13:r<13:=by omega
    have wl:IntKind.i64.wrap (1+(r:Int))=1+(r:Int):=by rw [IntKind.wrap_i64];omega
    have HM:=O ((Z HR).draw hb hc)
    have BN:=O (bH wp (.cells #[.int .i64 (1+(r:Int)),.int .i64 0,.string ⟨#[]⟩,.int .i64 0,.int .i64 0,.int .i64 0,.string ⟨#[]⟩] 47))
    clear hb hc hd hr
    go_wp2_with fail
    go_meet
    case rel=>exact ⟨_,c1,⟨1+(r:Int),0,⟨#[]⟩,⟨0,0,0,⟨#[]⟩⟩⟩,r,rfl,(Z HM).below (Z BN),⟨cJ (Z HM).tr,heap_alloc_new wp _,fun e=>Nat.lt_irrefl _ ((Z HM).row.lt _ e).2,Nat.zero_le _,Nat.zero_le _⟩,rfl,hr13,by omega⟩
   case rest =>
    obtain ⟨mb,c1,a,r,rfl,hM,hX,hop,hr13,hat1⟩:=hcut
    have HM:=O hM
    have HX:=O hX
    clear hM hX HR
    apply_assumption
    refine wp_seq_k fun KB hKB=>?_
    go_cut [7] (fun m7 W=>∃ (a':Ak) (c2:Cu),m7=.pointer (some ⟨mb,0,none⟩)/\vP w K pc len v1 v2 W c2 l (.slice oa ln oc)/\ABx w mb W (.slice oa ln oc) a'/\c2.at_<=c.at_+5)
    case first =>
     obtain ⟨q0,q1,q2,q3,q4,q5,q6⟩:=(Z HX).cells
     have z0:=(Z HX).fz 0
     have z1:=(Z HX).fz 1
     have z2:=(Z HX).fz 2
     have z3:=(Z HX).fz 3
     have z4:=(Z HX).fz 4
     have z5:=(Z HX).fz 5
     have z6:=(Z HX).fz 6
     rcases (show r=0∨r=1∨r=2∨r=3∨r=4∨r=5∨r=6∨r=7∨r=8∨r=9∨r=10∨r=11∨r=12 by omega) with rfl | rfl | rfl | rfl | rfl | rfl | rfl | rfl | rfl | rfl | rfl | rfl | rfl
     ·as_aux_lemma =>
        have hop2:a.op=1:=by omega
        rw [hop2] at q0
        go_wp2_with fail
        refine (bQ5 K pc len c1 _ (Z HM).cur (by have:=(Z HM).kw;have:=(Z HM).btw.size;omega) (by omega)).mono ?_
        rintro e wp ⟨⟨sp,c2,rfl,hz,hat2,hc⟩,hb⟩
        replace HM:=O ((Z HM).draw hb hc)
        replace HX:=O ((Z HX).draw hb hpw)
        clear hb hc
        clear q0 q1 q2 q3 q4 q5 q6 z0 z1 z2 z3 z4 z5 z6
        obtain ⟨q0,q1,q2,q3,q4,q5,q6⟩:=(Z HX).cells
        have z0:=(Z HX).fz 0
        have z1:=(Z HX).fz 1
        have z2:=(Z HX).fz 2
        have z3:=(Z HX).fz 3
        have z4:=(Z HX).fz 4
        have z5:=(Z HX).fz 5
        have z6:=(Z HX).fz 6
        have HX2:=O ((Z HX).stop sp hz)
        have HM2:=O ((((Z HM).set (i:=3) (u:=.int .i64 sp.kind) (Z HX).hB (Z HX).far).set (i:=4) (u:=.int .i64 sp.fn) (Z HX).hB (Z HX).far).set (i:=5) (u:=.int .i64 sp.line) (Z HX).hB (Z HX).far |>.set (i:=6) (u:=.string sp.name) (Z HX).hB (Z HX).far)
        go_wp2_with fail
        go_meet
        case rel=>exact ⟨_,c2,rfl,Z HM2,Z HX2,by omega⟩
     ·as_aux_lemma =>
        have hop2:a.op=2:=by omega
        rw [hop2] at q0
        go_wp2_with fail
        refine (bY K pc len c1 3 _ (Z HM).cur (by omega) (by omega) (by omega)).mono ?_
        rintro e wp ⟨⟨y,c2,rfl,hd,hc⟩,hb⟩
        have hat2:c2.at_=c1.at_+1:=hd.at1
        obtain ⟨t,ht⟩:∃ t,t=y % 3:=⟨_,rfl⟩
        rw [<- ht]
        have ht3:t<3:=by omega
        replace HM:=O ((Z HM).draw hb hc)
        replace HX:=O ((Z HX).draw hb hpw)
        clear hb hc hd ht
        clear q0 q1 q2 q3 q4 q5 q6 z0 z1 z2 z3 z4 z5 z6
        obtain ⟨q0,q1,q2,q3,q4,q5,q6⟩:=(Z HX).cells
        have z0:=(Z HX).fz 0
        have z1:=(Z HX).fz 1
        have z2:=(Z HX).fz 2
        have z3:=(Z HX).fz 3
        have z4:=(Z HX).fz 4
        have z5:=(Z HX).fz 5
        have z6:=(Z HX).fz 6
        have HX2:=O ((Z HX).n (t:Int))
        have HM2:=O ((Z HM).set (i:=1) (u:=.int .i64 (t:Int)) (Z HX).hB (Z HX).far)
        go_wp2_with fail
        go_meet
        case rel=>exact ⟨_,c2,rfl,Z HM2,Z HX2,by omega⟩
     ·as_aux_lemma =>
        have hop2:a.op=3:=by omega
        rw [hop2] at q0
        go_wp2_with fail
        go_meet
        case rel=>exact ⟨_,c1,rfl,Z HM,Z HX,by omega⟩
     ·as_aux_lemma =>
        have hop2:a.op=4:=by omega
        rw [hop2] at q0
        go_wp2_with fail
        go_meet
        case rel=>exact ⟨_,c1,rfl,Z HM,Z HX,by omega⟩
     ·as_aux_lemma =>
        have hop2:a.op=5:=by omega
        rw [hop2] at q0
        go_wp2_with fail
        go_meet
        case rel=>exact ⟨_,c1,rfl,Z HM,Z HX,by omega⟩
     ·as_aux_lemma =>
        have hop2:a.op=6:=by omega
        rw [hop2] at q0
        go_wp2_with fail
        go_meet
        case rel=>exact ⟨_,c1,rfl,Z HM,Z HX,by omega⟩
     ·as_aux_lemma =>
        have hop2:a.op=7:=by omega
        rw [hop2] at q0
        go_wp2_with fail
        go_meet
        case rel=>exact ⟨_,c1,rfl,Z HM,Z HX,by omega⟩
     ·as_aux_lemma =>
        have hop2:a.op=8:=by omega
        rw [hop2] at q0
        go_wp2_with fail
        go_meet
        case rel=>exact ⟨_,c1,rfl,Z HM,Z HX,by omega⟩
     ·as_aux_lemma =>
        have hop2:a.op=9:=by omega
        rw [hop2] at q0
        obtain ⟨t0,t1⟩:=(Z HM).tcells
        go_wp2_with fail
        refine (placeU_any K pc len c1 v1 v2 nm f lo _ (Z HM).cur (by have:=(Z HM).kw;have:=(Z HM).btw.size;omega) (by omega) (Z HMS _ (Z HM).btw) hnm).mono ?_
        rintro e wp ⟨⟨y,c2,rfl,hat2,hc⟩,hb⟩
        replace HM:=O ((Z HM).draw hb hc)
        replace HX:=O ((Z HX).draw hb hpw)
        clear hb hc t0 t1
        clear q0 q1 q2 q3 q4 q5 q6 z0 z1 z2 z3 z4 z5 z6
        obtain ⟨q0,q1,q2,q3,q4,q5,q6⟩:=(Z HX).cells
        have z0:=(Z HX).fz 0
        have z1:=(Z HX).fz 1
        have z2:=(Z HX).fz 2
        have z3:=(Z HX).fz 3
        have z4:=(Z HX).fz 4
        have z5:=(Z HX).fz 5
        have z6:=(Z HX).fz 6
        have HX2:=O ((Z HX).n y)
        have HM2:=O ((Z HM).set (i:=1) (u:=.int .i64 y) (Z HX).hB (Z HX).far)
        go_wp2_with fail
        go_meet
        case rel=>exact ⟨_,c2,rfl,Z HM2,Z HX2,by omega⟩
     ·as_aux_lemma =>
        have hop2:a.op=10:=by omega
        rw [hop2] at q0
        go_wp2_with fail
        refine (bY K pc len c1 3 _ (Z HM).cur (by omega) (by omega) (by omega)).mono ?_
        rintro e wp ⟨⟨y,c2,rfl,hd,hc⟩,hb⟩
        have hat2:c2.at_=c1.at_+1:=hd.at1
        obtain ⟨t,ht⟩:∃ t,t=y % 3:=⟨_,rfl⟩
        rw [<- ht]
        have ht3:t<3:=by omega
        replace HM:=O ((Z HM).draw hb hc)
        replace HX:=O ((Z HX).draw hb hpw)
        clear hb hc hd ht
        clear q0 q1 q2 q3 q4 q5 q6 z0 z1 z2 z3 z4 z5 z6
        obtain ⟨q0,q1,q2,q3,q4,q5,q6⟩:=(Z HX).cells
        have z0:=(Z HX).fz 0
        have z1:=(Z HX).fz 1
        have z2:=(Z HX).fz 2
        have z3:=(Z HX).fz 3
        have z4:=(Z HX).fz 4
        have z5:=(Z HX).fz 5
        have z6:=(Z HX).fz 6
        have HX2:=O ((Z HX).n (t:Int))
        have HM2:=O ((Z HM).set (i:=1) (u:=.int .i64 (t:Int)) (Z HX).hB (Z HX).far)
        go_wp2_with fail
        go_meet
        case rel=>exact ⟨_,c2,rfl,Z HM2,Z HX2,by omega⟩
     ·as_aux_lemma =>
        have hop2:a.op=11:=by omega
        rw [hop2] at q0
        go_wp2_with fail
        go_meet
        case rel=>exact ⟨_,c1,rfl,Z HM,Z HX,by omega⟩
     ·as_aux_lemma =>
        have hop2:a.op=12:=by omega
        rw [hop2] at q0
        go_wp2_with fail
        refine (bY K pc len c1 3 _ (Z HM).cur (by omega) (by omega) (by omega)).mono ?_
        rintro e wp ⟨⟨y,c2,rfl,hd,hc⟩,hb⟩
        have hat2:c2.at_=c1.at_+1:=hd.at1
        obtain ⟨t,ht⟩:∃ t,t=y % 3:=⟨_,rfl⟩
        rw [<- ht]
        have ht3:t<3:=by omega
        replace HM:=O ((Z HM).draw hb hc)
        replace HX:=O ((Z HX).draw hb hpw)
        clear hb hc hd ht
        clear q0 q1 q2 q3 q4 q5 q6 z0 z1 z2 z3 z4 z5 z6
        have wl:IntKind.i64.wrap (97+(t:Int))=97+(t:Int):=by rw [IntKind.wrap_i64];omega
        have wu:IntKind.u8.wrap (97+(t:Int))=97+(t:Int):=by rw [qX];omega
        have BN:=O (bH wp (.cells #[.int .u8 (97+(t:Int))] 5))
        have ec:=kY (wp.alloc (.cells #[.int .u8 (97+(t:Int))] 5)) wp.heap.size (97+(t:Int)) (by rw [cell_of_row _ _ 0 _ _ _ (heap_alloc_new wp _)];rfl)
        replace HM:=O ((Z HM).below (Z BN))
        replace HX:=O ((Z HX).below (Z BN))
        obtain ⟨q0,q1,q2,q3,q4,q5,q6⟩:=(Z HX).cells
        have z0:=(Z HX).fz 0
        have z1:=(Z HX).fz 1
        have z2:=(Z HX).fz 2
        have z3:=(Z HX).fz 3
        have z4:=(Z HX).fz 4
        have z5:=(Z HX).fz 5
        have z6:=(Z HX).fz 6
        have HX2:=O ((Z HX).name (strOfNums [97+(t:Int)]) (by rw [bG7];omega))
        have HM2:=O ((Z HM).set (i:=2) (u:=.string (strOfNums [97+(t:Int)])) (Z HX).hB (Z HX).far)
        go_wp2_with fail
        go_meet
        case rel=>exact ⟨_,c2,rfl,Z HM2,Z HX2,by omega⟩
     as_aux_lemma =>
       have hop2:a.op=13:=by omega
       rw [hop2] at q0
       go_wp2_with fail
       refine (bY K pc len c1 3 _ (Z HM).cur (by omega) (by omega) (by omega)).mono ?_
       rintro e wp ⟨⟨y,c2,rfl,hd,hc⟩,hb⟩
       have hat2:c2.at_=c1.at_+1:=hd.at1
       obtain ⟨t,ht⟩:∃ t,t=y % 3:=⟨_,rfl⟩
       rw [<- ht]
       have ht3:t<3:=by omega
       replace HM:=O ((Z HM).draw hb hc)
       replace HX:=O ((Z HX).draw hb hpw)
       clear hb hc hd ht
       clear q0 q1 q2 q3 q4 q5 q6 z0 z1 z2 z3 z4 z5 z6
       obtain ⟨q0,q1,q2,q3,q4,q5,q6⟩:=(Z HX).cells
       have z0:=(Z HX).fz 0
       have z1:=(Z HX).fz 1
       have z2:=(Z HX).fz 2
       have z3:=(Z HX).fz 3
       have z4:=(Z HX).fz 4
       have z5:=(Z HX).fz 5
       have z6:=(Z HX).fz 6
       have HX2:=O ((Z HX).n (t:Int))
       have HM2:=O ((Z HM).set (i:=1) (u:=.int .i64 (t:Int)) (Z HX).hB (Z HX).far)
       go_wp2_with fail
       go_meet
       case rel=>exact ⟨_,c2,rfl,Z HM2,Z HX2,by omega⟩
    case rest =>
     clear HM HX
     obtain ⟨a',c2,rfl,hM,hX,hat2⟩:=hcut
     have HM:=O hM
     have HX:=O hX
     clear hM hX
     apply_assumption
     refine wp_seq_k fun KC hKC=>?_
     go_cut [7] (fun m7 W=>∃ (a':Ak) (c3:Cu),m7=.pointer (some ⟨mb,0,none⟩)/\vP w K pc len v1 v2 W c3 l (.slice oa ln oc)/\ABx w mb W (.slice oa ln oc) a'/\c3.at_<=c.at_+12)
     case first =>
      clear hat1
      go_wp2_with fail
      refine (bY K pc len c2 30 _ (Z HM).cur (by omega) (by omega) (by omega)).mono ?_
      rintro e wq ⟨⟨y,c1,rfl,hd,hc⟩,hb⟩
      have hat1:c1.at_=c2.at_+1:=hd.at1
      obtain ⟨r,hr⟩:∃ r,r=y % 30:=⟨_,rfl⟩
      rw [<- hr]
      replace HM:=O ((Z HM).draw hb hc)
      replace HX:=O ((Z HX).draw hb hpw)
      clear hb hc hd hr
      rcases (show r=0∨r=1∨r=2∨3<=r by omega) with rfl | rfl | rfl | hr3
      ·as_aux_lemma =>
         go_wp2_with fail
         refine (bY K pc len c1 200 _ (Z HM).cur (by omega) (by omega) (by omega)).mono ?_
         rintro e wp ⟨⟨y,c2,rfl,hd,hc⟩,hb⟩
         have hat2:c2.at_=c1.at_+1:=hd.at1
         obtain ⟨t,ht⟩:∃ t,t=y % 200:=⟨_,rfl⟩
         rw [<- ht]
         have ht3:t<200:=by omega
         replace HM:=O ((Z HM).draw hb hc)
         replace HX:=O ((Z HX).draw hb hpw)
         clear hb hc hd ht
         have wl:IntKind.i64.wrap ((t:Int) - 60)=(t:Int) - 60:=by rw [IntKind.wrap_i64];omega
         obtain ⟨q0,q1,q2,q3,q4,q5,q6⟩:=(Z HX).cells
         have z0:=(Z HX).fz 0
         have z1:=(Z HX).fz 1
         have z2:=(Z HX).fz 2
         have z3:=(Z HX).fz 3
         have z4:=(Z HX).fz 4
         have z5:=(Z HX).fz 5
         have z6:=(Z HX).fz 6
         have HX2:=O ((Z HX).n ((t:Int) - 60))
         have HM2:=O ((Z HM).set (i:=1) (u:=.int .i64 ((t:Int) - 60)) (Z HX).hB (Z HX).far)
         go_wp2_with fail
         go_meet
         case rel=>exact ⟨_,c2,rfl,Z HM2,Z HX2,by omega⟩
      ·as_aux_lemma =>
         go_wp2_with fail
         refine (oddU_any K pc len c1 _ (Z HM).cur (by have:=(Z HM).kw;have:=(Z HM).btw.size;omega) (by omega)).mono ?_
         rintro e wp ⟨⟨sp,c2,rfl,hz,hat2,hc⟩,hb⟩
         replace HM:=O ((Z HM).draw hb hc)
         replace HX:=O ((Z HX).draw hb hpw)
         clear hb hc
         obtain ⟨q0,q1,q2,q3,q4,q5,q6⟩:=(Z HX).cells
         have z0:=(Z HX).fz 0
         have z1:=(Z HX).fz 1
         have z2:=(Z HX).fz 2
         have z3:=(Z HX).fz 3
         have z4:=(Z HX).fz 4
         have z5:=(Z HX).fz 5
         have z6:=(Z HX).fz 6
         have HX2:=O ((Z HX).stop sp hz)
         have HM2:=O ((((Z HM).set (i:=3) (u:=.int .i64 sp.kind) (Z HX).hB (Z HX).far).set (i:=4) (u:=.int .i64 sp.fn) (Z HX).hB (Z HX).far).set (i:=5) (u:=.int .i64 sp.line) (Z HX).hB (Z HX).far |>.set (i:=6) (u:=.string sp.name) (Z HX).hB (Z HX).far)
         go_wp2_with fail
         go_meet
         case rel=>exact ⟨_,c2,rfl,Z HM2,Z HX2,by omega⟩
      ·as_aux_lemma =>
         go_wp2_with fail
         refine (bY K pc len c1 16 _ (Z HM).cur (by omega) (by omega) (by omega)).mono ?_
         rintro e wp ⟨⟨y,c2,rfl,hd,hc⟩,hb⟩
         have hat2:c2.at_=c1.at_+1:=hd.at1
         obtain ⟨t,ht⟩:∃ t,t=y % 16:=⟨_,rfl⟩
         rw [<- ht]
         have ht3:t<16:=by omega
         replace HM:=O ((Z HM).draw hb hc)
         replace HX:=O ((Z HX).draw hb hpw)
         clear hb hc hd ht
         obtain ⟨q0,q1,q2,q3,q4,q5,q6⟩:=(Z HX).cells
         have z0:=(Z HX).fz 0
         have z1:=(Z HX).fz 1
         have z2:=(Z HX).fz 2
         have z3:=(Z HX).fz 3
         have z4:=(Z HX).fz 4
         have z5:=(Z HX).fz 5
         have z6:=(Z HX).fz 6
         have HX2:=O ((Z HX).op (t:Int))
         have HM2:=O ((Z HM).set (i:=0) (u:=.int .i64 (t:Int)) (Z HX).hB (Z HX).far)
         go_wp2_with fail
         go_meet
         case rel=>exact ⟨_,c2,rfl,Z HM2,Z HX2,by omega⟩
      as_aux_lemma =>
        have e0:((r:Int) == 0)=false:=by simp;omega
        have e1:((r:Int) == 1)=false:=by simp;omega
        have e2:((r:Int) == 2)=false:=by simp;omega
        go_wp2_with fail
        go_meet
        case rel=>exact ⟨_,c1,rfl,Z HM,Z HX,by omega⟩
     case rest =>
      clear HM HX
      obtain ⟨a3,c3,rfl,hM,hX,hat3⟩:=hcut
      have HM:=O hM
      have HX:=O hX
      clear hM hX
      obtain ⟨q0,q1,q2,q3,q4,q5,q6⟩:=(Z HX).cells
      have hszc:w.heap.size+1<=wc.heap.size:=cJ (Z HM).tr
      have BL:=O (bH wc (.cells #[.int .i64 a3.op,.int .i64 a3.n,.string a3.name,.int .i64 a3.stop.kind,.int .i64 a3.stop.fn,.int .i64 a3.stop.line,.string a3.stop.name] 47))
      have HOW:Hid ((wc.alloc (.cells #[.int .i64 a3.op,.int .i64 a3.n,.string a3.name,.int .i64 a3.stop.kind,.int .i64 a3.stop.fn,.int .i64 a3.stop.line,.string a3.stop.name] 47)).ownsRow (w.heap.size+1) 47 7 (.slice oa ln oc) ln (fV l)):=O (by have:=bN (Z HM).row (Z BL);rw [<- Z HLN] at this;exact this)
      have HNW:=O (World.news_of_block (cs:=#[.int .i64 a3.op,.int .i64 a3.n,.string a3.name,.int .i64 a3.stop.kind,.int .i64 a3.stop.fn,.int .i64 a3.stop.line,.string a3.stop.name]) (t:=47) (fr:=(0,0)) (heap_alloc_new wc (.cells #[.int .i64 a3.op,.int .i64 a3.n,.string a3.name,.int .i64 a3.stop.kind,.int .i64 a3.stop.fn,.int .i64 a3.stop.line,.string a3.stop.name] 47)))
      apply_assumption
      go_wp2_with (at_builtin;refine wpList_append_lies _ (by rfl) _ _ _ (by rfl) (w.heap.size+1) 47 i0 _ 7 72 Tryz.underlying28 (Z II).1 (Z II).2.1 (Z II).2.2.1 (Z II).2.2.2 rfl (by omega) (.slice oa ln oc) ln (fV l) (by rfl) (Z HOW) ⟨wc.heap.size,0,none⟩ 1 1 [.int .i64 a3.op,.int .i64 a3.n,.string a3.name,.int .i64 a3.stop.kind,.int .i64 a3.stop.fn,.int .i64 a3.stop.line,.string a3.stop.name] (by rfl) (by rfl) (Z HNW) (by simp [Value.oneCell']) (by omega) (by unfold maxLen;omega) (by omega) (by simp;omega) (wc.heap.size+1) (by simp) ?_;intro g2 cp2 w7 hown7 hgrow _ _;have HO7:=O hown7;have HG7:=O hgrow;clear hown7 hgrow)
      have HBG:Hid (Below (w.heap.size+1) wc w7):=O (Below.grown ((Z BL).mono hszc) (Z HG7) (by simp;omega) (fun k hk=>((Z HM).row.lt k hk).1))
      go_roundg (gk - 1)
      case measure=>omega
      case rel =>
       have hk:=(Z HM).kw
       refine ⟨l ++ [a3],c3,some ⟨g2,0,none⟩,cp2,by rw [List.length_append,<- Z HLN,List.length_singleton];omega,by rw [List.length_append,<- Z HLN,List.length_singleton],by congr 1;omega,⟨(Z HM).cur.below ((Z HBG).mono (by omega)),hk,(Z HM).btw.onw ((Z HBG).mono (by omega)),?_,by rw [(Z HBG).block _ (by omega)];exact (Z HM).tr,?_⟩,by rw [List.length_append,<- Z HLN,List.length_singleton];omega⟩
       ·rw [List.length_append,<- Z HLN,List.length_singleton,akCells_app];exact Z HO7
       intro x hx
       rcases List.mem_append.1 hx with hx | hx
       ·exact (Z HM).nm x hx
       rw [List.mem_singleton.1 hx];exact (Z HX).nm
  have e:gk=0:=by omega
  subst e
  go_wp2
  go_ret
  exact ⟨⟨_,l,rfl,by have:=Z HLN;omega,(Z HR).row,(Z HR).nm⟩,(Z HR).btw⟩
end
def Ak.nul:Ak:=⟨0,0,ByteArray.empty,Sp.nul⟩
section
attribute [local go_sem ↓] Go.wp_at_zero Go.wp_at_succ
theorem bytes_below {w w':World} {v:Value} {len:Nat} (h:qK w v len) (hb:Below w.heap.size w w'):qK w' v len:=by
 obtain ⟨a,cap,hv,hc⟩:=h
 refine ⟨a,cap,hv,fun i hi=>?_⟩
 obtain ⟨b,o,x,ha,h1,h2⟩:=hc i hi
 exact ⟨b,o,x,ha,bG hb h1,h2⟩
theorem bC2:∀ (l:List Ak) (i:Nat) (a:Ak),l[i]?=some a->(fV l)[i*7]?=some (.int .i64 a.op)/\(fV l)[i*7+1]?=some (.int .i64 a.n)/\(fV l)[i*7+2]?=some (.string a.name)/\(fV l)[i*7+3]?=some (.int .i64 a.stop.kind)/\(fV l)[i*7+4]?=some (.int .i64 a.stop.fn)/\(fV l)[i*7+5]?=some (.int .i64 a.stop.line)/\(fV l)[i*7+6]?=some (.string a.stop.name)
 | x :: r,0,y,h=>by cases h;exact ⟨rfl,rfl,rfl,rfl,rfl,rfl,rfl⟩
 | x :: r,i+1,y,h=>by
  have ih:=bC2 r i y h
  have e:fV (x :: r)=.int .i64 x.op :: .int .i64 x.n :: .string x.name :: .int .i64 x.stop.kind :: .int .i64 x.stop.fn :: .int .i64 x.stop.line :: .string x.stop.name :: fV r:=rfl
  rw [e,show (i+1)*7=i*7+1+1+1+1+1+1+1 by omega]
  simpa only [List.getElem?_cons_succ] using ih
theorem aks_of_row {B:Nat} {w:World} {v:Value} {l:List Ak} (h:w.ownsRow B 47 7 v l.length (fV l)) (hn:l.length<=1000) (hz:∀ x,x∈l->x.name.size<=40/\x.stop.name.size<=40):bH6 B w v l.length (fun i=>l.getD i Ak.nul):=by
 obtain ⟨a,cap,rfl⟩:=bR h
 refine ⟨a,cap,rfl,by unfold maxLen;omega,fun i hi=>?_⟩
 obtain ⟨g,hg,hB⟩:∃ g,a=some ⟨g,0,none⟩/\B<=g:=by
  rcases h.2 with ⟨_,h0⟩ | ⟨g,cap,cur,hv,hB,_⟩
  ·omega
  cases hv;exact ⟨g,rfl,hB⟩
 subst hg
 have hx:l[i]?=some l[i]:=List.getElem?_eq_getElem hi
 obtain ⟨e0,e1,e2,e3,e4,e5,e6⟩:=bC2 l i _ hx
 have eg:l.getD i Ak.nul=l[i]:=by rw [List.getD_eq_getElem?_getD,hx];rfl
 obtain ⟨z1,z2⟩:=hz l[i] (List.getElem_mem hi)
 dsimp only
 rw [eg]
 obtain ⟨c0,f0⟩:=bL h _ _ e0
 obtain ⟨c1,f1⟩:=bL h _ _ e1
 obtain ⟨c2,f2⟩:=bL h _ _ e2
 obtain ⟨c3,f3⟩:=bL h _ _ e3
 obtain ⟨c4,f4⟩:=bL h _ _ e4
 obtain ⟨c5,f5⟩:=bL h _ _ e5
 obtain ⟨c6,f6⟩:=bL h _ _ e6
 refine ⟨g,0,rfl,?_,?_,?_,?_,?_,?_,?_,by unfold maxLen;omega,by unfold maxLen;omega,fun j hj=>⟨hB,fun _=>?_⟩⟩
 ·rw [Nat.zero_add];exact c0
 ·rw [Nat.zero_add];exact c1
 ·rw [Nat.zero_add];exact c2
 ·rw [Nat.zero_add];exact c3
 ·rw [Nat.zero_add];exact c4
 ·rw [Nat.zero_add];exact c5
 ·rw [Nat.zero_add];exact c6
 rw [Nat.zero_add]
 rcases (show j=0∨j=1∨j=2∨j=3∨j=4∨j=5∨j=6 by omega) with rfl | rfl | rfl | rfl | rfl | rfl | rfl
 ·exact f0
 ·exact f1
 ·exact f2
 ·exact f3
 ·exact f4
 ·exact f5
 exact f6
theorem asks_any (lo:Nat) (v1 v2 v:Value) (len nm:Nat) (f:Nat->M) (w:World) (h:qK w v len) (hl:len<=1048576) (hm:bQ lo w v2 nm f) (hnm:nm<90) :
  Calls Tryz.prog 9 #[.agg #[v1,v2],v] w fun e w'=>(∃ v' l,e=.returned v'/\l.length<=23/\w'.ownsRow w.heap.size 47 7 v' l.length (fV l)/\∀ x,x∈l->x.name.size<=40/\x.stop.name.size<=40)/\Below w.heap.size w w':=by
 have H:=O (bytes_cur h hl (.cells #[v1,v2] 26))
 have HMM:=O hm
 obtain ⟨a,cap,rfl,_⟩:=h
 have HB0:Hid (Below w.heap.size w ((w.alloc (.cells #[v1,v2] 26)).alloc (.cells #[.slice a len cap,.int .i64 0,.int .u64 0] 73))):=O (((Below.refl _ _).alloc (Nat.le_refl _) _).alloc (by simp) _)
 clear hm
 go_enter Tryz.func9,Tryz.ntmps9
 go_wp2_with fail
 refine (asksU_any (w.heap.size+2) (w.heap.size+1) len ⟨0,0⟩ v1 v2 nm f lo _ (Z H) (by simp) (by decide) (fun W hW=>(Z HMM).below ((Z HB0).trans ((hW.below (by simp)).mono (by omega)))) hnm).mono ?_
 rintro e w1 ⟨⟨v',l,rfl,hl23,hrow,hz⟩,hb1⟩
 have HB1:=O ((Z HB0).trans ((hb1.below (by simp)).mono (by omega)))
 have HR:=O hrow
 have HZ:=O hz
 clear hrow hz hb1 H HB0
 go_wp2
 go_ret
 exact ⟨⟨v',l,rfl,hl23,eD (Z HR) (by simp;omega),Z HZ⟩,Z HB1⟩
end
end Go.Proofs.YtmnmeaeicjhkhaaGreatDoor
