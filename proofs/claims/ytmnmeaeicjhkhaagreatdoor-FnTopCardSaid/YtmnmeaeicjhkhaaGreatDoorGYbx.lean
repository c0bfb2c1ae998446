import Derived.Test.YtmnmeaeicjhkhaaGreatDoorGYax
set_option maxRecDepth 100000
set_option maxHeartbeats 16000000
namespace Go.Proofs.YtmnmeaeicjhkhaaGreatDoor
open Go.RowKit
theorem yX (lo:Nat) (v:Value) (n:Nat) (f:Nat->M) (k:Int) (w0 w:World) (h:bW lo w0 v n f) (hbw:Below w0.heap.size w0 w) (hn:n<=3000) (hk1:-1<=k) (hk2:k<=n) :
  Calls Tryz.prog 58 #[v,.int .i64 k] w fun e w'=>(∃ top bw,e=.returned (.agg #[.int .i64 (St.after f (cQ n k)).cur,.pointer top,.pointer (some ⟨bw,0,none⟩)])/\cZ w0 (St.after f (cQ n k)) top bw)/\Below w.heap.size w w':=by
 obtain ⟨xs,ho,hp⟩:=h
 obtain ⟨top,bw,x0,x1,x2,pl⟩:=hp (cQ n k) (by unfold cQ;omega)
 have ho':=bN ho hbw
 rcases ho.2 with ⟨_,h0⟩ | ⟨g,cap,cur,rfl,_⟩
 ·omega
 have c0:=(bL ho' _ _ x0).1
 have c1:=(bL ho' _ _ x1).1
 have c2:=(bL ho' _ _ x2).1
 have PL:=O pl
 clear ho ho' hp x0 x1 x2 pl
 have BA:=O (bH w (.cells #[.int .i64 0,.pointer none,.pointer none] 119))
 have c0:=bG (Z BA) c0
 have c1:=bG (Z BA) c1
 have c2:=bG (Z BA) c2
 by_cases hk:k=n
 ·subst hk
  have e:cQ n (n:Int)=n:=by unfold cQ;omega
  rw [e] at c0 c1 c2 PL ⊢
  clear e
  generalize (St.after f n).cur=cur' at *
  have hu2:(n:Int)<(n:Int)+1:=by omega
  have hu3:(0:Int)<=(n:Int):=by omega
  go_enter Tryz.func58,Tryz.ntmps58
  go_wp2
  refine bodyPost_ret (v:=.agg #[.int .i64 cur',.pointer top,.pointer (some ⟨bw,0,none⟩)]) (by simp [results,Tryz.results58,go_sem]) rfl ⟨⟨top,bw,rfl,Z PL⟩,bH _ _⟩
 obtain ⟨u,rfl⟩:∃ u:Nat,k=(u:Int) - 1:=⟨(k+1).toNat,by omega⟩
 have e:cQ n ((u:Int) - 1)=u:=by unfold cQ;omega
 rw [e] at c0 c1 c2 PL ⊢
 clear e
 generalize (St.after f u).cur=cur' at *
 have hu2:(u:Int)<(n:Int)+1:=by omega
 have hu3:(0:Int)<=(u:Int):=by omega
 have hu4:(u:Int)<=(n:Int):=by omega
 clear hk
 go_enter Tryz.func58,Tryz.ntmps58
 go_wp2
 refine bodyPost_ret (v:=.agg #[.int .i64 cur',.pointer top,.pointer (some ⟨bw,0,none⟩)]) (by simp [results,Tryz.results58,go_sem]) rfl ⟨⟨top,bw,rfl,Z PL⟩,bH _ _⟩
theorem where_any (B sb lo lp:Nat) (mv pv tv uv:Value) (D:Nat->Value) (nf:Nat) (fns:Nat->ByteArray) (n:Nat) (f:Nat->M) (s:LS) (nn:Int) (name:ByteArray) (kd fn line:Int) (sn:ByteArray) (w:World) (h:SS B w sb mv pv n f s tv uv D) (h2:∀ W,Below B w W->bQ lo W mv n f) (hp:∀ W,Below B w W->bW lp W pv n f) (hs:cB nf fns n f) (hok:gF n s) (hpl:s.past.length<=10000) (hB:B<=w.heap.size) (ho:cL (⟨10,nn,name,⟨kd,fn,line,sn⟩⟩:Ak)) :
  Calls Tryz.prog 111 #[.pointer (some ⟨sb,0,none⟩),.agg #[.int .i64 10,.int .i64 nn,.string name,.int .i64 kd,.int .i64 fn,.int .i64 line,.string sn]] w fun e w'=>pK B sb mv pv n f D s (⟨10,nn,name,⟨kd,fn,line,sn⟩⟩:Ak) w e w':=by
 have H:=O h
 have H2:=O h2
 have HP:=O hp
 have HS:=O hs
 have HOK:=O hok
 have HPL:=O hpl
 have HO:=O ho
 have A1:=O (DB.new w (⟨10,nn,name,⟨kd,fn,line,sn⟩⟩:Ak))
 have HB1:Hid (Below w.heap.size w ((w.alloc (.cells #[.int .i64 10,.int .i64 nn,.string name,.int .i64 kd,.int .i64 fn,.int .i64 line,.string sn] 47)).alloc tz0)):=O ((bH w (.cells #[.int .i64 10,.int .i64 nn,.string name,.int .i64 kd,.int .i64 fn,.int .i64 line,.string sn] 47)).alloc (by simp) tz0)
 have H1:=O ((Z H).below (Z HB1))
 clear h h2 hp hs hok hpl
 have hn0:0<=nn:=(mX.1 ho).1.1
 have hn1:nn<=100:=(mX.1 ho).1.2
 clear ho
 obtain ⟨u,rfl⟩:∃ u:Nat,nn=(u:Int):=⟨nn.toNat,by omega⟩
 have hu:u<101:=by omega
 have hn3:n<=3000:=(Z HS).1.2.2.1
 have hk0:=(Z HOK).lo
 have hk1:=(Z HOK).hi
 obtain ⟨k,hk⟩:∃ k,k=s.at_:=⟨_,rfl⟩
 rw [<- hk] at hk0 hk1
 have HK:=O hk
 clear hk
 go_enter Tryz.func111,Tryz.ntmps111
 go_upto_region 1 with fail
 obtain ⟨w1,hw1⟩:∃ w1,w1=((w.alloc (.cells #[.int .i64 10,.int .i64 (u:Int),.string name,.int .i64 kd,.int .i64 fn,.int .i64 line,.string sn] 47)).alloc tz0):=⟨_,rfl⟩
 rw [<- hw1] at A1 HB1 H1 ⊢
 clear hw1
 have HSS:Hid (∀ W,Below w1.heap.size w1 W->W.cell? ⟨sb,1,none⟩=some pv/\W.cell? ⟨sb,2,none⟩=some (.int .i64 k)):=O (fun W hb=>⟨bG hb (Z H1).box.c1,by rw [Z HK];exact bG hb (Z H1).box.c2⟩)
 have hsz1:=(Z A1).size
 refine wp_region_held_drew (S:=fun W=>W.cell? ⟨sb,1,none⟩=some pv/\W.cell? ⟨sb,2,none⟩=some (.int .i64 k)) (by kernel_rfl) (Z HSS _ (Below.refl _ _).drew) (fun hHeld=>?_)
 refine tka 0 7 hHeld ?_
 refine tka 1 8 hHeld ?_
 refine tka 2 9 hHeld ?_
 refine tka 3 10 hHeld ?_
 refine tka 4 11 hHeld ?_
 refine tka 5 12 hHeld ?_
 refine tka 6 13 hHeld ?_
 refine tka 7 14 hHeld ?_
 refine wpAnyH_ready (rs:=[8,9]) (by kernel_rfl) (by simp) ?_
 refine AllReadyH.cons rfl (fun KK hK=>?_) (AllReadyH.cons rfl (fun KK hK=>?_) AllReadyH.nil)
 ·have hdr:Below w1.heap.size w1 _:=(Below.refl w1.heap.size w1).drew
  go_simp
  refine (yX lp _ n f k w1 _ (Z HP _ ((Z HB1).mono hB)) hdr hn3 hk0 hk1).mono ?_
  rintro e w2 ⟨⟨top,bw,rfl,hpl⟩,hbx⟩
  have hb2:Below w1.heap.size w1 w2:=hdr.trans (hbx.mono hdr.size)
  have HB2:=O hb2
  have HBX:=O hbx
  have HPL2:=O hpl
  obtain ⟨cu,hcu⟩:∃ cu,cu=(St.after f (cQ n k)).cur:=⟨_,rfl⟩
  rw [<- hcu]
  have HCU:=O hcu
  refine hK.out _ _ (Z HSS _ hb2) (fun hHeld=>?_)
  clear hK KK hb2 hbx hpl hcu hdr
  try simp only [Act.put,sy]
  have HLN:Hid (((St.after f (cQ n k)).tasks u).length<=200):=O (((Z HPL2).2.2.2 u hu).1)
  refine rdy 9 fun KK hK=>?_
  go_simp
  have hb3a:Below w1.heap.size w1 (w2.alloc (.cells #[.int .i64 0,.pointer none,.pointer none] 119)):=(Z HB2).trans ((bH w2 _).mono (Z HB2).size)
  refine hK.out _ _ (Z HSS _ hb3a) (fun hHeld=>?_)
  clear hK KK
  try simp only [Act.put,sy]
  refine rdy 10 fun KK hK=>?_
  go_simp
  have HB3:Hid (Below w1.heap.size w1 (w2.alloc (.cells #[.int .i64 (cu:Int),.pointer top,.pointer (some ⟨bw,0,none⟩)] 119))):=O ((Z HB2).trans ((bH w2 _).mono (Z HB2).size))
  refine hK.out _ _ (Z HSS _ (Z HB3)) (fun hHeld=>?_)
  clear hK KK hHeld hb3a
  try simp only [Act.put,sy]
  obtain ⟨pb,hpb⟩:∃ pb,pb=w2.heap.size:=⟨_,rfl⟩
  have HX3:=O (heap_alloc_new w2 (.cells #[.int .i64 (cu:Int),.pointer top,.pointer (some ⟨bw,0,none⟩)] 119))
  have HPL3:=O ((Z HPL2).below (Z HB3))
  obtain ⟨w3,hw3⟩:∃ w3,w3=w2.alloc (.cells #[.int .i64 (cu:Int),.pointer top,.pointer (some ⟨bw,0,none⟩)] 119):=⟨_,rfl⟩
  rw [<- hw3] at HB3 HPL3 HX3
  rw [<- hpb] at HX3 ⊢
  rw [<- hw3]
  clear hw3 hpb
  have HL3:=O ((Z H1).below (Z HB3))
  have A3:=O ((Z A1).go (Z HB3))
  have HW3:=O ((Z HB1).trans ((Z HB3).mono (Z HB1).size))
  have HSB:Hid (∀ W,Below w3.heap.size w3 W->W.cell? ⟨pb,0,none⟩=some (.int .i64 (cu:Int))/\W.cell? ⟨pb,1,none⟩=some (.pointer top)/\W.cell? ⟨pb,2,none⟩=some (.pointer (some ⟨bw,0,none⟩))/\W.cell? ⟨w.heap.size,1,none⟩=some (.int .i64 (u:Int))):=O (fun W hb=>⟨bG hb (by rw [cell_of_row _ _ 0 _ _ _ (Z HX3)];rfl),bG hb (by rw [cell_of_row _ _ 1 _ _ _ (Z HX3)];rfl),bG hb (by rw [cell_of_row _ _ 2 _ _ _ (Z HX3)];rfl),bG hb (Z A3).a1⟩)
  refine wpAnyH_done (by kernel_rfl) ?_ _
  go_upto_region 2 with fail
  refine wp_region_held_drew (S:=fun W=>W.cell? ⟨pb,0,none⟩=some (.int .i64 (cu:Int))/\W.cell? ⟨pb,1,none⟩=some (.pointer top)/\W.cell? ⟨pb,2,none⟩=some (.pointer (some ⟨bw,0,none⟩))/\W.cell? ⟨w.heap.size,1,none⟩=some (.int .i64 (u:Int))) (by kernel_rfl) (Z HSB _ (Below.refl _ _).drew) (fun hHeld=>?_)
  refine tka 0 16 hHeld ?_
  refine tka 1 17 hHeld ?_
  refine tka 2 18 hHeld ?_
  refine tka 3 19 hHeld ?_
  refine tka 4 20 hHeld ?_
  refine rdy 5 fun KK hK=>?_
  have hdr:=(Below.refl w3.heap.size w3).drew
  go_simp
  have hop:=bF5 (St.after f (cQ n k)) u top bw _ ((Z HPL3).below hdr) hu
  rw [<- Z HCU] at hop
  refine hop.mono ?_
  rintro e w4 ⟨⟨p,rfl,hli⟩,hbx⟩
  have hb4:Below w3.heap.size w3 w4:=hdr.trans hbx
  have HB4:=O hb4
  have HLI:=O hli
  refine hK.out _ _ (Z HSB _ hb4) (fun hHeld=>?_)
  clear hK KK hb4 hbx hli hdr hop
  try simp only [Act.put,sy]
  refine rdy 6 fun KK hK=>?_
  go_simp
  refine (bF6 _ p _ (Z HLI) (Z HLN)).mono ?_
  rintro e w5 ⟨⟨v,rfl,hfr⟩,hbx⟩
  have hb5:Below w3.heap.size w3 w5:=(Z HB4).trans (hbx.mono (Z HB4).size)
  have HFR:Hid (eA w.heap.size w5 v ((St.after f (cQ n k)).tasks u)):=O (eD hfr (Nat.le_trans (Z HW3).size (Z HB4).size))
  obtain ⟨va,vc,rfl⟩:=bR hfr
  obtain ⟨ln,hln⟩:∃ ln,ln=((St.after f (cQ n k)).tasks u).length:=⟨_,rfl⟩
  rw [<- hln] at HFR ⊢
  have HL5:=O ((Z HL3).below hb5)
  have A5:=O ((Z A3).go hb5)
  have HB5:=hT HW3 hb5
  obtain ⟨⟨r0,r1,r2,r3,r4,r5⟩,x0,x1,x2,x3,x4,x5⟩:=(Z A5).rc
  refine hK.out _ _ (Z HSB _ hb5) (fun hHeld=>?_)
  clear hK KK hbx hfr hln
  try simp only [Act.put,sy]
  refine tka 7 23 hHeld ?_
  refine rdy 8 fun KK hK=>?_
  go_simp
  have hst:bM (fun q=>q≠38) w5 (dA w5 (w.heap.size+1) 0 (cu:Int) ⟨#[]⟩ (.slice va ln vc) (.slice none 0 0)):=fK (Z A5).rb (fun q=>q rfl)
  have hpx:=hst _ _ _ _ ((hb5.block pb (cJ (Z HX3))).trans (Z HX3)) (by decide)
  have hax:=hst _ _ _ _ (Z A5).ak (by decide)
  refine hK.out _ _ ⟨(show (dA w5 (w.heap.size+1) 0 (cu:Int) ⟨#[]⟩ (.slice va ln vc) (.slice none 0 0)).cell? ⟨pb,0,none⟩=_ from by rw [cell_of_row _ _ 0 _ _ _ hpx];rfl),(show (dA w5 (w.heap.size+1) 0 (cu:Int) ⟨#[]⟩ (.slice va ln vc) (.slice none 0 0)).cell? ⟨pb,1,none⟩=_ from by rw [cell_of_row _ _ 1 _ _ _ hpx];rfl),(show (dA w5 (w.heap.size+1) 0 (cu:Int) ⟨#[]⟩ (.slice va ln vc) (.slice none 0 0)).cell? ⟨pb,2,none⟩=_ from by rw [cell_of_row _ _ 2 _ _ _ hpx];rfl),(show (dA w5 (w.heap.size+1) 0 (cu:Int) ⟨#[]⟩ (.slice va ln vc) (.slice none 0 0)).cell? ⟨w.heap.size,1,none⟩=_ from by rw [cell_of_row _ _ 1 _ _ _ hax];rfl)⟩ (fun hHeld=>?_)
  clear hK KK hst hpx hax hb5
  try simp only [Act.put,sy]
  refine tka 9 5 hHeld ?_
  refine wpAnyH_done (by kernel_rfl) ?_ _
  clear hHeld
  go_wp2
  refine bodyPost_ret (v:=.tuple #[.agg #[.int .i64 0,.int .i64 0,.int .i64 (cu:Int),.string ⟨#[]⟩,.slice va ln vc,.slice none 0 0],.nilIface]) (by simp [results,Tryz.results111,go_sem,r0,r1,r2,r3,r4,r5]) rfl ?_
  exact cX (bU.where_ (Z HO) rfl) (.inl ⟨rfl,rfl,by rw [Z HCU,Z HK],rfl⟩) (Z HL5) (Z A5) (by show eA _ _ _ ((St.after f (cQ n s.at_)).tasks (u:Int).toNat);rw [Int.toNat_natCast,<- Z HK];exact Z HFR) (dD.nil _ _) ((Z HB5).mono hB) (bM.of_below (Z HB5)) hB
 go_simp
 have hba:Below w1.heap.size w1 (w1.alloc (.cells #[.int .i64 0,.pointer none,.pointer none] 119)).drew:=(bH w1 (.cells #[.int .i64 0,.pointer none,.pointer none] 119)).drew
 have HNA:Hid ((w1.alloc (.cells #[.int .i64 0,.pointer none,.pointer none] 119)).drew.heap[w1.heap.size]?=some (.cells #[.int .i64 0,.pointer none,.pointer none] 119 (0,0))):=O (heap_alloc_new w1 (.cells #[.int .i64 0,.pointer none,.pointer none] 119))
 refine hK.out _ _ (Z HSS _ hba) (fun hHeld=>?_)
 clear hK KK
 try simp only [Act.put,sy]
 refine rdy 8 fun KK hK=>?_
 have hdr:Below w1.heap.size w1 _:=hba
 go_simp
 refine (yX lp _ n f k w1 _ (Z HP _ ((Z HB1).mono hB)) hdr hn3 hk0 hk1).mono ?_
 rintro e w2 ⟨⟨top,bw,rfl,hpl⟩,hbx⟩
 have hb2:Below w1.heap.size w1 w2:=hdr.trans (hbx.mono hdr.size)
 have HB2:=O hb2
 have HBX:=O hbx
 have HPL2:=O hpl
 obtain ⟨cu,hcu⟩:∃ cu,cu=(St.after f (cQ n k)).cur:=⟨_,rfl⟩
 rw [<- hcu]
 have HCU:=O hcu
 refine hK.out _ _ (Z HSS _ hb2) (fun hHeld=>?_)
 clear hK KK hb2 hbx hpl hcu hdr
 try simp only [Act.put,sy]
 have HLN:Hid (((St.after f (cQ n k)).tasks u).length<=200):=O (((Z HPL2).2.2.2 u hu).1)
 have hxb:w2.heap[w1.heap.size]?=some (.cells #[.int .i64 0,.pointer none,.pointer none] 119 (0,0)):=((Z HBX).block _ (cJ (Z HNA))).trans (Z HNA)
 have z0:w2.cell? ⟨w1.heap.size,0,none⟩=some (.int .i64 0):=by rw [cell_of_row _ _ 0 _ _ _ hxb];rfl
 have z1:w2.cell? ⟨w1.heap.size,1,none⟩=some (.pointer none):=by rw [cell_of_row _ _ 1 _ _ _ hxb];rfl
 have z2:w2.cell? ⟨w1.heap.size,2,none⟩=some (.pointer none):=by rw [cell_of_row _ _ 2 _ _ _ hxb];rfl
 have y0:w2.frozen? ⟨w1.heap.size,0,none⟩=false:=frozen_of_row _ _ _ _ _ hxb
 have y1:w2.frozen? ⟨w1.heap.size,1,none⟩=false:=frozen_of_row _ _ _ _ _ hxb
 have y2:w2.frozen? ⟨w1.heap.size,2,none⟩=false:=frozen_of_row _ _ _ _ _ hxb
 refine rdy 10 fun KK hK=>?_
 go_simp
 have HB3:Hid (Below w1.heap.size w1 (((w2.setCell ⟨w1.heap.size,0,none⟩ (.int .i64 (cu:Int))).setCell ⟨w1.heap.size,1,none⟩ (.pointer top)).setCell ⟨w1.heap.size,2,none⟩ (.pointer (some ⟨bw,0,none⟩)))):=O ((((Z HB2).setCell (p:=⟨w1.heap.size,0,none⟩) (Nat.le_refl _) _).setCell (p:=⟨w1.heap.size,1,none⟩) (Nat.le_refl _) _).setCell (p:=⟨w1.heap.size,2,none⟩) (Nat.le_refl _) _)
 have HX3:Hid ((((w2.setCell ⟨w1.heap.size,0,none⟩ (.int .i64 (cu:Int))).setCell ⟨w1.heap.size,1,none⟩ (.pointer top)).setCell ⟨w1.heap.size,2,none⟩ (.pointer (some ⟨bw,0,none⟩))).heap[w1.heap.size]?=some (.cells #[.int .i64 (cu:Int),.pointer top,.pointer (some ⟨bw,0,none⟩)] 119 (0,0))):=O (by simp [World.setCell,Array.getElem?_modify,hxb])
 refine hK.out _ _ (Z HSS _ (Z HB3)) (fun hHeld=>?_)
 clear hK KK hHeld z0 z1 z2 y0 y1 y2
 try simp only [Act.put,sy]
 have HPL3:=O ((Z HPL2).below (Z HB3))
 obtain ⟨pb,hpb⟩:∃ pb,pb=w1.heap.size:=⟨_,rfl⟩
 obtain ⟨w3,hw3⟩:∃ w3,w3=((w2.setCell ⟨w1.heap.size,0,none⟩ (.int .i64 (cu:Int))).setCell ⟨w1.heap.size,1,none⟩ (.pointer top)).setCell ⟨w1.heap.size,2,none⟩ (.pointer (some ⟨bw,0,none⟩)):=⟨_,rfl⟩
 rw [<- hw3] at HB3 HPL3 HX3 ⊢
 rw [<- hpb] at HX3 ⊢
 clear hw3 hpb hxb hba
 have HL3:=O ((Z H1).below (Z HB3))
 have A3:=O ((Z A1).go (Z HB3))
 have HW3:=O ((Z HB1).trans ((Z HB3).mono (Z HB1).size))
 have HSB:Hid (∀ W,Below w3.heap.size w3 W->W.cell? ⟨pb,0,none⟩=some (.int .i64 (cu:Int))/\W.cell? ⟨pb,1,none⟩=some (.pointer top)/\W.cell? ⟨pb,2,none⟩=some (.pointer (some ⟨bw,0,none⟩))/\W.cell? ⟨w.heap.size,1,none⟩=some (.int .i64 (u:Int))):=O (fun W hb=>⟨bG hb (by rw [cell_of_row _ _ 0 _ _ _ (Z HX3)];rfl),bG hb (by rw [cell_of_row _ _ 1 _ _ _ (Z HX3)];rfl),bG hb (by rw [cell_of_row _ _ 2 _ _ _ (Z HX3)];rfl),bG hb (Z A3).a1⟩)
 refine wpAnyH_done (by kernel_rfl) ?_ _
 go_upto_region 2 with fail
 refine wp_region_held_drew (S:=fun W=>W.cell? ⟨pb,0,none⟩=some (.int .i64 (cu:Int))/\W.cell? ⟨pb,1,none⟩=some (.pointer top)/\W.cell? ⟨pb,2,none⟩=some (.pointer (some ⟨bw,0,none⟩))/\W.cell? ⟨w.heap.size,1,none⟩=some (.int .i64 (u:Int))) (by kernel_rfl) (Z HSB _ (Below.refl _ _).drew) (fun hHeld=>?_)
 refine tka 0 16 hHeld ?_
 refine tka 1 17 hHeld ?_
 refine tka 2 18 hHeld ?_
 refine tka 3 19 hHeld ?_
 refine tka 4 20 hHeld ?_
 refine rdy 5 fun KK hK=>?_
 have hdr:=(Below.refl w3.heap.size w3).drew
 go_simp
 have hop:=bF5 (St.after f (cQ n k)) u top bw _ ((Z HPL3).below hdr) hu
 rw [<- Z HCU] at hop
 refine hop.mono ?_
 rintro e w4 ⟨⟨p,rfl,hli⟩,hbx⟩
 have hb4:Below w3.heap.size w3 w4:=hdr.trans hbx
 have HB4:=O hb4
 have HLI:=O hli
 refine hK.out _ _ (Z HSB _ hb4) (fun hHeld=>?_)
 clear hK KK hb4 hbx hli hdr hop
 try simp only [Act.put,sy]
 refine rdy 6 fun KK hK=>?_
 go_simp
 refine (bF6 _ p _ (Z HLI) (Z HLN)).mono ?_
 rintro e w5 ⟨⟨v,rfl,hfr⟩,hbx⟩
 have hb5:Below w3.heap.size w3 w5:=(Z HB4).trans (hbx.mono (Z HB4).size)
 have HFR:Hid (eA w.heap.size w5 v ((St.after f (cQ n k)).tasks u)):=O (eD hfr (Nat.le_trans (Z HW3).size (Z HB4).size))
 obtain ⟨va,vc,rfl⟩:=bR hfr
 obtain ⟨ln,hln⟩:∃ ln,ln=((St.after f (cQ n k)).tasks u).length:=⟨_,rfl⟩
 rw [<- hln] at HFR ⊢
 have HL5:=O ((Z HL3).below hb5)
 have A5:=O ((Z A3).go hb5)
 have HB5:=hT HW3 hb5
 obtain ⟨⟨r0,r1,r2,r3,r4,r5⟩,x0,x1,x2,x3,x4,x5⟩:=(Z A5).rc
 refine hK.out _ _ (Z HSB _ hb5) (fun hHeld=>?_)
 clear hK KK hbx hfr hln
 try simp only [Act.put,sy]
 refine tka 7 23 hHeld ?_
 refine rdy 8 fun KK hK=>?_
 go_simp
 have hst:bM (fun q=>q≠38) w5 (dA w5 (w.heap.size+1) 0 (cu:Int) ⟨#[]⟩ (.slice va ln vc) (.slice none 0 0)):=fK (Z A5).rb (fun q=>q rfl)
 have hpx:=hst _ _ _ _ ((hb5.block pb (cJ (Z HX3))).trans (Z HX3)) (by decide)
 have hax:=hst _ _ _ _ (Z A5).ak (by decide)
 refine hK.out _ _ ⟨(show (dA w5 (w.heap.size+1) 0 (cu:Int) ⟨#[]⟩ (.slice va ln vc) (.slice none 0 0)).cell? ⟨pb,0,none⟩=_ from by rw [cell_of_row _ _ 0 _ _ _ hpx];rfl),(show (dA w5 (w.heap.size+1) 0 (cu:Int) ⟨#[]⟩ (.slice va ln vc) (.slice none 0 0)).cell? ⟨pb,1,none⟩=_ from by rw [cell_of_row _ _ 1 _ _ _ hpx];rfl),(show (dA w5 (w.heap.size+1) 0 (cu:Int) ⟨#[]⟩ (.slice va ln vc) (.slice none 0 0)).cell? ⟨pb,2,none⟩=_ from by rw [cell_of_row _ _ 2 _ _ _ hpx];rfl),(show (dA w5 (w.heap.size+1) 0 (cu:Int) ⟨#[]⟩ (.slice va ln vc) (.slice none 0 0)).cell? ⟨w.heap.size,1,none⟩=_ from by rw [cell_of_row _ _ 1 _ _ _ hax];rfl)⟩ (fun hHeld=>?_)
 clear hK KK hst hpx hax hb5
 try simp only [Act.put,sy]
 refine tka 9 5 hHeld ?_
 refine wpAnyH_done (by kernel_rfl) ?_ _
 clear hHeld
 go_wp2
 refine bodyPost_ret (v:=.tuple #[.agg #[.int .i64 0,.int .i64 0,.int .i64 (cu:Int),.string ⟨#[]⟩,.slice va ln vc,.slice none 0 0],.nilIface]) (by simp [results,Tryz.results111,go_sem,r0,r1,r2,r3,r4,r5]) rfl ?_
 exact cX (bU.where_ (Z HO) rfl) (.inl ⟨rfl,rfl,by rw [Z HCU,Z HK],rfl⟩) (Z HL5) (Z A5) (by show eA _ _ _ ((St.after f (cQ n s.at_)).tasks (u:Int).toNat);rw [Int.toNat_natCast,<- Z HK];exact Z HFR) (dD.nil _ _) ((Z HB5).mono hB) (bM.of_below (Z HB5)) hB
theorem bA5 (sb lo:Nat) (mv pv tv uv:Value) (D:Nat->Value) (n:Nat) (f:Nat->M) (k:Int) (w:World) (h:jY w sb mv pv k tv uv D) (h2:bQ lo w mv n f) (h0:-1<=k) (h1:k<=n) :
  Calls Tryz.prog 155 #[.pointer (some ⟨sb,0,none⟩)] w fun e w'=>(∃ v,e=.returned v/\fN lo w' v (jW n f k) (gS f k))/\Below w.heap.size w w':=by
 obtain ⟨a2,cap2,rfl,hn2,hmo⟩:=h2
 unfold maxLen at hn2
 have HMO:=O hmo
 have c0:=h.c0
 have c2:=h.c2
 clear h hmo
 by_cases hneg:k<0
 ·have hk1:k=-1:=by omega
  subst hk1
  have ev:jW n f (-1)=0:=by unfold jW;rw [if_neg (by omega)]
  have EV:=O ev
  clear ev
  go_enter Tryz.func155,Tryz.ntmps155
  go_upto_region 1 with fail
  go_quiet (fail)
  go_wp2
  go_ret
  exact ⟨⟨_,rfl,by rw [Z EV];exact ⟨none,0,rfl,Nat.zero_le _,fun i hi=>absurd hi (Nat.not_lt_zero _)⟩⟩,below_drewN (Below.refl _ _) _⟩
 by_cases hbig:(n:Int)<=k
 ·have g0:¬ k<0:=hneg
  have g0':decide (k<0)=false:=by simpa using hneg
  have g1:decide ((n:Int)<=k)=true:=by simpa using hbig
  have ev:jW n f k=0:=by unfold jW;rw [if_neg (by omega)]
  have EV:=O ev
  clear ev
  go_enter Tryz.func155,Tryz.ntmps155
  go_upto_region 1 with fail
  go_quiet (fail)
  go_wp2
  go_ret
  exact ⟨⟨_,rfl,by rw [Z EV];exact ⟨none,0,rfl,Nat.zero_le _,fun i hi=>absurd hi (Nat.not_lt_zero _)⟩⟩,below_drewN (Below.refl _ _) _⟩
 obtain ⟨j,hj⟩:∃ j:Nat,k=(j:Int):=⟨k.toNat,by omega⟩
 subst hj
 have hjn:j<n:=by omega
 have g0:¬ (j:Int)<0:=by omega
 have g0':decide ((j:Int)<0)=false:=by simp
 have g1:¬ (n:Int)<=(j:Int):=by omega
 have g1':decide ((n:Int)<=(j:Int))=false:=by simpa using g1
 have g2:(0:Int)<=(j:Int):=by omega
 have g3:(j:Int)<(n:Int):=by omega
 obtain ⟨b,o,vv,rfl,-,-,-,-,-,c5,-,hva,-⟩:=Z HMO j hjn
 have ev:jW n f (j:Int)=(f j).nv:=by unfold jW;rw [if_pos ⟨g2,g3⟩,Int.toNat_natCast]
 have ew:gS f (j:Int)=(f j).vars:=by unfold gS;rw [Int.toNat_natCast]
 have HVA:Hid (fN lo w vv (jW n f (j:Int)) (gS f (j:Int))):=O (by rw [ev,ew];exact hva)
 obtain ⟨va,vc,rfl,-,-⟩:=hva
 rw [ev] at HVA
 have EV:=O ev
 obtain ⟨nv,hnv⟩:∃ nv,nv=(f j).nv:=⟨_,rfl⟩
 rw [<- hnv] at c5 HVA
 have HNV:=O hnv
 clear ev ew hneg hbig hnv
 go_enter Tryz.func155,Tryz.ntmps155
 go_upto_region 1 with fail
 go_quiet (fail)
 go_upto_region 3 with fail
 go_quiet (fail)
 go_wp2
 go_ret
 exact ⟨⟨_,rfl,by rw [Z EV,<- Z HNV];exact (Z HVA).below (below_drewN (Below.refl _ _) _)⟩,below_drewN (Below.refl _ _) _⟩
theorem bA6 {P:Program} (w:World) (t ty e:TypeId) (i:TypeInfo) (ht:P.underlying t=some (.slice e)) (hi:P.info? e=some i) (va:Option Addr) (vc:Nat) :
  (Builtin.append_ #[t,t] ty #[.slice none 0 0,.slice va 0 vc]).run P w=.ok (.slice none 0 0) w:=by
 cases va<;>simp [Builtin.append_,run_underlying ht,sizeOf,typeInfo,hi,Builtin.lenOf,Builtin.firstCells,loadCells,loadCellsFrom]
theorem vQ {P:Program} {w:World} {ops:Array Oper} {rest:List Oper} {o:Oper} {a:Act} {Q:Exit->Act->World->Prop} (hgd:o.guard=none) (s x:Operand) (t:TypeId)
  (ho:o.op=.call { callee:=.builtin .append,args:=#[s,x],argTypes:=#[t,t] })
  (e:TypeId) (i:TypeInfo) (ht:P.underlying t=some (.slice e)) (hi:P.info? e=some i) (va:Option Addr) (vc:Nat) (hs:a.eval s=.slice none 0 0) (hx:a.eval x=.slice va 0 vc)
  (h:wpList P ops Q rest (a.put o.dst (.slice none 0 0)) w):wpList P ops Q (o :: rest) a w:=by
 refine wpList_plain hgd fun K hK=>?_
 have hrun:=bA6 (P:=P) w t o.type e i ht hi va vc
 unfold Oper.wp
 simp [execOp,ho,resolve,invoke,builtin,hs,hx,hrun,Result.andThen]
 exact hK _ _ h
theorem vars_news {lo:Nat} {w:World} {b o n cap:Nat} {g:Nat->V} (h:fN lo w (.slice (some ⟨b,o,none⟩) n cap) n g):∀ (j:Nat) (u:Value),(fJ ((List.range n).map g))[j]?=some u->w.cell? ((⟨b,o,none⟩:Addr).add j)=some u:=by
 intro j u hu
 obtain ⟨_,_,e,_,hv⟩:=h
 cases e
 have hj:j<n*2:=by
  rcases Nat.lt_or_ge j (n*2) with q | q
  ·exact q
  rw [List.getElem?_eq_none (by rw [bH2,List.length_map,List.length_range];exact q)] at hu;cases hu
 have hi:j / 2<n:=by omega
 obtain ⟨b',o',e',c0,c1,-⟩:=hv (j / 2) hi
 cases e'
 have hl:j / 2<((List.range n).map g).length:=by rw [List.length_map,List.length_range];exact hi
 obtain ⟨e0,e1⟩:=rS ((List.range n).map g) (j / 2) hl
 have eg:((List.range n).map g)[j / 2]=g (j / 2):=by simp
 rw [eg] at e0 e1
 rw [Addr.add_lit]
 rcases Nat.mod_two_eq_zero_or_one j with q | q
 ·rw [show j=j / 2*2 by omega] at hu ⊢
  rw [e0] at hu
  cases hu
  exact c0
 rw [show j=j / 2*2+1 by omega] at hu ⊢
 rw [e1] at hu
 cases hu
 exact c1
theorem tellVars_any (B sb lo lp:Nat) (mv pv tv uv:Value) (D:Nat->Value) (nf:Nat) (fns:Nat->ByteArray) (n:Nat) (f:Nat->M) (s:LS) (nn:Int) (name:ByteArray) (kd fn line:Int) (sn:ByteArray) (w:World) (h:SS B w sb mv pv n f s tv uv D) (h2:∀ W,Below B w W->bQ lo W mv n f) (hp:∀ W,Below B w W->bW lp W pv n f) (hs:cB nf fns n f) (hok:gF n s) (hpl:s.past.length<=10000) (hB:B<=w.heap.size) (ho:cL (⟨11,nn,name,⟨kd,fn,line,sn⟩⟩:Ak)) :
  Calls Tryz.prog 112 #[.pointer (some ⟨sb,0,none⟩),.agg #[.int .i64 11,.int .i64 nn,.string name,.int .i64 kd,.int .i64 fn,.int .i64 line,.string sn]] w fun e w'=>pK B sb mv pv n f D s (⟨11,nn,name,⟨kd,fn,line,sn⟩⟩:Ak) w e w':=by
 have H:=O h
 have H2:=O h2
 have HP:=O hp
 have HS:=O hs
 have HOK:=O hok
 have HPL:=O hpl
 have HO:=O ho
 have A1:=O (DB.new w (⟨11,nn,name,⟨kd,fn,line,sn⟩⟩:Ak))
 have HB1:Hid (Below w.heap.size w ((w.alloc (.cells #[.int .i64 11,.int .i64 nn,.string name,.int .i64 kd,.int .i64 fn,.int .i64 line,.string sn] 47)).alloc tz0)):=O ((bH w (.cells #[.int .i64 11,.int .i64 nn,.string name,.int .i64 kd,.int .i64 fn,.int .i64 line,.string sn] 47)).alloc (by simp) tz0)
 have H1:=O ((Z H).below (Z HB1))
 clear h h2 hp hs hok hpl
 clear ho
 have hk0:=(Z HOK).lo
 have hk1:=(Z HOK).hi
 obtain ⟨i1,hi0,hz0,hz1,hz2⟩:=info_parts bE8
 have IV:=O (And.intro hi0 (And.intro hz0 (And.intro hz1 hz2)));clear hi0 hz0 hz1 hz2
 go_enter Tryz.func112,Tryz.ntmps112
 go_upto_region 1 with fail
 obtain ⟨w1,hw1⟩:∃ w1,w1=((w.alloc (.cells #[.int .i64 11,.int .i64 nn,.string name,.int .i64 kd,.int .i64 fn,.int .i64 line,.string sn] 47)).alloc tz0):=⟨_,rfl⟩
 rw [<- hw1] at A1 HB1 H1 ⊢
 clear hw1
 go_wp2_with fail
 refine (bA5 sb lo mv pv tv uv D n f s.at_ w1 (Z H1).box (Z H2 _ ((Z HB1).mono hB)) hk0 hk1).mono ?_
 rintro e w2 ⟨⟨v,rfl,hvs⟩,hb2⟩
 have A2:=O ((Z A1).go hb2)
 have HL2:=O ((Z H1).below hb2)
 have HB2:=hT HB1 hb2
 have HVS:=O hvs
 have hnv:jW n f s.at_<=1000:=by
  unfold jW
  split
  ·rename_i q
   have:=((Z HS).2.1 s.at_.toNat (by omega)).2.1
   omega
  omega
 obtain ⟨nv,hnve⟩:∃ nv,nv=jW n f s.at_:=⟨_,rfl⟩
 rw [<- hnve] at HVS hnv hvs
 have HNV:=O hnve
 obtain ⟨va,vc,rfl,-,hvv⟩:=hvs
 have hsz:∀ x,x∈eZ n f s.at_->x.name.size<=maxLen/\x.text.size<=maxLen:=by
  intro x hx
  unfold eZ at hx
  rw [<- hnve] at hx
  obtain ⟨i,hi,rfl⟩:=List.mem_map.1 hx
  obtain ⟨_,_,_,_,_,z0,z1,_⟩:=hvv i (List.mem_range.1 hi)
  exact ⟨z0,z1⟩
 have HSZ:=O hsz
 have hws2:w.heap.size<=w2.heap.size:=(Z HB2).size
 by_cases h0:nv=0
 ·have ev:eZ n f s.at_=[]:=by unfold eZ;rw [<- hnve,h0];rfl
  have EV:=O ev
  clear hb2 hvv hsz hnve ev
  subst h0
  obtain ⟨⟨r0,r1,r2,r3,r4,r5⟩,x0,x1,x2,x3,x4,x5⟩:=(Z A2).rc
  go_wp2_with (at_builtin;refine vQ (by rfl) _ _ _ (by rfl) 40 i1 Tryz.underlying36 (Z IV).1 va vc (by rfl) (by rfl) ?_)
  refine bodyPost_ret (v:=.tuple #[.agg #[.int .i64 0,.int .i64 0,.int .i64 0,.string ⟨#[]⟩,.slice none 0 0,.slice none 0 0],.nilIface]) (by simp [results,Tryz.results112,go_sem,r0,r1,r2,r3,r4,r5]) rfl ?_
  exact cX (bU.vars (Z HO) rfl) (.inl ⟨rfl,rfl,rfl,rfl⟩) (Z HL2) (Z A2) (cD _ _) (by show dD _ _ _ (eZ n f s.at_);rw [Z EV];exact dD.nil _ _) ((Z HB2).mono hB) (bM.of_below (Z HB2)) hB
 obtain ⟨vb,vo,rfl,-⟩:=hvv 0 (by omega)
 clear hb2 hvv hsz hnve
 have HNW:=O (vars_news (Z HVS))
 have hll:(fJ ((List.range nv).map (gS f s.at_))).length=nv*2:=by rw [bH2,List.length_map,List.length_range]
 have HLL:=O hll
 have hone:∀ u,u∈fJ ((List.range nv).map (gS f s.at_))->u.oneCell'=true:=by
  intro u hu
  unfold fJ at hu
  obtain ⟨x,_,hx⟩:=List.mem_flatMap.1 hu
  simp only [List.mem_cons,List.not_mem_nil,or_false] at hx
  rcases hx with rfl | rfl<;>rfl
 have HONE:=O hone
 clear hll hone
 go_wp2_with (at_builtin;refine wpList_append_lies _ (by rfl) _ _ _ (by rfl) w2.heap.size 40 i1 _ 2 32 Tryz.underlying36 (Z IV).1 (Z IV).2.1 (Z IV).2.2.1 (Z IV).2.2.2 rfl (by omega) (.slice none 0 0) 0 [] (by rfl) (World.ownsRow_nil _ _ _ _) ⟨vb,vo,none⟩ nv vc (fJ ((List.range nv).map (gS f s.at_))) (by rfl) (Z HLL) (Z HNW) (Z HONE) (by omega) (by unfold maxLen;omega) (by omega) (Nat.le_refl _) w2.heap.size rfl ?_;intro g2 cp2 w7 hown hgrow _ _;have HO7:=O hown;have hb7:Below w2.heap.size w2 w7:=(Below.refl w2.heap.size w2).grown hgrow (Nat.le_refl _) (fun b e=>by cases e);have A7:=O ((Z A2).go hb7);have HB7A:=O hb7;clear hown hgrow hb7;obtain ⟨⟨r0,r1,r2,r3,r4,r5⟩,x0,x1,x2,x3,x4,x5⟩:=(Z A7).rc)
 have hb7:=Z HB7A
 have HL7:=O ((Z HL2).below hb7)
 have HB7:=O ((Z HB2).trans (hb7.mono hws2))
 have HV7:Hid (dD w.heap.size w7 (.slice (some ⟨g2,0,none⟩) nv cp2) (eZ n f s.at_)):=O ⟨by
  have:=Z HO7
  rw [Nat.zero_add,List.nil_append] at this
  unfold eZ
  rw [<- Z HNV,List.length_map,List.length_range]
  exact eD this hws2,Z HSZ⟩
 clear hb7 HO7 HB7A
 refine bodyPost_ret (v:=.tuple #[.agg #[.int .i64 0,.int .i64 0,.int .i64 0,.string ⟨#[]⟩,.slice none 0 0,.slice (some ⟨g2,0,none⟩) nv cp2],.nilIface]) (by simp [results,Tryz.results112,go_sem,r0,r1,r2,r3,r4,r5]) rfl ?_
 exact cX (bU.vars (Z HO) rfl) (.inl ⟨rfl,rfl,rfl,rfl⟩) (Z HL7) (Z A7) (cD _ _) (Z HV7) ((Z HB7).mono hB) (bM.of_below (Z HB7)) hB
theorem value_any (B sb lo lp:Nat) (mv pv tv uv:Value) (D:Nat->Value) (nf:Nat) (fns:Nat->ByteArray) (n:Nat) (f:Nat->M) (s:LS) (nn:Int) (name:ByteArray) (kd fn line:Int) (sn:ByteArray) (w:World) (h:SS B w sb mv pv n f s tv uv D) (h2:∀ W,Below B w W->bQ lo W mv n f) (hp:∀ W,Below B w W->bW lp W pv n f) (hs:cB nf fns n f) (hok:gF n s) (hpl:s.past.length<=10000) (hB:B<=w.heap.size) (ho:cL (⟨12,nn,name,⟨kd,fn,line,sn⟩⟩:Ak)) :
  Calls Tryz.prog 113 #[.pointer (some ⟨sb,0,none⟩),.agg #[.int .i64 12,.int .i64 nn,.string name,.int .i64 kd,.int .i64 fn,.int .i64 line,.string sn]] w fun e w'=>pK B sb mv pv n f D s (⟨12,nn,name,⟨kd,fn,line,sn⟩⟩:Ak) w e w':=by
 have H:=O h
 have H2:=O h2
 have HP:=O hp
 have HS:=O hs
 have HOK:=O hok
 have HPL:=O hpl
 have HO:=O ho
 have A1:=O (DB.new w (⟨12,nn,name,⟨kd,fn,line,sn⟩⟩:Ak))
 have HB1:Hid (Below w.heap.size w ((w.alloc (.cells #[.int .i64 12,.int .i64 nn,.string name,.int .i64 kd,.int .i64 fn,.int .i64 line,.string sn] 47)).alloc tz0)):=O ((bH w (.cells #[.int .i64 12,.int .i64 nn,.string name,.int .i64 kd,.int .i64 fn,.int .i64 line,.string sn] 47)).alloc (by simp) tz0)
 have H1:=O ((Z H).below (Z HB1))
 clear h h2 hp hs hok hpl
 have hk0:=(Z HOK).lo
 have hk1:=(Z HOK).hi
 clear ho
 have hnv:jW n f s.at_<=200:=by
  unfold jW
  split
  ·rename_i q
   have:=((Z HS).2.1 s.at_.toNat (by omega)).2.1
   omega
  omega
 go_enter Tryz.func113,Tryz.ntmps113
 go_upto_region 1 with fail
 obtain ⟨w1,hw1⟩:∃ w1,w1=((w.alloc (.cells #[.int .i64 12,.int .i64 nn,.string name,.int .i64 kd,.int .i64 fn,.int .i64 line,.string sn] 47)).alloc tz0):=⟨_,rfl⟩
 rw [<- hw1] at A1 HB1 H1 ⊢
 clear hw1
 have HSS:Hid (∀ W,Below w1.heap.size w1 W->W.cell? ⟨w.heap.size,2,none⟩=some (.string name)):=O (fun W hb=>bG hb (Z A1).a2)
 refine wp_region_held_drew (S:=fun W=>W.cell? ⟨w.heap.size,2,none⟩=some (.string name)) (by kernel_rfl) (Z HSS _ (Below.refl _ _).drew) (fun hHeld=>?_)
 refine tka 0 9 hHeld ?_
 refine tka 2 11 hHeld ?_
 refine tka 3 12 hHeld ?_
 refine wpAnyH_ready (rs:=[1,8]) (by kernel_rfl) (by simp) ?_
 refine AllReadyH.cons rfl (fun KK hK=>?_) (AllReadyH.cons rfl (fun KK hK=>?_) AllReadyH.nil)
 ·have hdr:Below w1.heap.size w1 _:=(Below.refl w1.heap.size w1).drew
  go_simp
  refine (bA5 sb lo mv pv tv uv D n f s.at_ _ ((Z H1).below hdr).box ((Z H2 _ ((Z HB1).mono hB)).below hdr) hk0 hk1).mono ?_
  rintro e w2 ⟨⟨v,rfl,hvs⟩,hbx⟩
  have hb2:Below w1.heap.size w1 w2:=hdr.trans (hbx.mono hdr.size)
  have HB2:=O hb2
  have HBX:=O hbx
  have HVS:=O hvs
  refine hK.out _ _ (Z HSS _ hb2) (fun hHeld=>?_)
  clear hK KK hb2 hbx hvs hdr
  try simp only [Act.put,sy]
  refine wpAnyH_ready (rs:=[4,8]) (by kernel_rfl) (by simp) ?_
  refine AllReadyH.cons rfl (fun KK hK=>?_) (AllReadyH.cons rfl (fun KK hK=>?_) AllReadyH.nil)
  ·go_simp
   refine (mW lo _ _ _ name _ (Z HVS) hnv).mono ?_
   rintro e w3 ⟨rfl,hbx⟩
   have hb3:Below w1.heap.size w1 w3:=(Z HB2).trans (hbx.mono (Z HB2).size)
   have HB3:=O hb3
   have HBY:=O hbx
   obtain ⟨r,hr⟩:∃ r,r=cP (gS f s.at_) name (jW n f s.at_):=⟨_,rfl⟩
   rw [<- hr]
   have HR:=O hr
   obtain ⟨vn,vt,vb,hnm⟩:∃ vn vt vb,qZ name r=.tuple #[.agg #[.string vn,.string vt],.bool vb]:=by
    cases r with
    | none=>exact ⟨_,_,_,rfl⟩
    | some x=>exact ⟨_,_,_,rfl⟩
   rw [hnm]
   have HNM:=O hnm
   refine hK.out _ _ (Z HSS _ hb3) (fun hHeld=>?_)
   clear hK KK hb3 hbx hr hnm
   try simp only [Act.put,sy]
   refine tka 5 8 hHeld ?_
   refine tka 6 14 hHeld ?_
   refine tka 7 15 hHeld ?_
   refine rdy 8 fun KK hK=>?_
   go_simp
   have hba:Below w1.heap.size w1 (w3.alloc (.cells #[.string ⟨#[]⟩,.string ⟨#[]⟩] 40)):=(Z HB3).trans ((bH w3 _).mono (Z HB3).size)
   refine hK.out _ _ (Z HSS _ hba) (fun hHeld=>?_)
   clear hK KK
   try simp only [Act.put,sy]
   refine rdy 9 fun KK hK=>?_
   go_simp
   have HB4:Hid (Below w1.heap.size w1 (w3.alloc (.cells #[.string vn,.string vt] 40))):=O ((Z HB3).trans ((bH w3 _).mono (Z HB3).size))
   have HX4:=O (heap_alloc_new w3 (.cells #[.string vn,.string vt] 40))
   refine hK.out _ _ (Z HSS _ (Z HB4)) (fun hHeld=>?_)
   clear hK KK hba
   try simp only [Act.put,sy]
   obtain ⟨pb,hpb⟩:∃ pb,pb=w3.heap.size:=⟨_,rfl⟩
   obtain ⟨w4,hw4⟩:∃ w4,w4=w3.alloc (.cells #[.string vn,.string vt] 40):=⟨_,rfl⟩
   rw [<- hw4] at HB4 HX4 hHeld
   rw [<- hpb] at HX4 ⊢
   rw [<- hw4]
   clear hw4 hpb
   refine tka 10 7 hHeld ?_
   refine wpAnyH_done (by kernel_rfl) ?_ _
   clear hHeld
   have HL4:=O ((Z H1).below (Z HB4))
   have A4:=O ((Z A1).go (Z HB4))
   have HW4:=O ((Z HB1).trans ((Z HB4).mono (Z HB1).size))
   cases r with
   | none =>
    have e:=Z HNM
    cases e
    obtain ⟨⟨r0,r1,r2,r3,r4,r5⟩,x0,x1,x2,x3,x4,x5⟩:=(Z A4).rc
    go_wp2
    refine bodyPost_ret (v:=.tuple #[.agg #[.int .i64 0,.int .i64 0,.int .i64 0,.string ⟨#[]⟩,.slice none 0 0,.slice none 0 0],.iface 180 (.agg #[.int .i64 3])]) (by simp [results,Tryz.results113,go_sem,r0,r1,r2,r3,r4,r5]) rfl ?_
    exact cX (bU.value3 (Z HO) rfl (Z HR).symm) (.inr ⟨rfl,by show (3:Int)≠0;omega,rfl⟩) (Z HL4) (Z A4) (cD _ _) (dD.nil _ _) ((Z HW4).mono hB) (bM.of_below (Z HW4)) hB
   | some tx =>
    have e:=Z HNM
    cases e
    have p1:w4.cell? ⟨pb,1,none⟩=some (.string vt):=by rw [cell_of_row _ _ 1 _ _ _ (Z HX4)];rfl
    obtain ⟨⟨r0,r1,r2,r3,r4,r5⟩,x0,x1,x2,x3,x4,x5⟩:=(Z A4).rc
    go_wp2
    refine bodyPost_ret (v:=.tuple #[.agg #[.int .i64 0,.int .i64 0,.int .i64 0,.string vt,.slice none 0 0,.slice none 0 0],.nilIface]) (by simp [results,Tryz.results113,go_sem,r0,r1,r2,r3,r4,r5]) rfl ?_
    exact cX (bU.value (Z HO) rfl (Z HR).symm) (.inl ⟨rfl,rfl,rfl,rfl⟩) (Z HL4) (Z A4) (cD _ _) (dD.nil _ _) ((Z HW4).mono hB) (bM.of_below (Z HW4)) hB
  go_simp
  have hba:Below w1.heap.size w1 (w2.alloc (.cells #[.string ⟨#[]⟩,.string ⟨#[]⟩] 40)):=(Z HB2).trans ((bH w2 _).mono (Z HB2).size)
  refine hK.out _ _ (Z HSS _ hba) (fun hHeld=>?_)
  clear hK KK
  try simp only [Act.put,sy]
  have HBA:=O hba
  have HNA:=O (heap_alloc_new w2 (.cells #[.string ⟨#[]⟩,.string ⟨#[]⟩] 40))
  have HPB:Hid (w1.heap.size<=w2.heap.size):=O (Z HB2).size
  clear hba
  refine rdy 4 fun KK hK=>?_
  go_simp
  refine (mW lo _ _ _ name _ ((Z HVS).below (bH w2 (.cells #[.string ⟨#[]⟩,.string ⟨#[]⟩] 40))) hnv).mono ?_
  rintro e w3 ⟨rfl,hbx⟩
  have hb3:Below w1.heap.size w1 w3:=(Z HBA).trans (hbx.mono (Z HBA).size)
  have HB3:=O hb3
  have HBY:=O hbx
  obtain ⟨r,hr⟩:∃ r,r=cP (gS f s.at_) name (jW n f s.at_):=⟨_,rfl⟩
  rw [<- hr]
  have HR:=O hr
  obtain ⟨vn,vt,vb,hnm⟩:∃ vn vt vb,qZ name r=.tuple #[.agg #[.string vn,.string vt],.bool vb]:=by
   cases r with
   | none=>exact ⟨_,_,_,rfl⟩
   | some x=>exact ⟨_,_,_,rfl⟩
  rw [hnm]
  have HNM:=O hnm
  refine hK.out _ _ (Z HSS _ hb3) (fun hHeld=>?_)
  clear hK KK hb3 hbx hr hnm
  try simp only [Act.put,sy]
  have HNA3:=O (((Z HBY).block _ (cJ (Z HNA))).trans (Z HNA))
  refine tka 5 8 hHeld ?_
  refine tka 6 14 hHeld ?_
  refine tka 7 15 hHeld ?_
  have z0:w3.cell? ⟨w2.heap.size,0,none⟩=some (.string ⟨#[]⟩):=by rw [cell_of_row _ _ 0 _ _ _ (Z HNA3)];rfl
  have z1:w3.cell? ⟨w2.heap.size,1,none⟩=some (.string ⟨#[]⟩):=by rw [cell_of_row _ _ 1 _ _ _ (Z HNA3)];rfl
  have y0:w3.frozen? ⟨w2.heap.size,0,none⟩=false:=frozen_of_row _ _ _ _ _ (Z HNA3)
  have y1:w3.frozen? ⟨w2.heap.size,1,none⟩=false:=frozen_of_row _ _ _ _ _ (Z HNA3)
  refine rdy 9 fun KK hK=>?_
  go_simp
  have HB4:Hid (Below w1.heap.size w1 ((w3.setCell ⟨w2.heap.size,0,none⟩ (.string vn)).setCell ⟨w2.heap.size,1,none⟩ (.string vt))):=O (((Z HB3).setCell (p:=⟨w2.heap.size,0,none⟩) (Z HPB) _).setCell (p:=⟨w2.heap.size,1,none⟩) (Z HPB) _)
  have HX4:Hid (((w3.setCell ⟨w2.heap.size,0,none⟩ (.string vn)).setCell ⟨w2.heap.size,1,none⟩ (.string vt)).heap[w2.heap.size]?=some (.cells #[.string vn,.string vt] 40 (0,0))):=O (by simp [World.setCell,Array.getElem?_modify,Z HNA3])
  refine hK.out _ _ (Z HSS _ (Z HB4)) (fun hHeld=>?_)
  clear hK KK z0 z1 y0 y1
  try simp only [Act.put,sy]
  obtain ⟨w4,hw4⟩:∃ w4,w4=((w3.setCell ⟨w2.heap.size,0,none⟩ (.string vn)).setCell ⟨w2.heap.size,1,none⟩ (.string vt)):=⟨_,rfl⟩
  rw [<- hw4] at HB4 HX4 hHeld ⊢
  obtain ⟨pb,hpb⟩:∃ pb,pb=w2.heap.size:=⟨_,rfl⟩
  rw [<- hpb] at HX4 ⊢
  clear hw4 hpb
  refine tka 10 7 hHeld ?_
  refine wpAnyH_done (by kernel_rfl) ?_ _
  clear hHeld
  have HL4:=O ((Z H1).below (Z HB4))
  have A4:=O ((Z A1).go (Z HB4))
  have HW4:=O ((Z HB1).trans ((Z HB4).mono (Z HB1).size))
  cases r with
  | none =>
   have e:=Z HNM
   cases e
   obtain ⟨⟨r0,r1,r2,r3,r4,r5⟩,x0,x1,x2,x3,x4,x5⟩:=(Z A4).rc
   go_wp2
   refine bodyPost_ret (v:=.tuple #[.agg #[.int .i64 0,.int .i64 0,.int .i64 0,.string ⟨#[]⟩,.slice none 0 0,.slice none 0 0],.iface 180 (.agg #[.int .i64 3])]) (by simp [results,Tryz.results113,go_sem,r0,r1,r2,r3,r4,r5]) rfl ?_
   exact cX (bU.value3 (Z HO) rfl (Z HR).symm) (.inr ⟨rfl,by show (3:Int)≠0;omega,rfl⟩) (Z HL4) (Z A4) (cD _ _) (dD.nil _ _) ((Z HW4).mono hB) (bM.of_below (Z HW4)) hB
  | some tx =>
   have e:=Z HNM
   cases e
   have p1:w4.cell? ⟨pb,1,none⟩=some (.string vt):=by rw [cell_of_row _ _ 1 _ _ _ (Z HX4)];rfl
   obtain ⟨⟨r0,r1,r2,r3,r4,r5⟩,x0,x1,x2,x3,x4,x5⟩:=(Z A4).rc
   go_wp2
   refine bodyPost_ret (v:=.tuple #[.agg #[.int .i64 0,.int .i64 0,.int .i64 0,.string vt,.slice none 0 0,.slice none 0 0],.nilIface]) (by simp [results,Tryz.results113,go_sem,r0,r1,r2,r3,r4,r5]) rfl ?_
   exact cX (bU.value (Z HO) rfl (Z HR).symm) (.inl ⟨rfl,rfl,rfl,rfl⟩) (Z HL4) (Z A4) (cD _ _) (dD.nil _ _) ((Z HW4).mono hB) (bM.of_below (Z HW4)) hB
 go_simp
 have hba:Below w1.heap.size w1 (w1.alloc (.cells #[.string ⟨#[]⟩,.string ⟨#[]⟩] 40)).drew:=(bH w1 (.cells #[.string ⟨#[]⟩,.string ⟨#[]⟩] 40)).drew
 refine hK.out _ _ (Z HSS _ hba) (fun hHeld=>?_)
 clear hK KK
 try simp only [Act.put,sy]
 have HBA:=O hba
 have HNA:Hid ((w1.alloc (.cells #[.string ⟨#[]⟩,.string ⟨#[]⟩] 40)).drew.heap[w1.heap.size]?=some (.cells #[.string ⟨#[]⟩,.string ⟨#[]⟩] 40 (0,0))):=O (heap_alloc_new w1 (.cells #[.string ⟨#[]⟩,.string ⟨#[]⟩] 40))
 have HPB:Hid (w1.heap.size<=w1.heap.size):=O (Nat.le_refl _)
 clear hba
 refine rdy 1 fun KK hK=>?_
 have hdr:Below w1.heap.size w1 _:=(Z HBA)
 go_simp
 refine (bA5 sb lo mv pv tv uv D n f s.at_ _ ((Z H1).below hdr).box ((Z H2 _ ((Z HB1).mono hB)).below hdr) hk0 hk1).mono ?_
 rintro e w2 ⟨⟨v,rfl,hvs⟩,hbx⟩
 have hb2:Below w1.heap.size w1 w2:=hdr.trans (hbx.mono hdr.size)
 have HB2:=O hb2
 have HBX:=O hbx
 have HVS:=O hvs
 refine hK.out _ _ (Z HSS _ hb2) (fun hHeld=>?_)
 clear hK KK hb2 hbx hvs hdr
 try simp only [Act.put,sy]
 have HNA2:=O (((Z HBX).block _ (cJ (Z HNA))).trans (Z HNA))
 refine rdy 4 fun KK hK=>?_
 go_simp
 refine (mW lo _ _ _ name _ (Z HVS) hnv).mono ?_
 rintro e w3 ⟨rfl,hbx⟩
 have hb3:Below w1.heap.size w1 w3:=(Z HB2).trans (hbx.mono (Z HB2).size)
 have HB3:=O hb3
 have HBY:=O hbx
 obtain ⟨r,hr⟩:∃ r,r=cP (gS f s.at_) name (jW n f s.at_):=⟨_,rfl⟩
 rw [<- hr]
 have HR:=O hr
 obtain ⟨vn,vt,vb,hnm⟩:∃ vn vt vb,qZ name r=.tuple #[.agg #[.string vn,.string vt],.bool vb]:=by
  cases r with
  | none=>exact ⟨_,_,_,rfl⟩
  | some x=>exact ⟨_,_,_,rfl⟩
 rw [hnm]
 have HNM:=O hnm
 refine hK.out _ _ (Z HSS _ hb3) (fun hHeld=>?_)
 clear hK KK hb3 hbx hr hnm
 try simp only [Act.put,sy]
 have HNA3:=O (((Z HBY).block _ (cJ (Z HNA2))).trans (Z HNA2))
 refine tka 5 8 hHeld ?_
 refine tka 6 14 hHeld ?_
 refine tka 7 15 hHeld ?_
 have z0:w3.cell? ⟨w1.heap.size,0,none⟩=some (.string ⟨#[]⟩):=by rw [cell_of_row _ _ 0 _ _ _ (Z HNA3)];rfl
 have z1:w3.cell? ⟨w1.heap.size,1,none⟩=some (.string ⟨#[]⟩):=by rw [cell_of_row _ _ 1 _ _ _ (Z HNA3)];rfl
 have y0:w3.frozen? ⟨w1.heap.size,0,none⟩=false:=frozen_of_row _ _ _ _ _ (Z HNA3)
 have y1:w3.frozen? ⟨w1.heap.size,1,none⟩=false:=frozen_of_row _ _ _ _ _ (Z HNA3)
 refine rdy 9 fun KK hK=>?_
 go_simp
 have HB4:Hid (Below w1.heap.size w1 ((w3.setCell ⟨w1.heap.size,0,none⟩ (.string vn)).setCell ⟨w1.heap.size,1,none⟩ (.string vt))):=O (((Z HB3).setCell (p:=⟨w1.heap.size,0,none⟩) (Z HPB) _).setCell (p:=⟨w1.heap.size,1,none⟩) (Z HPB) _)
 have HX4:Hid (((w3.setCell ⟨w1.heap.size,0,none⟩ (.string vn)).setCell ⟨w1.heap.size,1,none⟩ (.string vt)).heap[w1.heap.size]?=some (.cells #[.string vn,.string vt] 40 (0,0))):=O (by simp [World.setCell,Array.getElem?_modify,Z HNA3])
 refine hK.out _ _ (Z HSS _ (Z HB4)) (fun hHeld=>?_)
 clear hK KK z0 z1 y0 y1
 try simp only [Act.put,sy]
 obtain ⟨w4,hw4⟩:∃ w4,w4=((w3.setCell ⟨w1.heap.size,0,none⟩ (.string vn)).setCell ⟨w1.heap.size,1,none⟩ (.string vt)):=⟨_,rfl⟩
 rw [<- hw4] at HB4 HX4 hHeld ⊢
 obtain ⟨pb,hpb⟩:∃ pb,pb=w1.heap.size:=⟨_,rfl⟩
 rw [<- hpb] at HX4 ⊢
 clear hw4 hpb
 refine tka 10 7 hHeld ?_
 refine wpAnyH_done (by kernel_rfl) ?_ _
 clear hHeld
 have HL4:=O ((Z H1).below (Z HB4))
 have A4:=O ((Z A1).go (Z HB4))
 have HW4:=O ((Z HB1).trans ((Z HB4).mono (Z HB1).size))
 cases r with
 | none =>
  have e:=Z HNM
  cases e
  obtain ⟨⟨r0,r1,r2,r3,r4,r5⟩,x0,x1,x2,x3,x4,x5⟩:=(Z A4).rc
  go_wp2
  refine bodyPost_ret (v:=.tuple #[.agg #[.int .i64 0,.int .i64 0,.int .i64 0,.string ⟨#[]⟩,.slice none 0 0,.slice none 0 0],.iface 180 (.agg #[.int .i64 3])]) (by simp [results,Tryz.results113,go_sem,r0,r1,r2,r3,r4,r5]) rfl ?_
  exact cX (bU.value3 (Z HO) rfl (Z HR).symm) (.inr ⟨rfl,by show (3:Int)≠0;omega,rfl⟩) (Z HL4) (Z A4) (cD _ _) (dD.nil _ _) ((Z HW4).mono hB) (bM.of_below (Z HW4)) hB
 | some tx =>
  have e:=Z HNM
  cases e
  have p1:w4.cell? ⟨pb,1,none⟩=some (.string vt):=by rw [cell_of_row _ _ 1 _ _ _ (Z HX4)];rfl
  obtain ⟨⟨r0,r1,r2,r3,r4,r5⟩,x0,x1,x2,x3,x4,x5⟩:=(Z A4).rc
  go_wp2
  refine bodyPost_ret (v:=.tuple #[.agg #[.int .i64 0,.int .i64 0,.int .i64 0,.string vt,.slice none 0 0,.slice none 0 0],.nilIface]) (by simp [results,Tryz.results113,go_sem,r0,r1,r2,r3,r4,r5]) rfl ?_
  exact cX (bU.value (Z HO) rfl (Z HR).symm) (.inl ⟨rfl,rfl,rfl,rfl⟩) (Z HL4) (Z A4) (cD _ _) (dD.nil _ _) ((Z HW4).mono hB) (bM.of_below (Z HW4)) hB
theorem rJ {P:Program} {w:World} {ops:Array Oper} {o:Oper} {a:Act} {K:Act->World->Prop} {Q:Exit->Act->World->Prop} {E:Prop} (hgd:o.guard=none) (s x:Operand) (t:TypeId)
  (ho:o.op=.call { callee:=.builtin .append,args:=#[s,x],argTypes:=#[t,t] }) (e:TypeId) (i:TypeInfo) (ht:P.underlying t=some (.slice e)) (hi:P.info? e=some i)
  (b off sLen sCap:Nat) (ad:Addr) (m c:Nat) (news:List Value) (hs:a.eval s=.slice (some ⟨b,off,none⟩) sLen sCap) (hx:a.eval x=.slice (some ad) m c) (hl:news.length=m*i.size) (hnews:∀ j u,news[j]?=some u->w.cell? (ad.add j)=some u) (h1:∀ u∈news,u.oneCell'=true)
  (hroom:sLen+m<=sCap) (hc:∀ j,j<news.length->(w.cell? ⟨b,off+sLen*i.size+j,none⟩).isSome=true) (hf:∀ j,j<news.length->w.frozen? ⟨b,off+sLen*i.size+j,none⟩=false)
  (h:K (a.put o.dst (.slice (some ⟨b,off,none⟩) (sLen+m) sCap)) (w.setCells b (off+sLen*i.size) news)) :
  if Region.wanted o (yielded ops a.tmps)=true then Oper.wp P o a w K Q else E:=by
 have hw:Region.wanted o (yielded ops a.tmps)=true:=by simp [Region.wanted,hgd]
 rw [if_pos hw]
 have hrun:=run_append_room_cells (P:=P) w t o.type e i ht hi b off sLen sCap ad m c news hl hnews h1 hroom hc hf
 unfold Oper.wp
 simp [execOp,ho,resolve,invoke,builtin,hs,hx,hrun,Result.andThen]
 exact h
def laid (cur:Array Value):Nat->List Value->Array Value
 | _,[]=>cur
 | o,v :: r=>laid (cur.setIfInBounds o v) (o+1) r
theorem rK:∀ (vs:List Value) (cur:Array Value) (o:Nat),(laid cur o vs).size=cur.size
 | [],_,_=>rfl
 | v :: r,cur,o=>by rw [laid,rK r];simp
theorem bL1:∀ (vs:List Value) (cur:Array Value) (o i:Nat),o+vs.length<=cur.size->(laid cur o vs)[i]?=if o<=i/\i<o+vs.length then vs[i - o]? else cur[i]?
 | [],cur,o,i,_=>by rw [laid,if_neg (by simp only [List.length_nil];omega)]
 | v :: r,cur,o,i,h=>by
  simp only [List.length_cons] at h
  rw [laid,bL1 r _ _ _ (by simp;omega)]
  by_cases c1:o+1<=i/\i<o+1+r.length
  ·rw [if_pos c1,if_pos (by simp;omega),show i - o=(i - (o+1))+1 by omega,List.getElem?_cons_succ]
  rw [if_neg c1]
  by_cases c2:i=o
  ·subst c2
   rw [if_pos (by simp),Nat.sub_self,List.getElem?_cons_zero,Array.getElem?_setIfInBounds_self_of_lt (by omega)]
  rw [if_neg (by simp;omega),Array.getElem?_setIfInBounds_ne (by omega)]
theorem qU:∀ (vs:List Value) (w:World) (b o:Nat) (cur:Array Value) (t:TypeId) (fr:Nat × Nat),w.heap[b]?=some (.cells cur t fr)->(w.setCells b o vs).heap[b]?=some (.cells (laid cur o vs) t fr)
 | [],_,_,_,_,_,_,h=>h
 | v :: r,w,b,o,cur,t,fr,h=>by
  rw [World.setCells,laid]
  exact qU r _ b (o+1) _ t fr (by simp [World.setCell,Array.getElem?_modify,h])
theorem eP:∀ (vs:List Value) (w:World) (b o q:Nat),q≠b->(w.setCells b o vs).heap[q]?=w.heap[q]?
 | [],_,_,_,_,_=>rfl
 | v :: r,w,b,o,q,h=>by
  rw [World.setCells,eP r _ b (o+1) q h,heap_setCell_other _ _ _ _ h]
theorem mG {B:Nat} {a:World}:∀ (vs:List Value) (w:World) (b o:Nat),Below B a w->B<=b->Below B a (w.setCells b o vs)
 | [],_,_,_,h,_=>h
 | v :: r,w,b,o,h,hb=>by
  rw [World.setCells]
  exact mG r _ b (o+1) (h.setCell (p:=⟨b,o,none⟩) hb _) hb
theorem erase_map (vs:Nat->Value) (ns j:Nat) (hj:j<ns):((List.range ns).map vs).eraseIdx j=(List.range (ns - 1)).map (fun i=>vs (past j i)):=by
 apply List.ext_getElem?
 intro i
 rw [List.getElem?_eraseIdx]
 unfold past
 by_cases c1:i<ns - 1
 ·by_cases c2:i<j
  ·rw [if_pos c2,List.getElem?_map,List.getElem?_map,List.getElem?_range (by omega),List.getElem?_range c1]
   show some (vs i)=some (vs (if i<j then i else i+1))
   rw [if_pos c2]
  rw [if_neg c2,List.getElem?_map,List.getElem?_map,List.getElem?_range (by omega),List.getElem?_range c1]
  show some (vs (i+1))=some (vs (if i<j then i else i+1))
  rw [if_neg c2]
 rw [List.getElem?_eq_none (l:=(List.range (ns - 1)).map _) (by simp;omega)]
 by_cases c2:i<j
 ·omega
 rw [if_neg c2,List.getElem?_eq_none (by simp;omega)]
theorem zero_test (w:World):(zeroValue 228).run Tryz.prog w=.ok .nilFunc w:=by kernel_rfl
theorem delete_any (B g p tc j:Nat) (xs:List Value) (w:World) (h:w.ownsRow B 228 1 (.slice (some ⟨g,0,none⟩) (p+1) tc) (p+1) xs) (h1:∀ u∈xs,u.oneCell'=true) (hj:j<=p) (hn:p<=1000) :
  Calls Tryz.prog 148 #[.slice (some ⟨g,0,none⟩) (p+1) tc,.int .i64 (j:Int),.int .i64 ((j:Int)+1)] w fun e w'=>e=.returned (.slice (some ⟨g,0,none⟩) p tc)/\w'.ownsRow B 228 1 (.slice (some ⟨g,0,none⟩) p tc) p (xs.eraseIdx j)/\bM (fun t=>t≠228) w w'/\Below B w w':=by
 obtain ⟨i0,hi0,hz0,hz1,hz2⟩:=info_parts bQ0
 have II:=O (And.intro hi0 hz1);clear hi0 hz0 hz1 hz2
 obtain ⟨hl,h2⟩:=h
 rcases h2 with ⟨e,_⟩ | ⟨g',tc',cur,e,hBg,hh,hnc,hcm,hcs,htk⟩
 ·cases e
 cases e
 rw [Nat.mul_one] at hl hcs htk
 unfold maxLen at hcm
 have hcur:∀ i,i<p+1->cur[i]?=xs[i]?:=fun i hi=>by
  rw [<- htk,List.getElem?_take,if_pos hi,Array.getElem?_toList]
 obtain ⟨news,hnews⟩:∃ news,news=xs.drop (j+1):=⟨_,rfl⟩
 have hnl:news.length=p - j:=by rw [hnews,List.length_drop,hl];omega
 have HN1:Hid (news.length=(p - j)*i0.size):=O (by rw [(Z II).2,Nat.mul_one];exact hnl)
 have HNO:Hid (∀ u∈news,u.oneCell'=true):=O (fun u hu=>h1 u (by rw [hnews] at hu;exact List.mem_of_mem_drop hu))
 have hcell:∀ i,i<p+1->∃ u,w.cell? ⟨g,i,none⟩=some u/\xs[i]?=some u:=fun i hi=>by
  have:i<xs.length:=by omega
  exact ⟨xs[i],by rw [cell_of_row w g i _ _ _ hh,hcur i hi,List.getElem?_eq_getElem this],List.getElem?_eq_getElem this⟩
 have HCE:=O hcell
 have HFZ:Hid (∀ i,w.frozen? ⟨g,i,none⟩=false):=O (fun i=>frozen_of_row _ _ _ _ _ hh)
 -- what is left behind both writings
 obtain ⟨W1,hW1⟩:∃ W1,W1=w.drew.setCells g j news:=⟨_,rfl⟩
 have hh1:W1.heap[g]?=some (.cells (laid cur j news) 228 (0,0)):=by rw [hW1];exact qU news w.drew g j cur _ _ hh
 have hh2:(W1.setCells g p [.nilFunc]).heap[g]?=some (.cells (laid (laid cur j news) p [.nilFunc]) 228 (0,0)):=qU _ W1 g p _ _ _ hh1
 have HCL:Hid (∀ ty c,(Builtin.clear_ #[169] ty #[.slice (some ⟨g,p,none⟩) 1 c]).run Tryz.prog W1=.ok (.tuple #[]) (W1.setCells g p [.nilFunc])):=O (fun ty c =>
  Lib.run_clear_slice W1 169 228 ty .nilFunc Tryz.underlying169 zero_test rfl rfl g p 1 c (by omega) (fun i hi=>by
   obtain rfl:i=0:=by omega
   rw [Nat.add_zero,cell_of_row W1 g p _ _ _ hh1]
   exact Option.isSome_iff_exists.2 ⟨_,Array.getElem?_eq_getElem (by rw [rK];omega)⟩) (fun i hi=>frozen_of_row _ _ _ _ _ hh1))
 have HR:Hid ((W1.setCells g p [.nilFunc]).ownsRow B 228 1 (.slice (some ⟨g,0,none⟩) p tc) p (xs.eraseIdx j)):=O (by
  refine ⟨by rw [List.length_eraseIdx,if_pos (by omega),hl,Nat.mul_one];omega,.inr ⟨g,tc,_,rfl,hBg,hh2,by omega,by unfold maxLen;omega,by rw [rK,rK,hcs,Nat.mul_one],?_⟩⟩
  apply List.ext_getElem?
  intro i
  rw [List.getElem?_take,List.getElem?_eraseIdx,Nat.mul_one]
  by_cases c1:i<p
  ·rw [if_pos c1,Array.getElem?_toList,bL1 _ _ _ _ (by rw [rK,List.length_singleton];omega),if_neg (by rw [List.length_singleton];omega),bL1 _ _ _ _ (by omega)]
   by_cases c2:i<j
   ·rw [if_neg (by omega),if_pos c2,hcur i (by omega)]
   rw [if_pos (by omega),if_neg c2,hnews,List.getElem?_drop]
   congr 1
   omega
  rw [if_neg c1]
  by_cases c2:i<j
  ·omega
  rw [if_neg c2,List.getElem?_eq_none (by omega)])
 have HSM:Hid (bM (fun t=>t≠228) w (W1.setCells g p [.nilFunc])):=O (fun b cs t fr hb ht=>by
  have hne:b≠g:=fun e=>by subst e;rw [hh] at hb;cases hb;exact ht rfl
  rw [eP _ _ _ _ _ hne,hW1,eP _ _ _ _ _ hne]
  exact hb)
 have HBL:Hid (Below B w (W1.setCells g p [.nilFunc])):=O (mG _ _ _ _ (by rw [hW1];exact mG _ _ _ _ (Below.refl B w).drew hBg) hBg)
 have HW1:=O hW1
 have HNEW:=O hnews
 have hpj:j+(p - j)=p:=by omega
 clear hh hh1 hh2 htk h1 hl hcs hcur hcell hW1 hnews
 have s1:(0:Int)<=(j:Int):=by omega
 have s2:(j:Int)<=(j:Int)+1:=by omega
 have s3:(j:Int)+1<=((p+1:Nat):Int):=by omega
 have s4:((p+1:Nat):Int)<=(tc:Int):=by omega
 have s5:(0:Int)<=(j:Int)+1:=by omega
 have s6:(j:Int)<=(tc:Int):=by omega
 have s7:(j:Int)<=(p:Int):=by omega
 have s8:(p:Int)<=(p:Int)+1:=by omega
 have s9:(p:Int)+1<=(tc:Int):=by omega
 have s10:(0:Int)<=(p:Int):=by omega
 have s11:(p:Int)<=(tc:Int):=by omega
 have s12:(0:Int)<=(p:Int)+1:=by omega
 have s13:(j:Int)+1<=(p:Int)+1:=by omega
 have s14:tc≠p:=by omega
 have s15:¬ tc=p:=by omega
 have sne:((j:Int) == (j:Int)+1)=false:=by rw [beq_eq_false_iff_ne];omega
 by_cases htc:tc=j+1
 ·obtain rfl:p=j:=by omega
  subst htc
  go_enter Tryz.func148,Tryz.ntmps148
  go_upto_region 5 with fail
  refine wp_region_held_drew (S:=fun _=>True) (by kernel_rfl) trivial (fun hHeld=>?_)
  refine tka 0 20 hHeld ?_
  refine tka 1 21 hHeld ?_
  refine tka 2 22 hHeld ?_
  refine tka 3 23 hHeld ?_
  refine tka 4 24 hHeld ?_
  refine tka 5 25 hHeld ?_
  refine rdy 6 fun KK hK=>?_
  refine rJ (by rfl) _ _ _ (by rfl) 228 i0 Tryz.underlying169 (Z II).1 g 0 p (p+1) ⟨g,0,none⟩ 0 0 news (by rfl) (by rfl) (by rw [Nat.zero_mul,hnl,Nat.sub_self]) ?hnwa (Z HNO) (by omega) ?hcca ?hffa ?hkka
  case hnwa =>
   intro i u hu
   rw [List.getElem?_eq_none (by omega)] at hu;cases hu
  case hcca =>
   intro i hi
   obtain ⟨u,k1,_⟩:=Z HCE (p+i) (by omega)
   rw [(Z II).2,Nat.zero_add,Nat.mul_one]
   exact Option.isSome_iff_exists.2 ⟨u,k1⟩
  case hffa =>
   intro i hi
   exact Z HFZ _
  rw [(Z II).2,Nat.zero_add,Nat.mul_one,Nat.add_zero,<- Z HW1]
  refine hK.out _ _ trivial (fun hHeld=>?_)
  clear hK KK
  try simp only [Act.put,sy]
  refine tka 7 0 hHeld ?_
  refine wpAnyH_done (by kernel_rfl) ?_ _
  clear hHeld
  have hcl:=Z HCL 0 1
  go_wp2
  go_ret
  exact ⟨rfl,Z HR,Z HSM,Z HBL⟩
 go_enter Tryz.func148,Tryz.ntmps148
 go_upto_region 5 with fail
 refine wp_region_held_drew (S:=fun _=>True) (by kernel_rfl) trivial (fun hHeld=>?_)
 refine tka 0 20 hHeld ?_
 refine tka 1 21 hHeld ?_
 refine tka 2 22 hHeld ?_
 refine tka 3 23 hHeld ?_
 refine tka 4 24 hHeld ?_
 refine tka 5 25 hHeld ?_
 refine rdy 6 fun KK hK=>?_
 refine rJ (by rfl) _ _ _ (by rfl) 228 i0 Tryz.underlying169 (Z II).1 g 0 j tc ⟨g,j+1,none⟩ (p - j) (tc - (j+1)) news (by rfl) (by rfl) (Z HN1) ?hnwc (Z HNO) (by omega) ?hccc ?hffc ?hkkc
 case hnwc =>
  intro i u hu
  rw [Addr.add_lit];rw [Z HNEW,List.getElem?_drop] at hu;obtain ⟨u2,k1,k2⟩:=Z HCE (j+1+i) (by rcases Nat.lt_or_ge i (p - j) with q | q;omega;rw [<- List.getElem?_drop,<- Z HNEW,List.getElem?_eq_none (by omega)] at hu;cases hu);rw [k2] at hu;cases hu;exact k1
 case hccc =>
  intro i hi
  obtain ⟨u,k1,_⟩:=Z HCE (j+i) (by omega)
  rw [(Z II).2,Nat.zero_add,Nat.mul_one]
  exact Option.isSome_iff_exists.2 ⟨u,k1⟩
 case hffc =>
  intro i hi
  exact Z HFZ _
 rw [(Z II).2,Nat.zero_add,Nat.mul_one,hpj,<- Z HW1]
 refine hK.out _ _ trivial (fun hHeld=>?_)
 clear hK KK
 try simp only [Act.put,sy]
 refine tka 7 0 hHeld ?_
 refine wpAnyH_done (by kernel_rfl) ?_ _
 clear hHeld
 have hcl:=Z HCL 0 (tc - p)
 go_wp2
 go_ret
 exact ⟨rfl,Z HR,Z HSM,Z HBL⟩
theorem bP1 (B sb lo lp:Nat) (mv pv tv uv:Value) (D:Nat->Value) (nf:Nat) (fns:Nat->ByteArray) (n:Nat) (f:Nat->M) (s:LS) (nn:Int) (name:ByteArray) (kd fn line:Int) (sn:ByteArray) (w:World) (h:SS B w sb mv pv n f s tv uv D) (h2:∀ W,Below B w W->bQ lo W mv n f) (hp:∀ W,Below B w W->bW lp W pv n f) (hs:cB nf fns n f) (hok:gF n s) (hpl:s.past.length<=10000) (hB:B<=w.heap.size) (ho:cL (⟨2,nn,name,⟨kd,fn,line,sn⟩⟩:Ak)) :
  Calls Tryz.prog 105 #[.pointer (some ⟨sb,0,none⟩),.agg #[.int .i64 2,.int .i64 nn,.string name,.int .i64 kd,.int .i64 fn,.int .i64 line,.string sn]] w fun e w'=>pK B sb mv pv n f D s (⟨2,nn,name,⟨kd,fn,line,sn⟩⟩:Ak) w e w':=by
 have H:=O h
 have H2:=O h2
 have HP:=O hp
 have HS:=O hs
 have HOK:=O hok
 have HPL:=O hpl
 have HO:=O ho
 have A1:=O (DB.new w (⟨2,nn,name,⟨kd,fn,line,sn⟩⟩:Ak))
 have HB1:Hid (Below w.heap.size w ((w.alloc (.cells #[.int .i64 2,.int .i64 nn,.string name,.int .i64 kd,.int .i64 fn,.int .i64 line,.string sn] 47)).alloc tz0)):=O ((bH w (.cells #[.int .i64 2,.int .i64 nn,.string name,.int .i64 kd,.int .i64 fn,.int .i64 line,.string sn] 47)).alloc (by simp) tz0)
 have H1:=O ((Z H).below (Z HB1))
 clear h h2 hp hs hok hpl
 have hn0:0<=nn:=((gN (.inl rfl)).1 ho).1.1
 have hn49:nn<=49:=((gN (.inl rfl)).1 ho).1.2
 clear ho
 obtain ⟨ta,tc,hte⟩:=(Z H).tslice
 obtain ⟨ns,hns⟩:∃ ns,ns=s.stops.length:=⟨_,rfl⟩
 rw [<- hns] at hte
 subst hte
 have HNS:=O hns
 have hn50:ns<=50:=by rw [hns];exact (Z HOK).st
 clear hns
 have hlt:=(Z H).lt
 go_enter Tryz.func105,Tryz.ntmps105
 go_upto_region 1 with fail
 obtain ⟨w1,hw1⟩:∃ w1,w1=((w.alloc (.cells #[.int .i64 2,.int .i64 nn,.string name,.int .i64 kd,.int .i64 fn,.int .i64 line,.string sn] 47)).alloc tz0):=⟨_,rfl⟩
 rw [<- hw1] at A1 HB1 H1 ⊢
 clear hw1
 have c3:=(Z H1).box.c3
 have a1:w1.cell? ⟨w.heap.size,1,none⟩=some (.int .i64 nn):=(Z A1).a1
 by_cases hge:(ns:Int)<=nn
 ·have HGE:Hid ((s.stops.length:Int)<=nn):=O (by rw [<- Z HNS];exact hge)
  go_quiet (fail)
  generalize hW2:w1.drewN _=w2
  have hb2:Below w1.heap.size w1 w2:=by rw [<- hW2];exact bP _ _
  have A2:=O ((Z A1).go hb2)
  have HL2:=O ((Z H1).below hb2)
  have HB2:=hT HB1 hb2
  clear hb2 hW2 c3 a1
  obtain ⟨⟨r0,r1,r2,r3,r4,r5⟩,x0,x1,x2,x3,x4,x5⟩:=(Z A2).rc
  go_wp2
  refine bodyPost_ret (v:=.tuple #[.agg #[.int .i64 0,.int .i64 0,.int .i64 0,.string ⟨#[]⟩,.slice none 0 0,.slice none 0 0],.iface 180 (.agg #[.int .i64 2])]) (by simp [results,Tryz.results105,go_sem,r0,r1,r2,r3,r4,r5]) rfl ?_
  exact cX (bU.clear2 (Z HO) rfl (Z HGE)) (.inr ⟨rfl,by show (2:Int)≠0;omega,rfl⟩) (Z HL2) (Z A2) (cD _ _) (dD.nil _ _) ((Z HB2).mono hB) (bM.of_below (Z HB2)) hB
 have hge':decide ((ns:Int)<=nn)=false:=by simpa using hge
 go_quiet (fail)
 generalize hW2:w1.drewN _=w2
 have hb2:Below w1.heap.size w1 w2:=by rw [<- hW2];exact bP _ _
 have A2:=O ((Z A1).go hb2)
 have HL2:=O ((Z H1).below hb2)
 have HB2:=hT HB1 hb2
 clear hb2 hW2 c3 a1 H1 A1
 obtain ⟨j,hj⟩:∃ j:Nat,nn=(j:Int):=⟨nn.toNat,by omega⟩
 subst hj
 obtain ⟨p,rfl⟩:∃ p,ns=p+1:=⟨ns - 1,by omega⟩
 have hjp:j<=p:=by omega
 obtain ⟨vs,hrow,hbo⟩:=(Z HL2).tests
 rw [<- Z HNS] at hrow hbo
 obtain ⟨g,cap,eg,hBg,_⟩:=pE hrow (by omega)
 cases eg
 have HROW:=O hrow
 have HBO:=O hbo
 clear hrow hbo hge hge'
 have wj:IntKind.i64.wrap ((j:Int)+1)=(j:Int)+1:=by rw [IntKind.wrap_i64];omega
 have HSS:Hid (∀ W,Below w2.heap.size w2 W->W.cell? ⟨w.heap.size,1,none⟩=some (.int .i64 (j:Int))):=O (fun W hb=>bG hb (Z A2).a1)
 go_upto_region 3 with fail
 refine wp_region_held_drew (S:=fun W=>W.cell? ⟨w.heap.size,1,none⟩=some (.int .i64 (j:Int))) (by kernel_rfl) (Z HSS _ (Below.refl _ _).drew) (fun hHeld=>?_)
 refine tka 0 17 hHeld ?_
 refine tka 1 18 hHeld ?_
 refine tka 2 19 hHeld ?_
 refine tka 3 20 hHeld ?_
 refine tka 5 22 hHeld ?_
 refine tka 6 23 hHeld ?_
 refine tka 7 24 hHeld ?_
 refine tka 8 25 hHeld ?_
 refine tka 9 26 hHeld ?_
 refine rdy 4 fun KK hK=>?_
 have hdr:=(Below.refl w2.heap.size w2).drew
 have q3:=bG hdr (Z HL2).box.c3
 go_simp
 refine hK.out _ _ (Z HSS _ hdr) (fun hHeld=>?_)
 clear hK KK q3
 try simp only [Act.put,sy]
 refine rdy 10 fun KK hK=>?_
 go_simp
 refine (delete_any B g p tc j _ _ (bN (Z HROW) hdr) (fun u hu=>by
  obtain ⟨i,hi,rfl⟩:=List.mem_map.1 hu
  exact (Z HBO i (List.mem_range.1 hi)).one) hjp (by omega)).mono ?_
 rintro e w3 ⟨rfl,hown,hsm,hbl⟩
 have s3:bM (fun t=>t≠228) w2 w3:=(bM.of_below hdr).trans hsm
 have HX3:=O ((Z HL2).box.same s3 (by decide))
 have HU3:=O ((Z HL2).undos.same s3 (by decide) (by decide) (by decide))
 have HK3:Hid (bM dB w2 w3):=O (s3.mono (fun t q=>q.2.1))
 have A3:=O ((Z A2).same (Z HK3))
 have HB3:Hid (Below B w w3):=O (((Z HB2).mono hB).trans ((hdr.mono (Nat.le_trans hB (Z HB2).size)).trans hbl))
 have HT3:Hid (fU B w3 (.slice (some ⟨g,0,none⟩) p tc) mv p n f (LS.ss ⟨s.at_,s.stops.eraseIdx j,s.past⟩)):=O ⟨fun i=>vs (past j i),by rw [<- show p+1 - 1=p from rfl,<- erase_map vs (p+1) j (by omega)];exact hown,fun i hi=>by
  rw [ss_erase]
  exact (Z HBO (past j i) (by unfold past;split<;>omega)).same s3 (by decide) (by decide) (by decide) (by decide)⟩
 have k1:w3.cell? ⟨w.heap.size,1,none⟩=some (.int .i64 (j:Int)):=(Z A3).a1
 refine hK.out _ _ k1 (fun hHeld=>?_)
 clear hK KK hown hsm hbl hdr s3
 try simp only [Act.put,sy]
 refine tka 11 28 hHeld ?_
 refine tka 12 29 hHeld ?_
 have k3:=(Z HX3).c3
 have f3:=(Z HX3).fz 3
 refine rdy 13 fun KK hK=>?_
 go_simp
 have HL4:Hid (SS B (w3.setCell ⟨sb,3,none⟩ (.slice (some ⟨g,0,none⟩) p tc)) sb mv pv n f ⟨s.at_,s.stops.eraseIdx j,s.past⟩ (.slice (some ⟨g,0,none⟩) p tc) uv D):=O (by
  obtain ⟨cs,hh⟩:=(Z HX3).block
  have hs4:bM (fun t=>t≠176) w3 (w3.setCell ⟨sb,3,none⟩ (.slice (some ⟨g,0,none⟩) p tc)):=bM.set hh (fun q=>q rfl)
  have el:(s.stops.eraseIdx j).length=p:=by rw [List.length_eraseIdx,if_pos (by rw [<- Z HNS];omega),<- Z HNS];rfl
  exact ⟨(Z HX3).set3 _,by rw [el];exact (Z HT3).same hs4 (by decide) (by decide) (by decide) (by decide) (by decide),(Z HU3).same hs4 (by decide) (by decide) (by decide),(Z H).sbB⟩)
 have SK4:Hid (bM dB w3 (w3.setCell ⟨sb,3,none⟩ (.slice (some ⟨g,0,none⟩) p tc))):=O (by obtain ⟨cs,hh⟩:=(Z HX3).block;exact bM.set hh dB.no)
 have A4:=O ((Z A3).same (Z SK4))
 have HB4:Hid (Below B w (w3.setCell ⟨sb,3,none⟩ (.slice (some ⟨g,0,none⟩) p tc))):=O ((Z HB3).setCell (p:=⟨sb,3,none⟩) (Z H).sbB _)
 have HK4:Hid (bM dB w (w3.setCell ⟨sb,3,none⟩ (.slice (some ⟨g,0,none⟩) p tc))):=O (((bM.of_below (Z HB2)).trans (Z HK3)).trans (Z SK4))
 refine hK.out _ _ ((Z A4).a1) (fun hHeld=>?_)
 clear hK KK hHeld k1 k3 f3
 try simp only [Act.put,sy]
 refine wpAnyH_done (by kernel_rfl) ?_ _
 obtain ⟨w4,hw4⟩:∃ w4,w4=w3.setCell ⟨sb,3,none⟩ (.slice (some ⟨g,0,none⟩) p tc):=⟨_,rfl⟩
 rw [<- hw4] at HL4 SK4 A4 HB4 HK4 ⊢
 clear hw4
 obtain ⟨⟨r0,r1,r2,r3,r4,r5⟩,x0,x1,x2,x3,x4,x5⟩:=(Z A4).rc
 go_wp2
 refine bodyPost_ret (v:=.tuple #[.agg #[.int .i64 0,.int .i64 0,.int .i64 0,.string ⟨#[]⟩,.slice none 0 0,.slice none 0 0],.nilIface]) (by simp [results,Tryz.results105,go_sem,r0,r1,r2,r3,r4,r5]) rfl ?_
 exact cX (bU.clear (Z HO) rfl (by show ¬ (s.stops.length:Int)<=(j:Int);rw [<- Z HNS];omega)) (.inl ⟨rfl,rfl,rfl,rfl⟩) (by have:=Z HL4;rw [show (j:Int).toNat=j from Int.toNat_natCast j];exact this) (Z A4) (cD _ _) (dD.nil _ _) (Z HB4) (Z HK4) hB
end Go.Proofs.YtmnmeaeicjhkhaaGreatDoor
