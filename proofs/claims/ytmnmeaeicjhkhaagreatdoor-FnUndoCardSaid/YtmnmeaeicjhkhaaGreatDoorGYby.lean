import Derived.Test.YtmnmeaeicjhkhaaGreatDoorGYay
import Derived.Test.YtmnmeaeicjhkhaaGreatDoorGEby
import Derived.BigQuiet
import Derived.ArgAppend
import Derived.Lib.SliceRun
set_option maxRecDepth 100000
set_option maxHeartbeats 16000000
namespace Go.Proofs.YtmnmeaeicjhkhaaGreatDoor
open Go.RowKit
theorem placeAt2_any (lo:Nat) (v:Value) (n:Nat) (f:Nat→M) (k:Int) (w0 w:World) (h:PlacesAt lo w0 v n f) (hbw:Below w0.heap.size w0 w) (hn:n≤3000) (hk1:-1≤k) (hk2:k≤n) :
  Calls Tryz.prog 58 #[v,.int .i64 k] w fun e w'=>(∃ top bw,e=.returned (.agg #[.int .i64 (St.after f (upto n k)).cur,.pointer top,.pointer (some ⟨bw,0,none⟩)])∧PlaceAt w0 (St.after f (upto n k)) top bw)∧Below w.heap.size w w':=by
 obtain ⟨xs,ho,hp⟩:=h
 obtain ⟨top,bw,x0,x1,x2,pl⟩:=hp (upto n k) (by unfold upto;omega)
 have ho':=owns_below ho hbw
 rcases ho.2 with ⟨_,h0⟩ | ⟨g,cap,cur,rfl,_⟩
 ·omega
 have c0:=(owns_cell ho' _ _ x0).1
 have c1:=(owns_cell ho' _ _ x1).1
 have c2:=(owns_cell ho' _ _ x2).1
 have PL:=hide pl
 clear ho ho' hp x0 x1 x2 pl
 have BA:=hide (below_new w (.cells #[.int .i64 0,.pointer none,.pointer none] 119))
 have c0:=cell_below (uh BA) c0
 have c1:=cell_below (uh BA) c1
 have c2:=cell_below (uh BA) c2
 by_cases hk:k=n
 ·subst hk
  have e:upto n (n:Int)=n:=by unfold upto;omega
  rw [e] at c0 c1 c2 PL ⊢
  clear e
  generalize (St.after f n).cur=cur' at *
  have hu2:(n:Int) < (n:Int) + 1:=by omega
  have hu3:(0:Int)≤(n:Int):=by omega
  go_enter Tryz.func58,Tryz.ntmps58
  go_wp2
  refine bodyPost_ret (v:=.agg #[.int .i64 cur',.pointer top,.pointer (some ⟨bw,0,none⟩)]) (by simp [results,Tryz.results58,go_sem]) rfl ⟨⟨top,bw,rfl,uh PL⟩,below_new _ _⟩
 ·obtain ⟨u,rfl⟩:∃ u:Nat,k=(u:Int) - 1:=⟨(k + 1).toNat,by omega⟩
  have e:upto n ((u:Int) - 1)=u:=by unfold upto;omega
  rw [e] at c0 c1 c2 PL ⊢
  clear e
  generalize (St.after f u).cur=cur' at *
  have hu2:(u:Int) < (n:Int) + 1:=by omega
  have hu3:(0:Int)≤(u:Int):=by omega
  have hu4:(u:Int)≤(n:Int):=by omega
  clear hk
  go_enter Tryz.func58,Tryz.ntmps58
  go_wp2
  refine bodyPost_ret (v:=.agg #[.int .i64 cur',.pointer top,.pointer (some ⟨bw,0,none⟩)]) (by simp [results,Tryz.results58,go_sem]) rfl ⟨⟨top,bw,rfl,uh PL⟩,below_new _ _⟩
theorem where_any (B sb lo lp:Nat) (mv pv tv uv:Value) (D:Nat→Value) (nf:Nat) (fns:Nat→ByteArray) (n:Nat) (f:Nat→M) (s:LS) (nn:Int) (name:ByteArray) (kd fn line:Int) (sn:ByteArray) (w:World) (h:SS B w sb mv pv n f s tv uv D) (h2:∀ W,Below B w W→MomsAt lo W mv n f) (hp:∀ W,Below B w W→PlacesAt lp W pv n f) (hs:Sound nf fns n f) (hok:LsOk n s) (hpl:s.past.length≤10000) (hB:B≤w.heap.size) (ho:OkAsk (⟨10,nn,name,⟨kd,fn,line,sn⟩⟩:Ak)) :
  Calls Tryz.prog 111 #[.pointer (some ⟨sb,0,none⟩),.agg #[.int .i64 10,.int .i64 nn,.string name,.int .i64 kd,.int .i64 fn,.int .i64 line,.string sn]] w fun e w'=>DSay B sb mv pv n f D s (⟨10,nn,name,⟨kd,fn,line,sn⟩⟩:Ak) w e w':=by
 have H:=hide h
 have H2:=hide h2
 have HP:=hide hp
 have HS:=hide hs
 have HOK:=hide hok
 have HPL:=hide hpl
 have HO:=hide ho
 have A1:=hide (DB.new w (⟨10,nn,name,⟨kd,fn,line,sn⟩⟩:Ak))
 have HB1:Hid (Below w.heap.size w ((w.alloc (.cells #[.int .i64 10,.int .i64 nn,.string name,.int .i64 kd,.int .i64 fn,.int .i64 line,.string sn] 47)).alloc (.cells #[.int .i64 0,.int .i64 0,.int .i64 0,.string ⟨#[]⟩,.slice none 0 0,.slice none 0 0] 38))):=hide ((below_new w (.cells #[.int .i64 10,.int .i64 nn,.string name,.int .i64 kd,.int .i64 fn,.int .i64 line,.string sn] 47)).alloc (by simp) (.cells #[.int .i64 0,.int .i64 0,.int .i64 0,.string ⟨#[]⟩,.slice none 0 0,.slice none 0 0] 38))
 have H1:=hide ((uh H).below (uh HB1))
 clear h h2 hp hs hok hpl
 have hn0:0≤nn:=(okAsk10.1 ho).1.1
 have hn1:nn≤100:=(okAsk10.1 ho).1.2
 clear ho
 obtain ⟨u,rfl⟩:∃ u:Nat,nn=(u:Int):=⟨nn.toNat,by omega⟩
 have hu:u < 101:=by omega
 have hn3:n≤3000:=(uh HS).1.2.2.1
 have hk0:=(uh HOK).lo
 have hk1:=(uh HOK).hi
 obtain ⟨k,hk⟩:∃ k,k=s.at_:=⟨_,rfl⟩
 rw [← hk] at hk0 hk1
 have HK:=hide hk
 clear hk
 go_enter Tryz.func111,Tryz.ntmps111
 go_upto_region 1 with fail
 obtain ⟨w1,hw1⟩:∃ w1,w1=((w.alloc (.cells #[.int .i64 10,.int .i64 (u:Int),.string name,.int .i64 kd,.int .i64 fn,.int .i64 line,.string sn] 47)).alloc (.cells #[.int .i64 0,.int .i64 0,.int .i64 0,.string ⟨#[]⟩,.slice none 0 0,.slice none 0 0] 38)):=⟨_,rfl⟩
 rw [← hw1] at A1 HB1 H1 ⊢
 clear hw1
 have HSS:Hid (∀ W,Below w1.heap.size w1 W→W.cell? ⟨sb,1,none⟩=some pv∧W.cell? ⟨sb,2,none⟩=some (.int .i64 k)):=hide (fun W hb=>⟨cell_below hb (uh H1).box.c1,by rw [uh HK];exact cell_below hb (uh H1).box.c2⟩)
 have hsz1:=(uh A1).size
 refine wp_region_held_drew (S:=fun W=>W.cell? ⟨sb,1,none⟩=some pv∧W.cell? ⟨sb,2,none⟩=some (.int .i64 k)) (by kernel_rfl) (uh HSS _ (Below.refl _ _).drew) (fun hHeld=>?_)
 refine tka 0 7 ?hy0a hHeld ?r0a (v:=?v0a)
 case hy0a=>intro wx hSw;obtain ⟨s0,s1⟩:=hSw;go_simp;with_reducible rfl
 simp only [Act.put,sx1,sx2,sx3]
 refine tka 1 8 ?hy1a hHeld ?r1a (v:=?v1a)
 case hy1a=>intro wx hSw;obtain ⟨s0,s1⟩:=hSw;go_simp;with_reducible rfl
 simp only [Act.put,sx1,sx2,sx3]
 refine tka 2 9 ?hy2a hHeld ?r2a (v:=?v2a)
 case hy2a=>intro wx hSw;obtain ⟨s0,s1⟩:=hSw;go_simp;with_reducible rfl
 simp only [Act.put,sx1,sx2,sx3]
 refine tka 3 10 ?hy3a hHeld ?r3a (v:=?v3a)
 case hy3a=>intro wx hSw;obtain ⟨s0,s1⟩:=hSw;go_simp;with_reducible rfl
 simp only [Act.put,sx1,sx2,sx3]
 refine tka 4 11 ?hy4a hHeld ?r4a (v:=?v4a)
 case hy4a=>intro wx hSw;obtain ⟨s0,s1⟩:=hSw;go_simp;with_reducible rfl
 simp only [Act.put,sx1,sx2,sx3]
 refine tka 5 12 ?hy5a hHeld ?r5a (v:=?v5a)
 case hy5a=>intro wx hSw;obtain ⟨s0,s1⟩:=hSw;go_simp;with_reducible rfl
 simp only [Act.put,sx1,sx2,sx3]
 refine tka 6 13 ?hy6a hHeld ?r6a (v:=?v6a)
 case hy6a=>intro wx hSw;obtain ⟨s0,s1⟩:=hSw;go_simp;with_reducible rfl
 simp only [Act.put,sx1,sx2,sx3]
 refine tka 7 14 ?hy7a hHeld ?r7a (v:=?v7a)
 case hy7a=>intro wx hSw;obtain ⟨s0,s1⟩:=hSw;go_simp;with_reducible rfl
 simp only [Act.put,sx1,sx2,sx3]
 refine wpAnyH_ready (rs:=[8,9]) (by kernel_rfl) (by simp) ?_
 refine AllReadyH.cons rfl (fun KK hK=>?_) (AllReadyH.cons rfl (fun KK hK=>?_) AllReadyH.nil)
 ·have hdr:Below w1.heap.size w1 _:=(Below.refl w1.heap.size w1).drew
  go_simp
  refine (placeAt2_any lp _ n f k w1 _ (uh HP _ ((uh HB1).mono hB)) hdr hn3 hk0 hk1).mono ?_
  rintro e w2 ⟨⟨top,bw,rfl,hpl⟩,hbx⟩
  have hb2:Below w1.heap.size w1 w2:=hdr.trans (hbx.mono hdr.size)
  have HB2:=hide hb2
  have HBX:=hide hbx
  have HPL2:=hide hpl
  obtain ⟨cu,hcu⟩:∃ cu,cu=(St.after f (upto n k)).cur:=⟨_,rfl⟩
  rw [← hcu]
  have HCU:=hide hcu
  refine hK.out _ _ (uh HSS _ hb2) (fun hHeld=>?_)
  clear hK KK hb2 hbx hpl hcu hdr
  try simp only [Act.put,sx1,sx4,sx5,sx6,sx2,sx3]
  have HLN:Hid (((St.after f (upto n k)).tasks u).length≤200):=hide (((uh HPL2).2.2.2 u hu).1)
  refine wpAnyH_ready (rs:=[9]) (by kernel_rfl) (by simp) ?_
  refine AllReadyH.cons rfl (fun KK hK=>?_) AllReadyH.nil
  go_simp
  have hb3a:Below w1.heap.size w1 (w2.alloc (.cells #[.int .i64 0,.pointer none,.pointer none] 119)):=(uh HB2).trans ((below_new w2 _).mono (uh HB2).size)
  refine hK.out _ _ (uh HSS _ hb3a) (fun hHeld=>?_)
  clear hK KK
  try simp only [Act.put,sx1,sx4,sx5,sx6,sx2,sx3]
  refine wpAnyH_ready (rs:=[10]) (by kernel_rfl) (by simp) ?_
  refine AllReadyH.cons rfl (fun KK hK=>?_) AllReadyH.nil
  go_simp
  have HB3:Hid (Below w1.heap.size w1 (w2.alloc (.cells #[.int .i64 (cu:Int),.pointer top,.pointer (some ⟨bw,0,none⟩)] 119))):=hide ((uh HB2).trans ((below_new w2 _).mono (uh HB2).size))
  refine hK.out _ _ (uh HSS _ (uh HB3)) (fun hHeld=>?_)
  clear hK KK hHeld hb3a
  try simp only [Act.put,sx1,sx4,sx5,sx6,sx2,sx3]
  obtain ⟨pb,hpb⟩:∃ pb,pb=w2.heap.size:=⟨_,rfl⟩
  have HX3:=hide (heap_alloc_new w2 (.cells #[.int .i64 (cu:Int),.pointer top,.pointer (some ⟨bw,0,none⟩)] 119))
  have HPL3:=hide ((uh HPL2).below (uh HB3))
  obtain ⟨w3,hw3⟩:∃ w3,w3=w2.alloc (.cells #[.int .i64 (cu:Int),.pointer top,.pointer (some ⟨bw,0,none⟩)] 119):=⟨_,rfl⟩
  rw [← hw3] at HB3 HPL3 HX3
  rw [← hpb] at HX3 ⊢
  rw [← hw3]
  clear hw3 hpb
  have HL3:=hide ((uh H1).below (uh HB3))
  have A3:=hide ((uh A1).go (uh HB3))
  have HW3:=hide ((uh HB1).trans ((uh HB3).mono (uh HB1).size))
  have HSB:Hid (∀ W,Below w3.heap.size w3 W→W.cell? ⟨pb,0,none⟩=some (.int .i64 (cu:Int))∧W.cell? ⟨pb,1,none⟩=some (.pointer top)∧W.cell? ⟨pb,2,none⟩=some (.pointer (some ⟨bw,0,none⟩))∧W.cell? ⟨w.heap.size,1,none⟩=some (.int .i64 (u:Int))):=hide (fun W hb=>⟨cell_below hb (by rw [cell_of_row _ _ 0 _ _ _ (uh HX3)];rfl),cell_below hb (by rw [cell_of_row _ _ 1 _ _ _ (uh HX3)];rfl),cell_below hb (by rw [cell_of_row _ _ 2 _ _ _ (uh HX3)];rfl),cell_below hb (uh A3).a1⟩)
  refine wpAnyH_done (by kernel_rfl) ?_ _
  go_upto_region 2 with fail
  refine wp_region_held_drew (S:=fun W=>W.cell? ⟨pb,0,none⟩=some (.int .i64 (cu:Int))∧W.cell? ⟨pb,1,none⟩=some (.pointer top)∧W.cell? ⟨pb,2,none⟩=some (.pointer (some ⟨bw,0,none⟩))∧W.cell? ⟨w.heap.size,1,none⟩=some (.int .i64 (u:Int))) (by kernel_rfl) (uh HSB _ (Below.refl _ _).drew) (fun hHeld=>?_)
  refine tka 0 16 ?hy0b hHeld ?r0b (v:=?v0b)
  case hy0b=>intro wx hSw;obtain ⟨s0,s1,s2,s3⟩:=hSw;go_simp;with_reducible rfl
  simp only [Act.put,sx1,sx2,sx3]
  refine tka 1 17 ?hy1b hHeld ?r1b (v:=?v1b)
  case hy1b=>intro wx hSw;obtain ⟨s0,s1,s2,s3⟩:=hSw;go_simp;with_reducible rfl
  simp only [Act.put,sx1,sx2,sx3]
  refine tka 2 18 ?hy2b hHeld ?r2b (v:=?v2b)
  case hy2b=>intro wx hSw;obtain ⟨s0,s1,s2,s3⟩:=hSw;go_simp;with_reducible rfl
  simp only [Act.put,sx1,sx2,sx3]
  refine tka 3 19 ?hy3b hHeld ?r3b (v:=?v3b)
  case hy3b=>intro wx hSw;obtain ⟨s0,s1,s2,s3⟩:=hSw;go_simp;with_reducible rfl
  simp only [Act.put,sx1,sx2,sx3]
  refine tka 4 20 ?hy4b hHeld ?r4b (v:=?v4b)
  case hy4b=>intro wx hSw;obtain ⟨s0,s1,s2,s3⟩:=hSw;go_simp;with_reducible rfl
  simp only [Act.put,sx1,sx2,sx3]
  refine wpAnyH_ready (rs:=[5]) (by kernel_rfl) (by simp) ?_
  refine AllReadyH.cons rfl (fun KK hK=>?_) AllReadyH.nil
  have hdr:=(Below.refl w3.heap.size w3).drew
  go_simp
  have hop:=openIn_any (St.after f (upto n k)) u top bw _ ((uh HPL3).below hdr) hu
  rw [← uh HCU] at hop
  refine hop.mono ?_
  rintro e w4 ⟨⟨p,rfl,hli⟩,hbx⟩
  have hb4:Below w3.heap.size w3 w4:=hdr.trans hbx
  have HB4:=hide hb4
  have HLI:=hide hli
  refine hK.out _ _ (uh HSB _ hb4) (fun hHeld=>?_)
  clear hK KK hb4 hbx hli hdr hop
  try simp only [Act.put,sx1,sx4,sx5,sx6,sx2,sx3]
  refine wpAnyH_ready (rs:=[6]) (by kernel_rfl) (by simp) ?_
  refine AllReadyH.cons rfl (fun KK hK=>?_) AllReadyH.nil
  go_simp
  refine (frames_any _ p _ (uh HLI) (uh HLN)).mono ?_
  rintro e w5 ⟨⟨v,rfl,hfr⟩,hbx⟩
  have hb5:Below w3.heap.size w3 w5:=(uh HB4).trans (hbx.mono (uh HB4).size)
  have HFR:Hid (FrsAt w.heap.size w5 v ((St.after f (upto n k)).tasks u)):=hide (owns_low hfr (Nat.le_trans (uh HW3).size (uh HB4).size))
  obtain ⟨va,vc,rfl⟩:=owns_slice hfr
  obtain ⟨ln,hln⟩:∃ ln,ln=((St.after f (upto n k)).tasks u).length:=⟨_,rfl⟩
  rw [← hln] at HFR ⊢
  have HL5:=hide ((uh HL3).below hb5)
  have A5:=hide ((uh A3).go hb5)
  have HB5:=hide ((uh HW3).trans (hb5.mono (uh HW3).size))
  obtain ⟨⟨r0,r1,r2,r3,r4,r5⟩,x0,x1,x2,x3,x4,x5⟩:=(uh A5).rc
  refine hK.out _ _ (uh HSB _ hb5) (fun hHeld=>?_)
  clear hK KK hbx hfr hln
  try simp only [Act.put,sx1,sx4,sx5,sx6,sx2,sx3]
  refine tka 7 23 ?hy7bx hHeld ?r7bx (v:=?v7bx)
  case hy7bx=>intro wx hSw;obtain ⟨s0,s1,s2,s3⟩:=hSw;go_simp;with_reducible rfl
  simp only [Act.put,sx1,sx2,sx3]
  refine wpAnyH_ready (rs:=[8]) (by kernel_rfl) (by simp) ?_
  refine AllReadyH.cons rfl (fun KK hK=>?_) AllReadyH.nil
  go_simp
  have hst:Same (fun q=>q ≠ 38) w5 (putTold w5 (w.heap.size + 1) 0 (cu:Int) ⟨#[]⟩ (.slice va ln vc) (.slice none 0 0)):=putTold_same (uh A5).rb (fun q=>q rfl)
  have hpx:=hst _ _ _ _ ((hb5.block pb (heap_ltx (uh HX3))).trans (uh HX3)) (by decide)
  have hax:=hst _ _ _ _ (uh A5).ak (by decide)
  refine hK.out _ _ ⟨(show (putTold w5 (w.heap.size + 1) 0 (cu:Int) ⟨#[]⟩ (.slice va ln vc) (.slice none 0 0)).cell? ⟨pb,0,none⟩=_ from by rw [cell_of_row _ _ 0 _ _ _ hpx];rfl),(show (putTold w5 (w.heap.size + 1) 0 (cu:Int) ⟨#[]⟩ (.slice va ln vc) (.slice none 0 0)).cell? ⟨pb,1,none⟩=_ from by rw [cell_of_row _ _ 1 _ _ _ hpx];rfl),(show (putTold w5 (w.heap.size + 1) 0 (cu:Int) ⟨#[]⟩ (.slice va ln vc) (.slice none 0 0)).cell? ⟨pb,2,none⟩=_ from by rw [cell_of_row _ _ 2 _ _ _ hpx];rfl),(show (putTold w5 (w.heap.size + 1) 0 (cu:Int) ⟨#[]⟩ (.slice va ln vc) (.slice none 0 0)).cell? ⟨w.heap.size,1,none⟩=_ from by rw [cell_of_row _ _ 1 _ _ _ hax];rfl)⟩ (fun hHeld=>?_)
  clear hK KK hst hpx hax hb5
  try simp only [Act.put,sx1,sx4,sx5,sx6,sx2,sx3]
  refine tka 9 5 ?hy9by hHeld ?r9by (v:=?v9by)
  case hy9by=>intro wx hSw;obtain ⟨s0,s1,s2,s3⟩:=hSw;go_simp;with_reducible rfl
  simp only [Act.put,sx1,sx2,sx3]
  refine wpAnyH_done (by kernel_rfl) ?_ _
  clear hHeld
  go_wp2
  refine bodyPost_ret (v:=.tuple #[.agg #[.int .i64 0,.int .i64 0,.int .i64 (cu:Int),.string ⟨#[]⟩,.slice va ln vc,.slice none 0 0],.nilIface]) (by simp [results,Tryz.results111,go_sem,r0,r1,r2,r3,r4,r5]) rfl ?_
  exact dsay_end (AskIs.where_ (uh HO) rfl) (.inl ⟨rfl,rfl,by rw [uh HCU,uh HK],rfl⟩) (uh HL5) (uh A5) (by show FrsAt _ _ _ ((St.after f (upto n s.at_)).tasks (u:Int).toNat);rw [Int.toNat_natCast,← uh HK];exact uh HFR) (VsAt.nil _ _) ((uh HB5).mono hB) (Same.of_below (uh HB5)) hB
 ·go_simp
  have hba:Below w1.heap.size w1 (w1.alloc (.cells #[.int .i64 0,.pointer none,.pointer none] 119)).drew:=(below_new w1 (.cells #[.int .i64 0,.pointer none,.pointer none] 119)).drew
  have HNA:Hid ((w1.alloc (.cells #[.int .i64 0,.pointer none,.pointer none] 119)).drew.heap[w1.heap.size]?=some (.cells #[.int .i64 0,.pointer none,.pointer none] 119 (0,0))):=hide (heap_alloc_new w1 (.cells #[.int .i64 0,.pointer none,.pointer none] 119))
  refine hK.out _ _ (uh HSS _ hba) (fun hHeld=>?_)
  clear hK KK
  try simp only [Act.put,sx1,sx4,sx5,sx6,sx2,sx3]
  refine wpAnyH_ready (rs:=[8]) (by kernel_rfl) (by simp) ?_
  refine AllReadyH.cons rfl (fun KK hK=>?_) AllReadyH.nil
  have hdr:Below w1.heap.size w1 _:=hba
  go_simp
  refine (placeAt2_any lp _ n f k w1 _ (uh HP _ ((uh HB1).mono hB)) hdr hn3 hk0 hk1).mono ?_
  rintro e w2 ⟨⟨top,bw,rfl,hpl⟩,hbx⟩
  have hb2:Below w1.heap.size w1 w2:=hdr.trans (hbx.mono hdr.size)
  have HB2:=hide hb2
  have HBX:=hide hbx
  have HPL2:=hide hpl
  obtain ⟨cu,hcu⟩:∃ cu,cu=(St.after f (upto n k)).cur:=⟨_,rfl⟩
  rw [← hcu]
  have HCU:=hide hcu
  refine hK.out _ _ (uh HSS _ hb2) (fun hHeld=>?_)
  clear hK KK hb2 hbx hpl hcu hdr
  try simp only [Act.put,sx1,sx4,sx5,sx6,sx2,sx3]
  have HLN:Hid (((St.after f (upto n k)).tasks u).length≤200):=hide (((uh HPL2).2.2.2 u hu).1)
  have hxb:w2.heap[w1.heap.size]?=some (.cells #[.int .i64 0,.pointer none,.pointer none] 119 (0,0)):=((uh HBX).block _ (heap_ltx (uh HNA))).trans (uh HNA)
  have z0:w2.cell? ⟨w1.heap.size,0,none⟩=some (.int .i64 0):=by rw [cell_of_row _ _ 0 _ _ _ hxb];rfl
  have z1:w2.cell? ⟨w1.heap.size,1,none⟩=some (.pointer none):=by rw [cell_of_row _ _ 1 _ _ _ hxb];rfl
  have z2:w2.cell? ⟨w1.heap.size,2,none⟩=some (.pointer none):=by rw [cell_of_row _ _ 2 _ _ _ hxb];rfl
  have y0:w2.frozen? ⟨w1.heap.size,0,none⟩=false:=frozen_of_row _ _ _ _ _ hxb
  have y1:w2.frozen? ⟨w1.heap.size,1,none⟩=false:=frozen_of_row _ _ _ _ _ hxb
  have y2:w2.frozen? ⟨w1.heap.size,2,none⟩=false:=frozen_of_row _ _ _ _ _ hxb
  refine wpAnyH_ready (rs:=[10]) (by kernel_rfl) (by simp) ?_
  refine AllReadyH.cons rfl (fun KK hK=>?_) AllReadyH.nil
  go_simp
  have HB3:Hid (Below w1.heap.size w1 (((w2.setCell ⟨w1.heap.size,0,none⟩ (.int .i64 (cu:Int))).setCell ⟨w1.heap.size,1,none⟩ (.pointer top)).setCell ⟨w1.heap.size,2,none⟩ (.pointer (some ⟨bw,0,none⟩)))):=hide ((((uh HB2).setCell (p:=⟨w1.heap.size,0,none⟩) (Nat.le_refl _) _).setCell (p:=⟨w1.heap.size,1,none⟩) (Nat.le_refl _) _).setCell (p:=⟨w1.heap.size,2,none⟩) (Nat.le_refl _) _)
  have HX3:Hid ((((w2.setCell ⟨w1.heap.size,0,none⟩ (.int .i64 (cu:Int))).setCell ⟨w1.heap.size,1,none⟩ (.pointer top)).setCell ⟨w1.heap.size,2,none⟩ (.pointer (some ⟨bw,0,none⟩))).heap[w1.heap.size]?=some (.cells #[.int .i64 (cu:Int),.pointer top,.pointer (some ⟨bw,0,none⟩)] 119 (0,0))):=hide (by simp [World.setCell,Array.getElem?_modify,hxb])
  refine hK.out _ _ (uh HSS _ (uh HB3)) (fun hHeld=>?_)
  clear hK KK hHeld z0 z1 z2 y0 y1 y2
  try simp only [Act.put,sx1,sx4,sx5,sx6,sx2,sx3]
  have HPL3:=hide ((uh HPL2).below (uh HB3))
  obtain ⟨pb,hpb⟩:∃ pb,pb=w1.heap.size:=⟨_,rfl⟩
  obtain ⟨w3,hw3⟩:∃ w3,w3=((w2.setCell ⟨w1.heap.size,0,none⟩ (.int .i64 (cu:Int))).setCell ⟨w1.heap.size,1,none⟩ (.pointer top)).setCell ⟨w1.heap.size,2,none⟩ (.pointer (some ⟨bw,0,none⟩)):=⟨_,rfl⟩
  rw [← hw3] at HB3 HPL3 HX3 ⊢
  rw [← hpb] at HX3 ⊢
  clear hw3 hpb hxb hba
  have HL3:=hide ((uh H1).below (uh HB3))
  have A3:=hide ((uh A1).go (uh HB3))
  have HW3:=hide ((uh HB1).trans ((uh HB3).mono (uh HB1).size))
  have HSB:Hid (∀ W,Below w3.heap.size w3 W→W.cell? ⟨pb,0,none⟩=some (.int .i64 (cu:Int))∧W.cell? ⟨pb,1,none⟩=some (.pointer top)∧W.cell? ⟨pb,2,none⟩=some (.pointer (some ⟨bw,0,none⟩))∧W.cell? ⟨w.heap.size,1,none⟩=some (.int .i64 (u:Int))):=hide (fun W hb=>⟨cell_below hb (by rw [cell_of_row _ _ 0 _ _ _ (uh HX3)];rfl),cell_below hb (by rw [cell_of_row _ _ 1 _ _ _ (uh HX3)];rfl),cell_below hb (by rw [cell_of_row _ _ 2 _ _ _ (uh HX3)];rfl),cell_below hb (uh A3).a1⟩)
  refine wpAnyH_done (by kernel_rfl) ?_ _
  go_upto_region 2 with fail
  refine wp_region_held_drew (S:=fun W=>W.cell? ⟨pb,0,none⟩=some (.int .i64 (cu:Int))∧W.cell? ⟨pb,1,none⟩=some (.pointer top)∧W.cell? ⟨pb,2,none⟩=some (.pointer (some ⟨bw,0,none⟩))∧W.cell? ⟨w.heap.size,1,none⟩=some (.int .i64 (u:Int))) (by kernel_rfl) (uh HSB _ (Below.refl _ _).drew) (fun hHeld=>?_)
  refine tka 0 16 ?hy0c hHeld ?r0c (v:=?v0c)
  case hy0c=>intro wx hSw;obtain ⟨s0,s1,s2,s3⟩:=hSw;go_simp;with_reducible rfl
  simp only [Act.put,sx1,sx2,sx3]
  refine tka 1 17 ?hy1c hHeld ?r1c (v:=?v1c)
  case hy1c=>intro wx hSw;obtain ⟨s0,s1,s2,s3⟩:=hSw;go_simp;with_reducible rfl
  simp only [Act.put,sx1,sx2,sx3]
  refine tka 2 18 ?hy2c hHeld ?r2c (v:=?v2c)
  case hy2c=>intro wx hSw;obtain ⟨s0,s1,s2,s3⟩:=hSw;go_simp;with_reducible rfl
  simp only [Act.put,sx1,sx2,sx3]
  refine tka 3 19 ?hy3c hHeld ?r3c (v:=?v3c)
  case hy3c=>intro wx hSw;obtain ⟨s0,s1,s2,s3⟩:=hSw;go_simp;with_reducible rfl
  simp only [Act.put,sx1,sx2,sx3]
  refine tka 4 20 ?hy4c hHeld ?r4c (v:=?v4c)
  case hy4c=>intro wx hSw;obtain ⟨s0,s1,s2,s3⟩:=hSw;go_simp;with_reducible rfl
  simp only [Act.put,sx1,sx2,sx3]
  refine wpAnyH_ready (rs:=[5]) (by kernel_rfl) (by simp) ?_
  refine AllReadyH.cons rfl (fun KK hK=>?_) AllReadyH.nil
  have hdr:=(Below.refl w3.heap.size w3).drew
  go_simp
  have hop:=openIn_any (St.after f (upto n k)) u top bw _ ((uh HPL3).below hdr) hu
  rw [← uh HCU] at hop
  refine hop.mono ?_
  rintro e w4 ⟨⟨p,rfl,hli⟩,hbx⟩
  have hb4:Below w3.heap.size w3 w4:=hdr.trans hbx
  have HB4:=hide hb4
  have HLI:=hide hli
  refine hK.out _ _ (uh HSB _ hb4) (fun hHeld=>?_)
  clear hK KK hb4 hbx hli hdr hop
  try simp only [Act.put,sx1,sx4,sx5,sx6,sx2,sx3]
  refine wpAnyH_ready (rs:=[6]) (by kernel_rfl) (by simp) ?_
  refine AllReadyH.cons rfl (fun KK hK=>?_) AllReadyH.nil
  go_simp
  refine (frames_any _ p _ (uh HLI) (uh HLN)).mono ?_
  rintro e w5 ⟨⟨v,rfl,hfr⟩,hbx⟩
  have hb5:Below w3.heap.size w3 w5:=(uh HB4).trans (hbx.mono (uh HB4).size)
  have HFR:Hid (FrsAt w.heap.size w5 v ((St.after f (upto n k)).tasks u)):=hide (owns_low hfr (Nat.le_trans (uh HW3).size (uh HB4).size))
  obtain ⟨va,vc,rfl⟩:=owns_slice hfr
  obtain ⟨ln,hln⟩:∃ ln,ln=((St.after f (upto n k)).tasks u).length:=⟨_,rfl⟩
  rw [← hln] at HFR ⊢
  have HL5:=hide ((uh HL3).below hb5)
  have A5:=hide ((uh A3).go hb5)
  have HB5:=hide ((uh HW3).trans (hb5.mono (uh HW3).size))
  obtain ⟨⟨r0,r1,r2,r3,r4,r5⟩,x0,x1,x2,x3,x4,x5⟩:=(uh A5).rc
  refine hK.out _ _ (uh HSB _ hb5) (fun hHeld=>?_)
  clear hK KK hbx hfr hln
  try simp only [Act.put,sx1,sx4,sx5,sx6,sx2,sx3]
  refine tka 7 23 ?hy7cx hHeld ?r7cx (v:=?v7cx)
  case hy7cx=>intro wx hSw;obtain ⟨s0,s1,s2,s3⟩:=hSw;go_simp;with_reducible rfl
  simp only [Act.put,sx1,sx2,sx3]
  refine wpAnyH_ready (rs:=[8]) (by kernel_rfl) (by simp) ?_
  refine AllReadyH.cons rfl (fun KK hK=>?_) AllReadyH.nil
  go_simp
  have hst:Same (fun q=>q ≠ 38) w5 (putTold w5 (w.heap.size + 1) 0 (cu:Int) ⟨#[]⟩ (.slice va ln vc) (.slice none 0 0)):=putTold_same (uh A5).rb (fun q=>q rfl)
  have hpx:=hst _ _ _ _ ((hb5.block pb (heap_ltx (uh HX3))).trans (uh HX3)) (by decide)
  have hax:=hst _ _ _ _ (uh A5).ak (by decide)
  refine hK.out _ _ ⟨(show (putTold w5 (w.heap.size + 1) 0 (cu:Int) ⟨#[]⟩ (.slice va ln vc) (.slice none 0 0)).cell? ⟨pb,0,none⟩=_ from by rw [cell_of_row _ _ 0 _ _ _ hpx];rfl),(show (putTold w5 (w.heap.size + 1) 0 (cu:Int) ⟨#[]⟩ (.slice va ln vc) (.slice none 0 0)).cell? ⟨pb,1,none⟩=_ from by rw [cell_of_row _ _ 1 _ _ _ hpx];rfl),(show (putTold w5 (w.heap.size + 1) 0 (cu:Int) ⟨#[]⟩ (.slice va ln vc) (.slice none 0 0)).cell? ⟨pb,2,none⟩=_ from by rw [cell_of_row _ _ 2 _ _ _ hpx];rfl),(show (putTold w5 (w.heap.size + 1) 0 (cu:Int) ⟨#[]⟩ (.slice va ln vc) (.slice none 0 0)).cell? ⟨w.heap.size,1,none⟩=_ from by rw [cell_of_row _ _ 1 _ _ _ hax];rfl)⟩ (fun hHeld=>?_)
  clear hK KK hst hpx hax hb5
  try simp only [Act.put,sx1,sx4,sx5,sx6,sx2,sx3]
  refine tka 9 5 ?hy9cy hHeld ?r9cy (v:=?v9cy)
  case hy9cy=>intro wx hSw;obtain ⟨s0,s1,s2,s3⟩:=hSw;go_simp;with_reducible rfl
  simp only [Act.put,sx1,sx2,sx3]
  refine wpAnyH_done (by kernel_rfl) ?_ _
  clear hHeld
  go_wp2
  refine bodyPost_ret (v:=.tuple #[.agg #[.int .i64 0,.int .i64 0,.int .i64 (cu:Int),.string ⟨#[]⟩,.slice va ln vc,.slice none 0 0],.nilIface]) (by simp [results,Tryz.results111,go_sem,r0,r1,r2,r3,r4,r5]) rfl ?_
  exact dsay_end (AskIs.where_ (uh HO) rfl) (.inl ⟨rfl,rfl,by rw [uh HCU,uh HK],rfl⟩) (uh HL5) (uh A5) (by show FrsAt _ _ _ ((St.after f (upto n s.at_)).tasks (u:Int).toNat);rw [Int.toNat_natCast,← uh HK];exact uh HFR) (VsAt.nil _ _) ((uh HB5).mono hB) (Same.of_below (uh HB5)) hB
end Go.Proofs.YtmnmeaeicjhkhaaGreatDoor
namespace Go.Proofs.YtmnmeaeicjhkhaaGreatDoor
open Go.RowKit
theorem shown_any (sb lo:Nat) (mv pv tv uv:Value) (D:Nat→Value) (n:Nat) (f:Nat→M) (k:Int) (w:World) (h:SBox w sb mv pv k tv uv D) (h2:MomsAt lo w mv n f) (h0:-1≤k) (h1:k≤n) :
  Calls Tryz.prog 155 #[.pointer (some ⟨sb,0,none⟩)] w fun e w'=>(∃ v,e=.returned v∧VarsAt lo w' v (nvAt n f k) (varAt f k))∧Below w.heap.size w w':=by
 obtain ⟨a2,cap2,rfl,hn2,hmo⟩:=h2
 unfold maxLen at hn2
 have HMO:=hide hmo
 have c0:=h.c0
 have c2:=h.c2
 clear h hmo
 by_cases hneg:k < 0
 ·have hk1:k=-1:=by omega
  subst hk1
  have ev:nvAt n f (-1)=0:=by unfold nvAt;rw [if_neg (by omega)]
  have EV:=hide ev
  clear ev
  go_enter Tryz.func155,Tryz.ntmps155
  go_upto_region 1 with fail
  go_quiet (fail)
  go_wp2
  go_ret
  exact ⟨⟨_,rfl,by rw [uh EV];exact ⟨none,0,rfl,Nat.zero_le _,fun i hi=>absurd hi (Nat.not_lt_zero _)⟩⟩,below_drewN (Below.refl _ _) _⟩
 by_cases hbig:(n:Int)≤k
 ·have g0:¬ k < 0:=hneg
  have g0':decide (k < 0)=false:=by simpa using hneg
  have g1:decide ((n:Int)≤k)=true:=by simpa using hbig
  have ev:nvAt n f k=0:=by unfold nvAt;rw [if_neg (by omega)]
  have EV:=hide ev
  clear ev
  go_enter Tryz.func155,Tryz.ntmps155
  go_upto_region 1 with fail
  go_quiet (fail)
  go_wp2
  go_ret
  exact ⟨⟨_,rfl,by rw [uh EV];exact ⟨none,0,rfl,Nat.zero_le _,fun i hi=>absurd hi (Nat.not_lt_zero _)⟩⟩,below_drewN (Below.refl _ _) _⟩
 obtain ⟨j,hj⟩:∃ j:Nat,k=(j:Int):=⟨k.toNat,by omega⟩
 subst hj
 have hjn:j < n:=by omega
 have g0:¬ (j:Int) < 0:=by omega
 have g0':decide ((j:Int) < 0)=false:=by simp
 have g1:¬ (n:Int)≤(j:Int):=by omega
 have g1':decide ((n:Int)≤(j:Int))=false:=by simpa using g1
 have g2:(0:Int)≤(j:Int):=by omega
 have g3:(j:Int) < (n:Int):=by omega
 obtain ⟨b,o,vv,rfl,-,-,-,-,-,c5,-,hva,-⟩:=uh HMO j hjn
 have ev:nvAt n f (j:Int)=(f j).nv:=by unfold nvAt;rw [if_pos ⟨g2,g3⟩,Int.toNat_natCast]
 have ew:varAt f (j:Int)=(f j).vars:=by unfold varAt;rw [Int.toNat_natCast]
 have HVA:Hid (VarsAt lo w vv (nvAt n f (j:Int)) (varAt f (j:Int))):=hide (by rw [ev,ew];exact hva)
 obtain ⟨va,vc,rfl,-,-⟩:=hva
 rw [ev] at HVA
 have EV:=hide ev
 obtain ⟨nv,hnv⟩:∃ nv,nv=(f j).nv:=⟨_,rfl⟩
 rw [← hnv] at c5 HVA
 have HNV:=hide hnv
 clear ev ew hneg hbig hnv
 go_enter Tryz.func155,Tryz.ntmps155
 go_upto_region 1 with fail
 go_quiet (fail)
 go_upto_region 3 with fail
 go_quiet (fail)
 go_wp2
 go_ret
 exact ⟨⟨_,rfl,by rw [uh EV,← uh HNV];exact (uh HVA).below (below_drewN (Below.refl _ _) _)⟩,below_drewN (Below.refl _ _) _⟩
theorem run_append_empty {P:Program} (w:World) (t ty e:TypeId) (i:TypeInfo) (ht:P.underlying t=some (.slice e)) (hi:P.info? e=some i) (va:Option Addr) (vc:Nat) :
  (Builtin.append_ #[t,t] ty #[.slice none 0 0,.slice va 0 vc]).run P w=.ok (.slice none 0 0) w:=by
 cases va<;>simp [Builtin.append_,run_underlying ht,sizeOf,typeInfo,hi,Builtin.lenOf,Builtin.firstCells,loadCells,loadCellsFrom]
theorem wpList_append_empty {P:Program} {w:World} {ops:Array Oper} {rest:List Oper} {o:Oper} {a:Act} {Q:Exit→Act→World→Prop} (hgd:o.guard=none) (s x:Operand) (t:TypeId)
  (ho:o.op=.call { callee:=.builtin .append,args:=#[s,x],argTypes:=#[t,t] })
  (e:TypeId) (i:TypeInfo) (ht:P.underlying t=some (.slice e)) (hi:P.info? e=some i) (va:Option Addr) (vc:Nat) (hs:a.eval s=.slice none 0 0) (hx:a.eval x=.slice va 0 vc)
  (h:wpList P ops Q rest (a.put o.dst (.slice none 0 0)) w):wpList P ops Q (o :: rest) a w:=by
 refine wpList_plain hgd fun K hK=>?_
 have hrun:=run_append_empty (P:=P) w t o.type e i ht hi va vc
 unfold Oper.wp
 simp [execOp,ho,resolve,invoke,builtin,hs,hx,hrun,Result.andThen]
 exact hK _ _ h
theorem vars_news {lo:Nat} {w:World} {b o n cap:Nat} {g:Nat→V} (h:VarsAt lo w (.slice (some ⟨b,o,none⟩) n cap) n g):∀ (j:Nat) (u:Value),(vCells ((List.range n).map g))[j]?=some u→w.cell? ((⟨b,o,none⟩:Addr).add j)=some u:=by
 intro j u hu
 obtain ⟨_,_,e,_,hv⟩:=h
 cases e
 have hj:j < n * 2:=by
  rcases Nat.lt_or_ge j (n * 2) with q | q
  ·exact q
  ·rw [List.getElem?_eq_none (by rw [vCells_len,List.length_map,List.length_range];exact q)] at hu;cases hu
 have hi:j / 2 < n:=by omega
 obtain ⟨b',o',e',c0,c1,-⟩:=hv (j / 2) hi
 cases e'
 have hl:j / 2 < ((List.range n).map g).length:=by rw [List.length_map,List.length_range];exact hi
 obtain ⟨e0,e1⟩:=vCells_get ((List.range n).map g) (j / 2) hl
 have eg:((List.range n).map g)[j / 2]=g (j / 2):=by simp
 rw [eg] at e0 e1
 rw [Addr.add_lit]
 rcases Nat.mod_two_eq_zero_or_one j with q | q
 ·rw [show j=j / 2 * 2 by omega] at hu ⊢
  rw [e0] at hu
  cases hu
  exact c0
 ·rw [show j=j / 2 * 2 + 1 by omega] at hu ⊢
  rw [e1] at hu
  cases hu
  exact c1
theorem tellVars_any (B sb lo lp:Nat) (mv pv tv uv:Value) (D:Nat→Value) (nf:Nat) (fns:Nat→ByteArray) (n:Nat) (f:Nat→M) (s:LS) (nn:Int) (name:ByteArray) (kd fn line:Int) (sn:ByteArray) (w:World) (h:SS B w sb mv pv n f s tv uv D) (h2:∀ W,Below B w W→MomsAt lo W mv n f) (hp:∀ W,Below B w W→PlacesAt lp W pv n f) (hs:Sound nf fns n f) (hok:LsOk n s) (hpl:s.past.length≤10000) (hB:B≤w.heap.size) (ho:OkAsk (⟨11,nn,name,⟨kd,fn,line,sn⟩⟩:Ak)) :
  Calls Tryz.prog 112 #[.pointer (some ⟨sb,0,none⟩),.agg #[.int .i64 11,.int .i64 nn,.string name,.int .i64 kd,.int .i64 fn,.int .i64 line,.string sn]] w fun e w'=>DSay B sb mv pv n f D s (⟨11,nn,name,⟨kd,fn,line,sn⟩⟩:Ak) w e w':=by
 have H:=hide h
 have H2:=hide h2
 have HP:=hide hp
 have HS:=hide hs
 have HOK:=hide hok
 have HPL:=hide hpl
 have HO:=hide ho
 have A1:=hide (DB.new w (⟨11,nn,name,⟨kd,fn,line,sn⟩⟩:Ak))
 have HB1:Hid (Below w.heap.size w ((w.alloc (.cells #[.int .i64 11,.int .i64 nn,.string name,.int .i64 kd,.int .i64 fn,.int .i64 line,.string sn] 47)).alloc (.cells #[.int .i64 0,.int .i64 0,.int .i64 0,.string ⟨#[]⟩,.slice none 0 0,.slice none 0 0] 38))):=hide ((below_new w (.cells #[.int .i64 11,.int .i64 nn,.string name,.int .i64 kd,.int .i64 fn,.int .i64 line,.string sn] 47)).alloc (by simp) (.cells #[.int .i64 0,.int .i64 0,.int .i64 0,.string ⟨#[]⟩,.slice none 0 0,.slice none 0 0] 38))
 have H1:=hide ((uh H).below (uh HB1))
 clear h h2 hp hs hok hpl
 clear ho
 have hk0:=(uh HOK).lo
 have hk1:=(uh HOK).hi
 obtain ⟨i1,hi0,hz0,hz1,hz2⟩:=info_parts info_Var
 have IV:=hide (And.intro hi0 (And.intro hz0 (And.intro hz1 hz2)));clear hi0 hz0 hz1 hz2
 go_enter Tryz.func112,Tryz.ntmps112
 go_upto_region 1 with fail
 obtain ⟨w1,hw1⟩:∃ w1,w1=((w.alloc (.cells #[.int .i64 11,.int .i64 nn,.string name,.int .i64 kd,.int .i64 fn,.int .i64 line,.string sn] 47)).alloc (.cells #[.int .i64 0,.int .i64 0,.int .i64 0,.string ⟨#[]⟩,.slice none 0 0,.slice none 0 0] 38)):=⟨_,rfl⟩
 rw [← hw1] at A1 HB1 H1 ⊢
 clear hw1
 go_wp2_with fail
 refine (shown_any sb lo mv pv tv uv D n f s.at_ w1 (uh H1).box (uh H2 _ ((uh HB1).mono hB)) hk0 hk1).mono ?_
 rintro e w2 ⟨⟨v,rfl,hvs⟩,hb2⟩
 have A2:=hide ((uh A1).go hb2)
 have HL2:=hide ((uh H1).below hb2)
 have HB2:=hide ((uh HB1).trans (hb2.mono (uh HB1).size))
 have HVS:=hide hvs
 have hnv:nvAt n f s.at_≤1000:=by
  unfold nvAt
  split
  ·rename_i q
   have:=((uh HS).2.1 s.at_.toNat (by omega)).2.1
   omega
  ·omega
 obtain ⟨nv,hnve⟩:∃ nv,nv=nvAt n f s.at_:=⟨_,rfl⟩
 rw [← hnve] at HVS hnv hvs
 have HNV:=hide hnve
 obtain ⟨va,vc,rfl,-,hvv⟩:=hvs
 have hsz:∀ x,x ∈ varsOf n f s.at_→x.name.size≤maxLen∧x.text.size≤maxLen:=by
  intro x hx
  unfold varsOf at hx
  rw [← hnve] at hx
  obtain ⟨i,hi,rfl⟩:=List.mem_map.1 hx
  obtain ⟨_,_,_,_,_,z0,z1,_⟩:=hvv i (List.mem_range.1 hi)
  exact ⟨z0,z1⟩
 have HSZ:=hide hsz
 have hws2:w.heap.size≤w2.heap.size:=(uh HB2).size
 by_cases h0:nv=0
 ·have ev:varsOf n f s.at_=[]:=by unfold varsOf;rw [← hnve,h0];rfl
  have EV:=hide ev
  clear hb2 hvv hsz hnve ev
  subst h0
  obtain ⟨⟨r0,r1,r2,r3,r4,r5⟩,x0,x1,x2,x3,x4,x5⟩:=(uh A2).rc
  go_wp2_with (at_builtin;refine wpList_append_empty (by rfl) _ _ _ (by rfl) 40 i1 Tryz.underlying36 (uh IV).1 va vc (by rfl) (by rfl) ?_)
  refine bodyPost_ret (v:=.tuple #[.agg #[.int .i64 0,.int .i64 0,.int .i64 0,.string ⟨#[]⟩,.slice none 0 0,.slice none 0 0],.nilIface]) (by simp [results,Tryz.results112,go_sem,r0,r1,r2,r3,r4,r5]) rfl ?_
  exact dsay_end (AskIs.vars (uh HO) rfl) (.inl ⟨rfl,rfl,rfl,rfl⟩) (uh HL2) (uh A2) (frs_nil _ _) (by show VsAt _ _ _ (varsOf n f s.at_);rw [uh EV];exact VsAt.nil _ _) ((uh HB2).mono hB) (Same.of_below (uh HB2)) hB
 obtain ⟨vb,vo,rfl,-⟩:=hvv 0 (by omega)
 clear hb2 hvv hsz hnve
 have HNW:=hide (vars_news (uh HVS))
 have hll:(vCells ((List.range nv).map (varAt f s.at_))).length=nv * 2:=by rw [vCells_len,List.length_map,List.length_range]
 have HLL:=hide hll
 have hone:∀ u,u ∈ vCells ((List.range nv).map (varAt f s.at_))→u.oneCell'=true:=by
  intro u hu
  unfold vCells at hu
  obtain ⟨x,_,hx⟩:=List.mem_flatMap.1 hu
  simp only [List.mem_cons,List.not_mem_nil,or_false] at hx
  rcases hx with rfl | rfl<;>rfl
 have HONE:=hide hone
 clear hll hone
 go_wp2_with (at_builtin;refine wpList_append_lies _ (by rfl) _ _ _ (by rfl) w2.heap.size 40 i1 _ 2 32 Tryz.underlying36 (uh IV).1 (uh IV).2.1 (uh IV).2.2.1 (uh IV).2.2.2 rfl (by omega) (.slice none 0 0) 0 [] (by rfl) (World.ownsRow_nil _ _ _ _) ⟨vb,vo,none⟩ nv vc (vCells ((List.range nv).map (varAt f s.at_))) (by rfl) (uh HLL) (uh HNW) (uh HONE) (by omega) (by unfold maxLen;omega) (by omega) (Nat.le_refl _) w2.heap.size rfl ?_;intro g2 cp2 w7 hown hgrow _ _;have HO7:=hide hown;have hb7:Below w2.heap.size w2 w7:=(Below.refl w2.heap.size w2).grown hgrow (Nat.le_refl _) (fun b e=>by cases e);have A7:=hide ((uh A2).go hb7);have HB7A:=hide hb7;clear hown hgrow hb7;obtain ⟨⟨r0,r1,r2,r3,r4,r5⟩,x0,x1,x2,x3,x4,x5⟩:=(uh A7).rc)
 have hb7:=uh HB7A
 have HL7:=hide ((uh HL2).below hb7)
 have HB7:=hide ((uh HB2).trans (hb7.mono hws2))
 have HV7:Hid (VsAt w.heap.size w7 (.slice (some ⟨g2,0,none⟩) nv cp2) (varsOf n f s.at_)):=hide ⟨by
  have:=uh HO7
  rw [Nat.zero_add,List.nil_append] at this
  unfold varsOf
  rw [← uh HNV,List.length_map,List.length_range]
  exact owns_low this hws2,uh HSZ⟩
 clear hb7 HO7 HB7A
 refine bodyPost_ret (v:=.tuple #[.agg #[.int .i64 0,.int .i64 0,.int .i64 0,.string ⟨#[]⟩,.slice none 0 0,.slice (some ⟨g2,0,none⟩) nv cp2],.nilIface]) (by simp [results,Tryz.results112,go_sem,r0,r1,r2,r3,r4,r5]) rfl ?_
 exact dsay_end (AskIs.vars (uh HO) rfl) (.inl ⟨rfl,rfl,rfl,rfl⟩) (uh HL7) (uh A7) (frs_nil _ _) (uh HV7) ((uh HB7).mono hB) (Same.of_below (uh HB7)) hB
theorem value_any (B sb lo lp:Nat) (mv pv tv uv:Value) (D:Nat→Value) (nf:Nat) (fns:Nat→ByteArray) (n:Nat) (f:Nat→M) (s:LS) (nn:Int) (name:ByteArray) (kd fn line:Int) (sn:ByteArray) (w:World) (h:SS B w sb mv pv n f s tv uv D) (h2:∀ W,Below B w W→MomsAt lo W mv n f) (hp:∀ W,Below B w W→PlacesAt lp W pv n f) (hs:Sound nf fns n f) (hok:LsOk n s) (hpl:s.past.length≤10000) (hB:B≤w.heap.size) (ho:OkAsk (⟨12,nn,name,⟨kd,fn,line,sn⟩⟩:Ak)) :
  Calls Tryz.prog 113 #[.pointer (some ⟨sb,0,none⟩),.agg #[.int .i64 12,.int .i64 nn,.string name,.int .i64 kd,.int .i64 fn,.int .i64 line,.string sn]] w fun e w'=>DSay B sb mv pv n f D s (⟨12,nn,name,⟨kd,fn,line,sn⟩⟩:Ak) w e w':=by
 have H:=hide h
 have H2:=hide h2
 have HP:=hide hp
 have HS:=hide hs
 have HOK:=hide hok
 have HPL:=hide hpl
 have HO:=hide ho
 have A1:=hide (DB.new w (⟨12,nn,name,⟨kd,fn,line,sn⟩⟩:Ak))
 have HB1:Hid (Below w.heap.size w ((w.alloc (.cells #[.int .i64 12,.int .i64 nn,.string name,.int .i64 kd,.int .i64 fn,.int .i64 line,.string sn] 47)).alloc (.cells #[.int .i64 0,.int .i64 0,.int .i64 0,.string ⟨#[]⟩,.slice none 0 0,.slice none 0 0] 38))):=hide ((below_new w (.cells #[.int .i64 12,.int .i64 nn,.string name,.int .i64 kd,.int .i64 fn,.int .i64 line,.string sn] 47)).alloc (by simp) (.cells #[.int .i64 0,.int .i64 0,.int .i64 0,.string ⟨#[]⟩,.slice none 0 0,.slice none 0 0] 38))
 have H1:=hide ((uh H).below (uh HB1))
 clear h h2 hp hs hok hpl
 have hk0:=(uh HOK).lo
 have hk1:=(uh HOK).hi
 clear ho
 have hnv:nvAt n f s.at_≤200:=by
  unfold nvAt
  split
  ·rename_i q
   have:=((uh HS).2.1 s.at_.toNat (by omega)).2.1
   omega
  ·omega
 go_enter Tryz.func113,Tryz.ntmps113
 go_upto_region 1 with fail
 obtain ⟨w1,hw1⟩:∃ w1,w1=((w.alloc (.cells #[.int .i64 12,.int .i64 nn,.string name,.int .i64 kd,.int .i64 fn,.int .i64 line,.string sn] 47)).alloc (.cells #[.int .i64 0,.int .i64 0,.int .i64 0,.string ⟨#[]⟩,.slice none 0 0,.slice none 0 0] 38)):=⟨_,rfl⟩
 rw [← hw1] at A1 HB1 H1 ⊢
 clear hw1
 have HSS:Hid (∀ W,Below w1.heap.size w1 W→W.cell? ⟨w.heap.size,2,none⟩=some (.string name)):=hide (fun W hb=>cell_below hb (uh A1).a2)
 refine wp_region_held_drew (S:=fun W=>W.cell? ⟨w.heap.size,2,none⟩=some (.string name)) (by kernel_rfl) (uh HSS _ (Below.refl _ _).drew) (fun hHeld=>?_)
 refine tka 0 9 ?hy0a hHeld ?r0a (v:=?v0a)
 case hy0a=>intro wx hSw;have s0:=hSw;go_simp;with_reducible rfl
 simp only [Act.put,sx1,sx2,sx3]
 refine tka 2 11 ?hy2a hHeld ?r2a (v:=?v2a)
 case hy2a=>intro wx hSw;have s0:=hSw;go_simp;with_reducible rfl
 simp only [Act.put,sx1,sx2,sx3]
 refine tka 3 12 ?hy3a hHeld ?r3a (v:=?v3a)
 case hy3a=>intro wx hSw;have s0:=hSw;go_simp;with_reducible rfl
 simp only [Act.put,sx1,sx2,sx3]
 refine wpAnyH_ready (rs:=[1,8]) (by kernel_rfl) (by simp) ?_
 refine AllReadyH.cons rfl (fun KK hK=>?_) (AllReadyH.cons rfl (fun KK hK=>?_) AllReadyH.nil)
 ·have hdr:Below w1.heap.size w1 _:=(Below.refl w1.heap.size w1).drew
  go_simp
  refine (shown_any sb lo mv pv tv uv D n f s.at_ _ ((uh H1).below hdr).box ((uh H2 _ ((uh HB1).mono hB)).below hdr) hk0 hk1).mono ?_
  rintro e w2 ⟨⟨v,rfl,hvs⟩,hbx⟩
  have hb2:Below w1.heap.size w1 w2:=hdr.trans (hbx.mono hdr.size)
  have HB2:=hide hb2
  have HBX:=hide hbx
  have HVS:=hide hvs
  refine hK.out _ _ (uh HSS _ hb2) (fun hHeld=>?_)
  clear hK KK hb2 hbx hvs hdr
  try simp only [Act.put,sx1,sx4,sx5,sx6,sx2,sx3]
  refine wpAnyH_ready (rs:=[4,8]) (by kernel_rfl) (by simp) ?_
  refine AllReadyH.cons rfl (fun KK hK=>?_) (AllReadyH.cons rfl (fun KK hK=>?_) AllReadyH.nil)
  ·go_simp
   refine (lastNamed_any lo _ _ _ name _ (uh HVS) hnv).mono ?_
   rintro e w3 ⟨rfl,hbx⟩
   have hb3:Below w1.heap.size w1 w3:=(uh HB2).trans (hbx.mono (uh HB2).size)
   have HB3:=hide hb3
   have HBY:=hide hbx
   obtain ⟨r,hr⟩:∃ r,r=lastText (varAt f s.at_) name (nvAt n f s.at_):=⟨_,rfl⟩
   rw [← hr]
   have HR:=hide hr
   obtain ⟨vn,vt,vb,hnm⟩:∃ vn vt vb,namedVar name r=.tuple #[.agg #[.string vn,.string vt],.bool vb]:=by
    cases r with
    | none=>exact ⟨_,_,_,rfl⟩
    | some x=>exact ⟨_,_,_,rfl⟩
   rw [hnm]
   have HNM:=hide hnm
   refine hK.out _ _ (uh HSS _ hb3) (fun hHeld=>?_)
   clear hK KK hb3 hbx hr hnm
   try simp only [Act.put,sx1,sx4,sx5,sx6,sx2,sx3]
   refine tka 5 8 ?hy5b hHeld ?r5b (v:=?v5b)
   case hy5b=>intro wx hSw;have s0:=hSw;go_simp;with_reducible rfl
   simp only [Act.put,sx1,sx2,sx3]
   refine tka 6 14 ?hy6b hHeld ?r6b (v:=?v6b)
   case hy6b=>intro wx hSw;have s0:=hSw;go_simp;with_reducible rfl
   simp only [Act.put,sx1,sx2,sx3]
   refine tka 7 15 ?hy7b hHeld ?r7b (v:=?v7b)
   case hy7b=>intro wx hSw;have s0:=hSw;go_simp;with_reducible rfl
   simp only [Act.put,sx1,sx2,sx3]
   refine wpAnyH_ready (rs:=[8]) (by kernel_rfl) (by simp) ?_
   refine AllReadyH.cons rfl (fun KK hK=>?_) AllReadyH.nil
   go_simp
   have hba:Below w1.heap.size w1 (w3.alloc (.cells #[.string ⟨#[]⟩,.string ⟨#[]⟩] 40)):=(uh HB3).trans ((below_new w3 _).mono (uh HB3).size)
   refine hK.out _ _ (uh HSS _ hba) (fun hHeld=>?_)
   clear hK KK
   try simp only [Act.put,sx1,sx4,sx5,sx6,sx2,sx3]
   refine wpAnyH_ready (rs:=[9]) (by kernel_rfl) (by simp) ?_
   refine AllReadyH.cons rfl (fun KK hK=>?_) AllReadyH.nil
   go_simp
   have HB4:Hid (Below w1.heap.size w1 (w3.alloc (.cells #[.string vn,.string vt] 40))):=hide ((uh HB3).trans ((below_new w3 _).mono (uh HB3).size))
   have HX4:=hide (heap_alloc_new w3 (.cells #[.string vn,.string vt] 40))
   refine hK.out _ _ (uh HSS _ (uh HB4)) (fun hHeld=>?_)
   clear hK KK hba
   try simp only [Act.put,sx1,sx4,sx5,sx6,sx2,sx3]
   obtain ⟨pb,hpb⟩:∃ pb,pb=w3.heap.size:=⟨_,rfl⟩
   obtain ⟨w4,hw4⟩:∃ w4,w4=w3.alloc (.cells #[.string vn,.string vt] 40):=⟨_,rfl⟩
   rw [← hw4] at HB4 HX4 hHeld
   rw [← hpb] at HX4 ⊢
   rw [← hw4]
   clear hw4 hpb
   refine tka 10 7 ?hy10bz hHeld ?r10bz (v:=?v10bz)
   case hy10bz=>intro wx hSw;have s0:=hSw;go_simp;with_reducible rfl
   simp only [Act.put,sx1,sx2,sx3]
   refine wpAnyH_done (by kernel_rfl) ?_ _
   clear hHeld
   have HL4:=hide ((uh H1).below (uh HB4))
   have A4:=hide ((uh A1).go (uh HB4))
   have HW4:=hide ((uh HB1).trans ((uh HB4).mono (uh HB1).size))
   cases r with
   | none =>
    have e:=uh HNM
    cases e
    obtain ⟨⟨r0,r1,r2,r3,r4,r5⟩,x0,x1,x2,x3,x4,x5⟩:=(uh A4).rc
    go_wp2
    refine bodyPost_ret (v:=.tuple #[.agg #[.int .i64 0,.int .i64 0,.int .i64 0,.string ⟨#[]⟩,.slice none 0 0,.slice none 0 0],.iface 180 (.agg #[.int .i64 3])]) (by simp [results,Tryz.results113,go_sem,r0,r1,r2,r3,r4,r5]) rfl ?_
    exact dsay_end (AskIs.value3 (uh HO) rfl (uh HR).symm) (.inr ⟨rfl,by show (3:Int) ≠ 0;omega,rfl⟩) (uh HL4) (uh A4) (frs_nil _ _) (VsAt.nil _ _) ((uh HW4).mono hB) (Same.of_below (uh HW4)) hB
   | some tx =>
    have e:=uh HNM
    cases e
    have p1:w4.cell? ⟨pb,1,none⟩=some (.string vt):=by rw [cell_of_row _ _ 1 _ _ _ (uh HX4)];rfl
    obtain ⟨⟨r0,r1,r2,r3,r4,r5⟩,x0,x1,x2,x3,x4,x5⟩:=(uh A4).rc
    go_wp2
    refine bodyPost_ret (v:=.tuple #[.agg #[.int .i64 0,.int .i64 0,.int .i64 0,.string vt,.slice none 0 0,.slice none 0 0],.nilIface]) (by simp [results,Tryz.results113,go_sem,r0,r1,r2,r3,r4,r5]) rfl ?_
    exact dsay_end (AskIs.value (uh HO) rfl (uh HR).symm) (.inl ⟨rfl,rfl,rfl,rfl⟩) (uh HL4) (uh A4) (frs_nil _ _) (VsAt.nil _ _) ((uh HW4).mono hB) (Same.of_below (uh HW4)) hB
  ·go_simp
   have hba:Below w1.heap.size w1 (w2.alloc (.cells #[.string ⟨#[]⟩,.string ⟨#[]⟩] 40)):=(uh HB2).trans ((below_new w2 _).mono (uh HB2).size)
   refine hK.out _ _ (uh HSS _ hba) (fun hHeld=>?_)
   clear hK KK
   try simp only [Act.put,sx1,sx4,sx5,sx6,sx2,sx3]
   have HBA:=hide hba
   have HNA:=hide (heap_alloc_new w2 (.cells #[.string ⟨#[]⟩,.string ⟨#[]⟩] 40))
   have HPB:Hid (w1.heap.size≤w2.heap.size):=hide (uh HB2).size
   clear hba
   refine wpAnyH_ready (rs:=[4]) (by kernel_rfl) (by simp) ?_
   refine AllReadyH.cons rfl (fun KK hK=>?_) AllReadyH.nil
   go_simp
   refine (lastNamed_any lo _ _ _ name _ ((uh HVS).below (below_new w2 (.cells #[.string ⟨#[]⟩,.string ⟨#[]⟩] 40))) hnv).mono ?_
   rintro e w3 ⟨rfl,hbx⟩
   have hb3:Below w1.heap.size w1 w3:=(uh HBA).trans (hbx.mono (uh HBA).size)
   have HB3:=hide hb3
   have HBY:=hide hbx
   obtain ⟨r,hr⟩:∃ r,r=lastText (varAt f s.at_) name (nvAt n f s.at_):=⟨_,rfl⟩
   rw [← hr]
   have HR:=hide hr
   obtain ⟨vn,vt,vb,hnm⟩:∃ vn vt vb,namedVar name r=.tuple #[.agg #[.string vn,.string vt],.bool vb]:=by
    cases r with
    | none=>exact ⟨_,_,_,rfl⟩
    | some x=>exact ⟨_,_,_,rfl⟩
   rw [hnm]
   have HNM:=hide hnm
   refine hK.out _ _ (uh HSS _ hb3) (fun hHeld=>?_)
   clear hK KK hb3 hbx hr hnm
   try simp only [Act.put,sx1,sx4,sx5,sx6,sx2,sx3]
   have HNA3:=hide (((uh HBY).block _ (heap_ltx (uh HNA))).trans (uh HNA))
   refine tka 5 8 ?hy5c hHeld ?r5c (v:=?v5c)
   case hy5c=>intro wx hSw;have s0:=hSw;go_simp;with_reducible rfl
   simp only [Act.put,sx1,sx2,sx3]
   refine tka 6 14 ?hy6c hHeld ?r6c (v:=?v6c)
   case hy6c=>intro wx hSw;have s0:=hSw;go_simp;with_reducible rfl
   simp only [Act.put,sx1,sx2,sx3]
   refine tka 7 15 ?hy7c hHeld ?r7c (v:=?v7c)
   case hy7c=>intro wx hSw;have s0:=hSw;go_simp;with_reducible rfl
   simp only [Act.put,sx1,sx2,sx3]
   have z0:w3.cell? ⟨w2.heap.size,0,none⟩=some (.string ⟨#[]⟩):=by rw [cell_of_row _ _ 0 _ _ _ (uh HNA3)];rfl
   have z1:w3.cell? ⟨w2.heap.size,1,none⟩=some (.string ⟨#[]⟩):=by rw [cell_of_row _ _ 1 _ _ _ (uh HNA3)];rfl
   have y0:w3.frozen? ⟨w2.heap.size,0,none⟩=false:=frozen_of_row _ _ _ _ _ (uh HNA3)
   have y1:w3.frozen? ⟨w2.heap.size,1,none⟩=false:=frozen_of_row _ _ _ _ _ (uh HNA3)
   refine wpAnyH_ready (rs:=[9]) (by kernel_rfl) (by simp) ?_
   refine AllReadyH.cons rfl (fun KK hK=>?_) AllReadyH.nil
   go_simp
   have HB4:Hid (Below w1.heap.size w1 ((w3.setCell ⟨w2.heap.size,0,none⟩ (.string vn)).setCell ⟨w2.heap.size,1,none⟩ (.string vt))):=hide (((uh HB3).setCell (p:=⟨w2.heap.size,0,none⟩) (uh HPB) _).setCell (p:=⟨w2.heap.size,1,none⟩) (uh HPB) _)
   have HX4:Hid (((w3.setCell ⟨w2.heap.size,0,none⟩ (.string vn)).setCell ⟨w2.heap.size,1,none⟩ (.string vt)).heap[w2.heap.size]?=some (.cells #[.string vn,.string vt] 40 (0,0))):=hide (by simp [World.setCell,Array.getElem?_modify,uh HNA3])
   refine hK.out _ _ (uh HSS _ (uh HB4)) (fun hHeld=>?_)
   clear hK KK z0 z1 y0 y1
   try simp only [Act.put,sx1,sx4,sx5,sx6,sx2,sx3]
   obtain ⟨w4,hw4⟩:∃ w4,w4=((w3.setCell ⟨w2.heap.size,0,none⟩ (.string vn)).setCell ⟨w2.heap.size,1,none⟩ (.string vt)):=⟨_,rfl⟩
   rw [← hw4] at HB4 HX4 hHeld ⊢
   obtain ⟨pb,hpb⟩:∃ pb,pb=w2.heap.size:=⟨_,rfl⟩
   rw [← hpb] at HX4 ⊢
   clear hw4 hpb
   refine tka 10 7 ?hy10cz hHeld ?r10cz (v:=?v10cz)
   case hy10cz=>intro wx hSw;have s0:=hSw;go_simp;with_reducible rfl
   simp only [Act.put,sx1,sx2,sx3]
   refine wpAnyH_done (by kernel_rfl) ?_ _
   clear hHeld
   have HL4:=hide ((uh H1).below (uh HB4))
   have A4:=hide ((uh A1).go (uh HB4))
   have HW4:=hide ((uh HB1).trans ((uh HB4).mono (uh HB1).size))
   cases r with
   | none =>
    have e:=uh HNM
    cases e
    obtain ⟨⟨r0,r1,r2,r3,r4,r5⟩,x0,x1,x2,x3,x4,x5⟩:=(uh A4).rc
    go_wp2
    refine bodyPost_ret (v:=.tuple #[.agg #[.int .i64 0,.int .i64 0,.int .i64 0,.string ⟨#[]⟩,.slice none 0 0,.slice none 0 0],.iface 180 (.agg #[.int .i64 3])]) (by simp [results,Tryz.results113,go_sem,r0,r1,r2,r3,r4,r5]) rfl ?_
    exact dsay_end (AskIs.value3 (uh HO) rfl (uh HR).symm) (.inr ⟨rfl,by show (3:Int) ≠ 0;omega,rfl⟩) (uh HL4) (uh A4) (frs_nil _ _) (VsAt.nil _ _) ((uh HW4).mono hB) (Same.of_below (uh HW4)) hB
   | some tx =>
    have e:=uh HNM
    cases e
    have p1:w4.cell? ⟨pb,1,none⟩=some (.string vt):=by rw [cell_of_row _ _ 1 _ _ _ (uh HX4)];rfl
    obtain ⟨⟨r0,r1,r2,r3,r4,r5⟩,x0,x1,x2,x3,x4,x5⟩:=(uh A4).rc
    go_wp2
    refine bodyPost_ret (v:=.tuple #[.agg #[.int .i64 0,.int .i64 0,.int .i64 0,.string vt,.slice none 0 0,.slice none 0 0],.nilIface]) (by simp [results,Tryz.results113,go_sem,r0,r1,r2,r3,r4,r5]) rfl ?_
    exact dsay_end (AskIs.value (uh HO) rfl (uh HR).symm) (.inl ⟨rfl,rfl,rfl,rfl⟩) (uh HL4) (uh A4) (frs_nil _ _) (VsAt.nil _ _) ((uh HW4).mono hB) (Same.of_below (uh HW4)) hB
 ·go_simp
  have hba:Below w1.heap.size w1 (w1.alloc (.cells #[.string ⟨#[]⟩,.string ⟨#[]⟩] 40)).drew:=(below_new w1 (.cells #[.string ⟨#[]⟩,.string ⟨#[]⟩] 40)).drew
  refine hK.out _ _ (uh HSS _ hba) (fun hHeld=>?_)
  clear hK KK
  try simp only [Act.put,sx1,sx4,sx5,sx6,sx2,sx3]
  have HBA:=hide hba
  have HNA:Hid ((w1.alloc (.cells #[.string ⟨#[]⟩,.string ⟨#[]⟩] 40)).drew.heap[w1.heap.size]?=some (.cells #[.string ⟨#[]⟩,.string ⟨#[]⟩] 40 (0,0))):=hide (heap_alloc_new w1 (.cells #[.string ⟨#[]⟩,.string ⟨#[]⟩] 40))
  have HPB:Hid (w1.heap.size≤w1.heap.size):=hide (Nat.le_refl _)
  clear hba
  refine wpAnyH_ready (rs:=[1]) (by kernel_rfl) (by simp) ?_
  refine AllReadyH.cons rfl (fun KK hK=>?_) AllReadyH.nil
  have hdr:Below w1.heap.size w1 _:=(uh HBA)
  go_simp
  refine (shown_any sb lo mv pv tv uv D n f s.at_ _ ((uh H1).below hdr).box ((uh H2 _ ((uh HB1).mono hB)).below hdr) hk0 hk1).mono ?_
  rintro e w2 ⟨⟨v,rfl,hvs⟩,hbx⟩
  have hb2:Below w1.heap.size w1 w2:=hdr.trans (hbx.mono hdr.size)
  have HB2:=hide hb2
  have HBX:=hide hbx
  have HVS:=hide hvs
  refine hK.out _ _ (uh HSS _ hb2) (fun hHeld=>?_)
  clear hK KK hb2 hbx hvs hdr
  try simp only [Act.put,sx1,sx4,sx5,sx6,sx2,sx3]
  have HNA2:=hide (((uh HBX).block _ (heap_ltx (uh HNA))).trans (uh HNA))
  refine wpAnyH_ready (rs:=[4]) (by kernel_rfl) (by simp) ?_
  refine AllReadyH.cons rfl (fun KK hK=>?_) AllReadyH.nil
  go_simp
  refine (lastNamed_any lo _ _ _ name _ (uh HVS) hnv).mono ?_
  rintro e w3 ⟨rfl,hbx⟩
  have hb3:Below w1.heap.size w1 w3:=(uh HB2).trans (hbx.mono (uh HB2).size)
  have HB3:=hide hb3
  have HBY:=hide hbx
  obtain ⟨r,hr⟩:∃ r,r=lastText (varAt f s.at_) name (nvAt n f s.at_):=⟨_,rfl⟩
  rw [← hr]
  have HR:=hide hr
  obtain ⟨vn,vt,vb,hnm⟩:∃ vn vt vb,namedVar name r=.tuple #[.agg #[.string vn,.string vt],.bool vb]:=by
   cases r with
   | none=>exact ⟨_,_,_,rfl⟩
   | some x=>exact ⟨_,_,_,rfl⟩
  rw [hnm]
  have HNM:=hide hnm
  refine hK.out _ _ (uh HSS _ hb3) (fun hHeld=>?_)
  clear hK KK hb3 hbx hr hnm
  try simp only [Act.put,sx1,sx4,sx5,sx6,sx2,sx3]
  have HNA3:=hide (((uh HBY).block _ (heap_ltx (uh HNA2))).trans (uh HNA2))
  refine tka 5 8 ?hy5d hHeld ?r5d (v:=?v5d)
  case hy5d=>intro wx hSw;have s0:=hSw;go_simp;with_reducible rfl
  simp only [Act.put,sx1,sx2,sx3]
  refine tka 6 14 ?hy6d hHeld ?r6d (v:=?v6d)
  case hy6d=>intro wx hSw;have s0:=hSw;go_simp;with_reducible rfl
  simp only [Act.put,sx1,sx2,sx3]
  refine tka 7 15 ?hy7d hHeld ?r7d (v:=?v7d)
  case hy7d=>intro wx hSw;have s0:=hSw;go_simp;with_reducible rfl
  simp only [Act.put,sx1,sx2,sx3]
  have z0:w3.cell? ⟨w1.heap.size,0,none⟩=some (.string ⟨#[]⟩):=by rw [cell_of_row _ _ 0 _ _ _ (uh HNA3)];rfl
  have z1:w3.cell? ⟨w1.heap.size,1,none⟩=some (.string ⟨#[]⟩):=by rw [cell_of_row _ _ 1 _ _ _ (uh HNA3)];rfl
  have y0:w3.frozen? ⟨w1.heap.size,0,none⟩=false:=frozen_of_row _ _ _ _ _ (uh HNA3)
  have y1:w3.frozen? ⟨w1.heap.size,1,none⟩=false:=frozen_of_row _ _ _ _ _ (uh HNA3)
  refine wpAnyH_ready (rs:=[9]) (by kernel_rfl) (by simp) ?_
  refine AllReadyH.cons rfl (fun KK hK=>?_) AllReadyH.nil
  go_simp
  have HB4:Hid (Below w1.heap.size w1 ((w3.setCell ⟨w1.heap.size,0,none⟩ (.string vn)).setCell ⟨w1.heap.size,1,none⟩ (.string vt))):=hide (((uh HB3).setCell (p:=⟨w1.heap.size,0,none⟩) (uh HPB) _).setCell (p:=⟨w1.heap.size,1,none⟩) (uh HPB) _)
  have HX4:Hid (((w3.setCell ⟨w1.heap.size,0,none⟩ (.string vn)).setCell ⟨w1.heap.size,1,none⟩ (.string vt)).heap[w1.heap.size]?=some (.cells #[.string vn,.string vt] 40 (0,0))):=hide (by simp [World.setCell,Array.getElem?_modify,uh HNA3])
  refine hK.out _ _ (uh HSS _ (uh HB4)) (fun hHeld=>?_)
  clear hK KK z0 z1 y0 y1
  try simp only [Act.put,sx1,sx4,sx5,sx6,sx2,sx3]
  obtain ⟨w4,hw4⟩:∃ w4,w4=((w3.setCell ⟨w1.heap.size,0,none⟩ (.string vn)).setCell ⟨w1.heap.size,1,none⟩ (.string vt)):=⟨_,rfl⟩
  rw [← hw4] at HB4 HX4 hHeld ⊢
  obtain ⟨pb,hpb⟩:∃ pb,pb=w1.heap.size:=⟨_,rfl⟩
  rw [← hpb] at HX4 ⊢
  clear hw4 hpb
  refine tka 10 7 ?hy10dz hHeld ?r10dz (v:=?v10dz)
  case hy10dz=>intro wx hSw;have s0:=hSw;go_simp;with_reducible rfl
  simp only [Act.put,sx1,sx2,sx3]
  refine wpAnyH_done (by kernel_rfl) ?_ _
  clear hHeld
  have HL4:=hide ((uh H1).below (uh HB4))
  have A4:=hide ((uh A1).go (uh HB4))
  have HW4:=hide ((uh HB1).trans ((uh HB4).mono (uh HB1).size))
  cases r with
  | none =>
   have e:=uh HNM
   cases e
   obtain ⟨⟨r0,r1,r2,r3,r4,r5⟩,x0,x1,x2,x3,x4,x5⟩:=(uh A4).rc
   go_wp2
   refine bodyPost_ret (v:=.tuple #[.agg #[.int .i64 0,.int .i64 0,.int .i64 0,.string ⟨#[]⟩,.slice none 0 0,.slice none 0 0],.iface 180 (.agg #[.int .i64 3])]) (by simp [results,Tryz.results113,go_sem,r0,r1,r2,r3,r4,r5]) rfl ?_
   exact dsay_end (AskIs.value3 (uh HO) rfl (uh HR).symm) (.inr ⟨rfl,by show (3:Int) ≠ 0;omega,rfl⟩) (uh HL4) (uh A4) (frs_nil _ _) (VsAt.nil _ _) ((uh HW4).mono hB) (Same.of_below (uh HW4)) hB
  | some tx =>
   have e:=uh HNM
   cases e
   have p1:w4.cell? ⟨pb,1,none⟩=some (.string vt):=by rw [cell_of_row _ _ 1 _ _ _ (uh HX4)];rfl
   obtain ⟨⟨r0,r1,r2,r3,r4,r5⟩,x0,x1,x2,x3,x4,x5⟩:=(uh A4).rc
   go_wp2
   refine bodyPost_ret (v:=.tuple #[.agg #[.int .i64 0,.int .i64 0,.int .i64 0,.string vt,.slice none 0 0,.slice none 0 0],.nilIface]) (by simp [results,Tryz.results113,go_sem,r0,r1,r2,r3,r4,r5]) rfl ?_
   exact dsay_end (AskIs.value (uh HO) rfl (uh HR).symm) (.inl ⟨rfl,rfl,rfl,rfl⟩) (uh HL4) (uh A4) (frs_nil _ _) (VsAt.nil _ _) ((uh HW4).mono hB) (Same.of_below (uh HW4)) hB
end Go.Proofs.YtmnmeaeicjhkhaaGreatDoor
namespace Go.Proofs.YtmnmeaeicjhkhaaGreatDoor
open Go.RowKit
theorem step_append_room {P:Program} {w:World} {ops:Array Oper} {o:Oper} {a:Act} {K:Act→World→Prop} {Q:Exit→Act→World→Prop} {E:Prop} (hgd:o.guard=none) (s x:Operand) (t:TypeId)
  (ho:o.op=.call { callee:=.builtin .append,args:=#[s,x],argTypes:=#[t,t] }) (e:TypeId) (i:TypeInfo) (ht:P.underlying t=some (.slice e)) (hi:P.info? e=some i)
  (b off sLen sCap:Nat) (ad:Addr) (m c:Nat) (news:List Value) (hs:a.eval s=.slice (some ⟨b,off,none⟩) sLen sCap) (hx:a.eval x=.slice (some ad) m c) (hl:news.length=m * i.size) (hnews:∀ j u,news[j]?=some u→w.cell? (ad.add j)=some u) (h1:∀ u ∈ news,u.oneCell'=true)
  (hroom:sLen + m≤sCap) (hc:∀ j,j < news.length→(w.cell? ⟨b,off + sLen * i.size + j,none⟩).isSome=true) (hf:∀ j,j < news.length→w.frozen? ⟨b,off + sLen * i.size + j,none⟩=false)
  (h:K (a.put o.dst (.slice (some ⟨b,off,none⟩) (sLen + m) sCap)) (w.setCells b (off + sLen * i.size) news)) :
  if Region.wanted o (yielded ops a.tmps)=true then Oper.wp P o a w K Q else E:=by
 have hw:Region.wanted o (yielded ops a.tmps)=true:=by simp [Region.wanted,hgd]
 rw [if_pos hw]
 have hrun:=run_append_room_cells (P:=P) w t o.type e i ht hi b off sLen sCap ad m c news hl hnews h1 hroom hc hf
 unfold Oper.wp
 simp [execOp,ho,resolve,invoke,builtin,hs,hx,hrun,Result.andThen]
 exact h
def laid (cur:Array Value):Nat→List Value→Array Value
 | _,[]=>cur
 | o,v :: r=>laid (cur.setIfInBounds o v) (o + 1) r
theorem laid_size:∀ (vs:List Value) (cur:Array Value) (o:Nat),(laid cur o vs).size=cur.size
 | [],_,_=>rfl
 | v :: r,cur,o=>by rw [laid,laid_size r];simp
theorem laid_get:∀ (vs:List Value) (cur:Array Value) (o i:Nat),o + vs.length≤cur.size→(laid cur o vs)[i]?=if o≤i∧i < o + vs.length then vs[i - o]? else cur[i]?
 | [],cur,o,i,_=>by rw [laid,if_neg (by simp only [List.length_nil];omega)]
 | v :: r,cur,o,i,h=>by
  simp only [List.length_cons] at h
  rw [laid,laid_get r _ _ _ (by simp;omega)]
  by_cases c1:o + 1≤i∧i < o + 1 + r.length
  ·rw [if_pos c1,if_pos (by simp;omega),show i - o=(i - (o + 1)) + 1 by omega,List.getElem?_cons_succ]
  ·rw [if_neg c1]
   by_cases c2:i=o
   ·subst c2
    rw [if_pos (by simp),Nat.sub_self,List.getElem?_cons_zero,Array.getElem?_setIfInBounds_self_of_lt (by omega)]
   ·rw [if_neg (by simp;omega),Array.getElem?_setIfInBounds_ne (by omega)]
theorem setCells_heap:∀ (vs:List Value) (w:World) (b o:Nat) (cur:Array Value) (t:TypeId) (fr:Nat × Nat),w.heap[b]?=some (.cells cur t fr)→(w.setCells b o vs).heap[b]?=some (.cells (laid cur o vs) t fr)
 | [],_,_,_,_,_,_,h=>h
 | v :: r,w,b,o,cur,t,fr,h=>by
  rw [World.setCells,laid]
  exact setCells_heap r _ b (o + 1) _ t fr (by simp [World.setCell,Array.getElem?_modify,h])
theorem setCells_other:∀ (vs:List Value) (w:World) (b o q:Nat),q ≠ b→(w.setCells b o vs).heap[q]?=w.heap[q]?
 | [],_,_,_,_,_=>rfl
 | v :: r,w,b,o,q,h=>by
  rw [World.setCells,setCells_other r _ b (o + 1) q h,heap_setCell_other _ _ _ _ h]
theorem setCells_below {B:Nat} {a:World}:∀ (vs:List Value) (w:World) (b o:Nat),Below B a w→B≤b→Below B a (w.setCells b o vs)
 | [],_,_,_,h,_=>h
 | v :: r,w,b,o,h,hb=>by
  rw [World.setCells]
  exact setCells_below r _ b (o + 1) (h.setCell (p:=⟨b,o,none⟩) hb _) hb
theorem erase_map (vs:Nat→Value) (ns j:Nat) (hj:j < ns):((List.range ns).map vs).eraseIdx j=(List.range (ns - 1)).map (fun i=>vs (past j i)):=by
 apply List.ext_getElem?
 intro i
 rw [List.getElem?_eraseIdx]
 unfold past
 by_cases c1:i < ns - 1
 ·by_cases c2:i < j
  ·rw [if_pos c2,List.getElem?_map,List.getElem?_map,List.getElem?_range (by omega),List.getElem?_range c1]
   show some (vs i)=some (vs (if i < j then i else i + 1))
   rw [if_pos c2]
  ·rw [if_neg c2,List.getElem?_map,List.getElem?_map,List.getElem?_range (by omega),List.getElem?_range c1]
   show some (vs (i + 1))=some (vs (if i < j then i else i + 1))
   rw [if_neg c2]
 ·rw [List.getElem?_eq_none (l:=(List.range (ns - 1)).map _) (by simp;omega)]
  by_cases c2:i < j
  ·omega
  ·rw [if_neg c2,List.getElem?_eq_none (by simp;omega)]
theorem zero_test (w:World):(zeroValue 228).run Tryz.prog w=.ok .nilFunc w:=by kernel_rfl
theorem delete_any (B g p tc j:Nat) (xs:List Value) (w:World) (h:w.ownsRow B 228 1 (.slice (some ⟨g,0,none⟩) (p + 1) tc) (p + 1) xs) (h1:∀ u ∈ xs,u.oneCell'=true) (hj:j≤p) (hn:p≤1000) :
  Calls Tryz.prog 148 #[.slice (some ⟨g,0,none⟩) (p + 1) tc,.int .i64 (j:Int),.int .i64 ((j:Int) + 1)] w fun e w'=>e=.returned (.slice (some ⟨g,0,none⟩) p tc)∧w'.ownsRow B 228 1 (.slice (some ⟨g,0,none⟩) p tc) p (xs.eraseIdx j)∧Same (fun t=>t ≠ 228) w w'∧Below B w w':=by
 obtain ⟨i0,hi0,hz0,hz1,hz2⟩:=info_parts info_test
 have II:=hide (And.intro hi0 hz1);clear hi0 hz0 hz1 hz2
 obtain ⟨hl,h2⟩:=h
 rcases h2 with ⟨e,_⟩ | ⟨g',tc',cur,e,hBg,hh,hnc,hcm,hcs,htk⟩
 ·cases e
 cases e
 rw [Nat.mul_one] at hl hcs htk
 unfold maxLen at hcm
 have hcur:∀ i,i < p + 1→cur[i]?=xs[i]?:=fun i hi=>by
  rw [← htk,List.getElem?_take,if_pos hi,Array.getElem?_toList]
 obtain ⟨news,hnews⟩:∃ news,news=xs.drop (j + 1):=⟨_,rfl⟩
 have hnl:news.length=p - j:=by rw [hnews,List.length_drop,hl];omega
 have HN1:Hid (news.length=(p - j) * i0.size):=hide (by rw [(uh II).2,Nat.mul_one];exact hnl)
 have HNO:Hid (∀ u ∈ news,u.oneCell'=true):=hide (fun u hu=>h1 u (by rw [hnews] at hu;exact List.mem_of_mem_drop hu))
 have hcell:∀ i,i < p + 1→∃ u,w.cell? ⟨g,i,none⟩=some u∧xs[i]?=some u:=fun i hi=>by
  have:i < xs.length:=by omega
  exact ⟨xs[i],by rw [cell_of_row w g i _ _ _ hh,hcur i hi,List.getElem?_eq_getElem this],List.getElem?_eq_getElem this⟩
 have HCE:=hide hcell
 have HFZ:Hid (∀ i,w.frozen? ⟨g,i,none⟩=false):=hide (fun i=>frozen_of_row _ _ _ _ _ hh)
 -- what is left behind both writings
 obtain ⟨W1,hW1⟩:∃ W1,W1=w.drew.setCells g j news:=⟨_,rfl⟩
 have hh1:W1.heap[g]?=some (.cells (laid cur j news) 228 (0,0)):=by rw [hW1];exact setCells_heap news w.drew g j cur _ _ hh
 have hh2:(W1.setCells g p [.nilFunc]).heap[g]?=some (.cells (laid (laid cur j news) p [.nilFunc]) 228 (0,0)):=setCells_heap _ W1 g p _ _ _ hh1
 have HCL:Hid (∀ ty c,(Builtin.clear_ #[169] ty #[.slice (some ⟨g,p,none⟩) 1 c]).run Tryz.prog W1=.ok (.tuple #[]) (W1.setCells g p [.nilFunc])):=hide (fun ty c =>
  Lib.run_clear_slice W1 169 228 ty .nilFunc Tryz.underlying169 zero_test rfl rfl g p 1 c (by omega) (fun i hi=>by
   obtain rfl:i=0:=by omega
   rw [Nat.add_zero,cell_of_row W1 g p _ _ _ hh1]
   exact Option.isSome_iff_exists.2 ⟨_,Array.getElem?_eq_getElem (by rw [laid_size];omega)⟩) (fun i hi=>frozen_of_row _ _ _ _ _ hh1))
 have HR:Hid ((W1.setCells g p [.nilFunc]).ownsRow B 228 1 (.slice (some ⟨g,0,none⟩) p tc) p (xs.eraseIdx j)):=hide (by
  refine ⟨by rw [List.length_eraseIdx,if_pos (by omega),hl,Nat.mul_one];omega,.inr ⟨g,tc,_,rfl,hBg,hh2,by omega,by unfold maxLen;omega,by rw [laid_size,laid_size,hcs,Nat.mul_one],?_⟩⟩
  apply List.ext_getElem?
  intro i
  rw [List.getElem?_take,List.getElem?_eraseIdx,Nat.mul_one]
  by_cases c1:i < p
  ·rw [if_pos c1,Array.getElem?_toList,laid_get _ _ _ _ (by rw [laid_size,List.length_singleton];omega),if_neg (by rw [List.length_singleton];omega),laid_get _ _ _ _ (by omega)]
   by_cases c2:i < j
   ·rw [if_neg (by omega),if_pos c2,hcur i (by omega)]
   ·rw [if_pos (by omega),if_neg c2,hnews,List.getElem?_drop]
    congr 1
    omega
  ·rw [if_neg c1]
   by_cases c2:i < j
   ·omega
   ·rw [if_neg c2,List.getElem?_eq_none (by omega)])
 have HSM:Hid (Same (fun t=>t ≠ 228) w (W1.setCells g p [.nilFunc])):=hide (fun b cs t fr hb ht=>by
  have hne:b ≠ g:=fun e=>by subst e;rw [hh] at hb;cases hb;exact ht rfl
  rw [setCells_other _ _ _ _ _ hne,hW1,setCells_other _ _ _ _ _ hne]
  exact hb)
 have HBL:Hid (Below B w (W1.setCells g p [.nilFunc])):=hide (setCells_below _ _ _ _ (by rw [hW1];exact setCells_below _ _ _ _ (Below.refl B w).drew hBg) hBg)
 have HW1:=hide hW1
 have HNEW:=hide hnews
 have hpj:j + (p - j)=p:=by omega
 clear hh hh1 hh2 htk h1 hl hcs hcur hcell hW1 hnews
 have s1:(0:Int)≤(j:Int):=by omega
 have s2:(j:Int)≤(j:Int) + 1:=by omega
 have s3:(j:Int) + 1≤((p + 1:Nat):Int):=by omega
 have s4:((p + 1:Nat):Int)≤(tc:Int):=by omega
 have s5:(0:Int)≤(j:Int) + 1:=by omega
 have s6:(j:Int)≤(tc:Int):=by omega
 have s7:(j:Int)≤(p:Int):=by omega
 have s8:(p:Int)≤(p:Int) + 1:=by omega
 have s9:(p:Int) + 1≤(tc:Int):=by omega
 have s10:(0:Int)≤(p:Int):=by omega
 have s11:(p:Int)≤(tc:Int):=by omega
 have s12:(0:Int)≤(p:Int) + 1:=by omega
 have s13:(j:Int) + 1≤(p:Int) + 1:=by omega
 have s14:tc ≠ p:=by omega
 have s15:¬ tc=p:=by omega
 have sne:((j:Int) == (j:Int) + 1)=false:=by rw [beq_eq_false_iff_ne];omega
 by_cases htc:tc=j + 1
 ·obtain rfl:p=j:=by omega
  subst htc
  go_enter Tryz.func148,Tryz.ntmps148
  go_upto_region 5 with fail
  refine wp_region_held_drew (S:=fun _=>True) (by kernel_rfl) trivial (fun hHeld=>?_)
  refine tka 0 20 ?hy0a hHeld ?r0a (v:=?v0a)
  case hy0a=>intro wx hSw;skip;go_simp;with_reducible rfl
  simp only [Act.put,sx1,sx2,sx3]
  refine tka 1 21 ?hy1a hHeld ?r1a (v:=?v1a)
  case hy1a=>intro wx hSw;skip;go_simp;with_reducible rfl
  simp only [Act.put,sx1,sx2,sx3]
  refine tka 2 22 ?hy2a hHeld ?r2a (v:=?v2a)
  case hy2a=>intro wx hSw;skip;go_simp;with_reducible rfl
  simp only [Act.put,sx1,sx2,sx3]
  refine tka 3 23 ?hy3a hHeld ?r3a (v:=?v3a)
  case hy3a=>intro wx hSw;skip;go_simp;with_reducible rfl
  simp only [Act.put,sx1,sx2,sx3]
  refine tka 4 24 ?hy4a hHeld ?r4a (v:=?v4a)
  case hy4a=>intro wx hSw;skip;go_simp;with_reducible rfl
  simp only [Act.put,sx1,sx2,sx3]
  refine tka 5 25 ?hy5a hHeld ?r5a (v:=?v5a)
  case hy5a=>intro wx hSw;skip;go_simp;with_reducible rfl
  simp only [Act.put,sx1,sx2,sx3]
  refine wpAnyH_ready (rs:=[6]) (by kernel_rfl) (by simp) ?_
  refine AllReadyH.cons rfl (fun KK hK=>?_) AllReadyH.nil
  refine step_append_room (by rfl) _ _ _ (by rfl) 228 i0 Tryz.underlying169 (uh II).1 g 0 p (p + 1) ⟨g,0,none⟩ 0 0 news (by rfl) (by rfl) (by rw [Nat.zero_mul,hnl,Nat.sub_self]) ?hnwa (uh HNO) (by omega) ?hcca ?hffa ?hkka
  case hnwa =>
   intro i u hu
   rw [List.getElem?_eq_none (by omega)] at hu;cases hu
  case hcca =>
   intro i hi
   obtain ⟨u,k1,_⟩:=uh HCE (p + i) (by omega)
   rw [(uh II).2,Nat.zero_add,Nat.mul_one]
   exact Option.isSome_iff_exists.2 ⟨u,k1⟩
  case hffa =>
   intro i hi
   exact uh HFZ _
  rw [(uh II).2,Nat.zero_add,Nat.mul_one,Nat.add_zero,← uh HW1]
  refine hK.out _ _ trivial (fun hHeld=>?_)
  clear hK KK
  try simp only [Act.put,sx1,sx4,sx5,sx6,sx2,sx3]
  refine tka 7 0 ?hy7ab hHeld ?r7ab (v:=?v7ab)
  case hy7ab=>intro wx hSw;skip;go_simp;with_reducible rfl
  simp only [Act.put,sx1,sx2]
  refine wpAnyH_done (by kernel_rfl) ?_ _
  clear hHeld
  have hcl:=uh HCL 0 1
  go_wp2
  go_ret
  exact ⟨rfl,uh HR,uh HSM,uh HBL⟩
 ·go_enter Tryz.func148,Tryz.ntmps148
  go_upto_region 5 with fail
  refine wp_region_held_drew (S:=fun _=>True) (by kernel_rfl) trivial (fun hHeld=>?_)
  refine tka 0 20 ?hy0c hHeld ?r0c (v:=?v0c)
  case hy0c=>intro wx hSw;skip;go_simp;with_reducible rfl
  simp only [Act.put,sx1,sx2,sx3]
  refine tka 1 21 ?hy1c hHeld ?r1c (v:=?v1c)
  case hy1c=>intro wx hSw;skip;go_simp;with_reducible rfl
  simp only [Act.put,sx1,sx2,sx3]
  refine tka 2 22 ?hy2c hHeld ?r2c (v:=?v2c)
  case hy2c=>intro wx hSw;skip;go_simp;with_reducible rfl
  simp only [Act.put,sx1,sx2,sx3]
  refine tka 3 23 ?hy3c hHeld ?r3c (v:=?v3c)
  case hy3c=>intro wx hSw;skip;go_simp;with_reducible rfl
  simp only [Act.put,sx1,sx2,sx3]
  refine tka 4 24 ?hy4c hHeld ?r4c (v:=?v4c)
  case hy4c=>intro wx hSw;skip;go_simp;with_reducible rfl
  simp only [Act.put,sx1,sx2,sx3]
  refine tka 5 25 ?hy5c hHeld ?r5c (v:=?v5c)
  case hy5c=>intro wx hSw;skip;go_simp;with_reducible rfl
  simp only [Act.put,sx1,sx2,sx3]
  refine wpAnyH_ready (rs:=[6]) (by kernel_rfl) (by simp) ?_
  refine AllReadyH.cons rfl (fun KK hK=>?_) AllReadyH.nil
  refine step_append_room (by rfl) _ _ _ (by rfl) 228 i0 Tryz.underlying169 (uh II).1 g 0 j tc ⟨g,j + 1,none⟩ (p - j) (tc - (j + 1)) news (by rfl) (by rfl) (uh HN1) ?hnwc (uh HNO) (by omega) ?hccc ?hffc ?hkkc
  case hnwc =>
   intro i u hu
   rw [Addr.add_lit];rw [uh HNEW,List.getElem?_drop] at hu;obtain ⟨u2,k1,k2⟩:=uh HCE (j + 1 + i) (by rcases Nat.lt_or_ge i (p - j) with q | q;omega;rw [← List.getElem?_drop,← uh HNEW,List.getElem?_eq_none (by omega)] at hu;cases hu);rw [k2] at hu;cases hu;exact k1
  case hccc =>
   intro i hi
   obtain ⟨u,k1,_⟩:=uh HCE (j + i) (by omega)
   rw [(uh II).2,Nat.zero_add,Nat.mul_one]
   exact Option.isSome_iff_exists.2 ⟨u,k1⟩
  case hffc =>
   intro i hi
   exact uh HFZ _
  rw [(uh II).2,Nat.zero_add,Nat.mul_one,hpj,← uh HW1]
  refine hK.out _ _ trivial (fun hHeld=>?_)
  clear hK KK
  try simp only [Act.put,sx1,sx4,sx5,sx6,sx2,sx3]
  refine tka 7 0 ?hy7cb hHeld ?r7cb (v:=?v7cb)
  case hy7cb=>intro wx hSw;skip;go_simp;with_reducible rfl
  simp only [Act.put,sx1,sx2]
  refine wpAnyH_done (by kernel_rfl) ?_ _
  clear hHeld
  have hcl:=uh HCL 0 (tc - p)
  go_wp2
  go_ret
  exact ⟨rfl,uh HR,uh HSM,uh HBL⟩
theorem clearStop_any (B sb lo lp:Nat) (mv pv tv uv:Value) (D:Nat→Value) (nf:Nat) (fns:Nat→ByteArray) (n:Nat) (f:Nat→M) (s:LS) (nn:Int) (name:ByteArray) (kd fn line:Int) (sn:ByteArray) (w:World) (h:SS B w sb mv pv n f s tv uv D) (h2:∀ W,Below B w W→MomsAt lo W mv n f) (hp:∀ W,Below B w W→PlacesAt lp W pv n f) (hs:Sound nf fns n f) (hok:LsOk n s) (hpl:s.past.length≤10000) (hB:B≤w.heap.size) (ho:OkAsk (⟨2,nn,name,⟨kd,fn,line,sn⟩⟩:Ak)) :
  Calls Tryz.prog 105 #[.pointer (some ⟨sb,0,none⟩),.agg #[.int .i64 2,.int .i64 nn,.string name,.int .i64 kd,.int .i64 fn,.int .i64 line,.string sn]] w fun e w'=>DSay B sb mv pv n f D s (⟨2,nn,name,⟨kd,fn,line,sn⟩⟩:Ak) w e w':=by
 have H:=hide h
 have H2:=hide h2
 have HP:=hide hp
 have HS:=hide hs
 have HOK:=hide hok
 have HPL:=hide hpl
 have HO:=hide ho
 have A1:=hide (DB.new w (⟨2,nn,name,⟨kd,fn,line,sn⟩⟩:Ak))
 have HB1:Hid (Below w.heap.size w ((w.alloc (.cells #[.int .i64 2,.int .i64 nn,.string name,.int .i64 kd,.int .i64 fn,.int .i64 line,.string sn] 47)).alloc (.cells #[.int .i64 0,.int .i64 0,.int .i64 0,.string ⟨#[]⟩,.slice none 0 0,.slice none 0 0] 38))):=hide ((below_new w (.cells #[.int .i64 2,.int .i64 nn,.string name,.int .i64 kd,.int .i64 fn,.int .i64 line,.string sn] 47)).alloc (by simp) (.cells #[.int .i64 0,.int .i64 0,.int .i64 0,.string ⟨#[]⟩,.slice none 0 0,.slice none 0 0] 38))
 have H1:=hide ((uh H).below (uh HB1))
 clear h h2 hp hs hok hpl
 have hn0:0≤nn:=((okAsk2 (.inl rfl)).1 ho).1.1
 have hn49:nn≤49:=((okAsk2 (.inl rfl)).1 ho).1.2
 clear ho
 obtain ⟨ta,tc,hte⟩:=(uh H).tslice
 obtain ⟨ns,hns⟩:∃ ns,ns=s.stops.length:=⟨_,rfl⟩
 rw [← hns] at hte
 subst hte
 have HNS:=hide hns
 have hn50:ns≤50:=by rw [hns];exact (uh HOK).st
 clear hns
 have hlt:=(uh H).lt
 go_enter Tryz.func105,Tryz.ntmps105
 go_upto_region 1 with fail
 obtain ⟨w1,hw1⟩:∃ w1,w1=((w.alloc (.cells #[.int .i64 2,.int .i64 nn,.string name,.int .i64 kd,.int .i64 fn,.int .i64 line,.string sn] 47)).alloc (.cells #[.int .i64 0,.int .i64 0,.int .i64 0,.string ⟨#[]⟩,.slice none 0 0,.slice none 0 0] 38)):=⟨_,rfl⟩
 rw [← hw1] at A1 HB1 H1 ⊢
 clear hw1
 have c3:=(uh H1).box.c3
 have a1:w1.cell? ⟨w.heap.size,1,none⟩=some (.int .i64 nn):=(uh A1).a1
 by_cases hge:(ns:Int)≤nn
 ·have HGE:Hid ((s.stops.length:Int)≤nn):=hide (by rw [← uh HNS];exact hge)
  go_quiet (fail)
  generalize hW2:w1.drewN _=w2
  have hb2:Below w1.heap.size w1 w2:=by rw [← hW2];exact below_drewN' _ _
  have A2:=hide ((uh A1).go hb2)
  have HL2:=hide ((uh H1).below hb2)
  have HB2:=hide ((uh HB1).trans (hb2.mono (uh HB1).size))
  clear hb2 hW2 c3 a1
  obtain ⟨⟨r0,r1,r2,r3,r4,r5⟩,x0,x1,x2,x3,x4,x5⟩:=(uh A2).rc
  go_wp2
  refine bodyPost_ret (v:=.tuple #[.agg #[.int .i64 0,.int .i64 0,.int .i64 0,.string ⟨#[]⟩,.slice none 0 0,.slice none 0 0],.iface 180 (.agg #[.int .i64 2])]) (by simp [results,Tryz.results105,go_sem,r0,r1,r2,r3,r4,r5]) rfl ?_
  exact dsay_end (AskIs.clear2 (uh HO) rfl (uh HGE)) (.inr ⟨rfl,by show (2:Int) ≠ 0;omega,rfl⟩) (uh HL2) (uh A2) (frs_nil _ _) (VsAt.nil _ _) ((uh HB2).mono hB) (Same.of_below (uh HB2)) hB
 have hge':decide ((ns:Int)≤nn)=false:=by simpa using hge
 go_quiet (fail)
 generalize hW2:w1.drewN _=w2
 have hb2:Below w1.heap.size w1 w2:=by rw [← hW2];exact below_drewN' _ _
 have A2:=hide ((uh A1).go hb2)
 have HL2:=hide ((uh H1).below hb2)
 have HB2:=hide ((uh HB1).trans (hb2.mono (uh HB1).size))
 clear hb2 hW2 c3 a1 H1 A1
 obtain ⟨j,hj⟩:∃ j:Nat,nn=(j:Int):=⟨nn.toNat,by omega⟩
 subst hj
 obtain ⟨p,rfl⟩:∃ p,ns=p + 1:=⟨ns - 1,by omega⟩
 have hjp:j≤p:=by omega
 obtain ⟨vs,hrow,hbo⟩:=(uh HL2).tests
 rw [← uh HNS] at hrow hbo
 obtain ⟨g,cap,eg,hBg,_⟩:=owns_atx hrow (by omega)
 cases eg
 have HROW:=hide hrow
 have HBO:=hide hbo
 clear hrow hbo hge hge'
 have wj:IntKind.i64.wrap ((j:Int) + 1)=(j:Int) + 1:=by rw [IntKind.wrap_i64];omega
 have HSS:Hid (∀ W,Below w2.heap.size w2 W→W.cell? ⟨w.heap.size,1,none⟩=some (.int .i64 (j:Int))):=hide (fun W hb=>cell_below hb (uh A2).a1)
 go_upto_region 3 with fail
 refine wp_region_held_drew (S:=fun W=>W.cell? ⟨w.heap.size,1,none⟩=some (.int .i64 (j:Int))) (by kernel_rfl) (uh HSS _ (Below.refl _ _).drew) (fun hHeld=>?_)
 refine tka 0 17 ?hy0p hHeld ?r0p (v:=?v0p)
 case hy0p=>intro wx hSw;have s0:=hSw;go_simp;with_reducible rfl
 simp only [Act.put,sx1,sx2,sx3]
 refine tka 1 18 ?hy1p hHeld ?r1p (v:=?v1p)
 case hy1p=>intro wx hSw;have s0:=hSw;go_simp;with_reducible rfl
 simp only [Act.put,sx1,sx2,sx3]
 refine tka 2 19 ?hy2p hHeld ?r2p (v:=?v2p)
 case hy2p=>intro wx hSw;have s0:=hSw;go_simp;with_reducible rfl
 simp only [Act.put,sx1,sx2,sx3]
 refine tka 3 20 ?hy3p hHeld ?r3p (v:=?v3p)
 case hy3p=>intro wx hSw;have s0:=hSw;go_simp;with_reducible rfl
 simp only [Act.put,sx1,sx2,sx3]
 refine tka 5 22 ?hy5p hHeld ?r5p (v:=?v5p)
 case hy5p=>intro wx hSw;have s0:=hSw;go_simp;with_reducible rfl
 simp only [Act.put,sx1,sx2,sx3]
 refine tka 6 23 ?hy6p hHeld ?r6p (v:=?v6p)
 case hy6p=>intro wx hSw;have s0:=hSw;go_simp;with_reducible rfl
 simp only [Act.put,sx1,sx2,sx3]
 refine tka 7 24 ?hy7p hHeld ?r7p (v:=?v7p)
 case hy7p=>intro wx hSw;have s0:=hSw;go_simp;with_reducible rfl
 simp only [Act.put,sx1,sx2,sx3]
 refine tka 8 25 ?hy8p hHeld ?r8p (v:=?v8p)
 case hy8p=>intro wx hSw;have s0:=hSw;go_simp;with_reducible rfl
 simp only [Act.put,sx1,sx2,sx3]
 refine tka 9 26 ?hy9p hHeld ?r9p (v:=?v9p)
 case hy9p=>intro wx hSw;have s0:=hSw;go_simp;with_reducible rfl
 simp only [Act.put,sx1,sx2,sx3]
 refine wpAnyH_ready (rs:=[4]) (by kernel_rfl) (by simp) ?_
 refine AllReadyH.cons rfl (fun KK hK=>?_) AllReadyH.nil
 have hdr:=(Below.refl w2.heap.size w2).drew
 have q3:=cell_below hdr (uh HL2).box.c3
 go_simp
 refine hK.out _ _ (uh HSS _ hdr) (fun hHeld=>?_)
 clear hK KK q3
 try simp only [Act.put,sx1,sx4,sx5,sx6,sx2,sx3]
 refine wpAnyH_ready (rs:=[10]) (by kernel_rfl) (by simp) ?_
 refine AllReadyH.cons rfl (fun KK hK=>?_) AllReadyH.nil
 go_simp
 refine (delete_any B g p tc j _ _ (owns_below (uh HROW) hdr) (fun u hu=>by
  obtain ⟨i,hi,rfl⟩:=List.mem_map.1 hu
  exact (uh HBO i (List.mem_range.1 hi)).one) hjp (by omega)).mono ?_
 rintro e w3 ⟨rfl,hown,hsm,hbl⟩
 have s3:Same (fun t=>t ≠ 228) w2 w3:=(Same.of_below hdr).trans hsm
 have HX3:=hide ((uh HL2).box.same s3 (by decide))
 have HU3:=hide ((uh HL2).undos.same s3 (by decide) (by decide) (by decide))
 have HK3:Hid (Same KindS w2 w3):=hide (s3.mono (fun t q=>q.2.1))
 have A3:=hide ((uh A2).same (uh HK3))
 have HB3:Hid (Below B w w3):=hide (((uh HB2).mono hB).trans ((hdr.mono (Nat.le_trans hB (uh HB2).size)).trans hbl))
 have HT3:Hid (TestsAt B w3 (.slice (some ⟨g,0,none⟩) p tc) mv p n f (LS.ss ⟨s.at_,s.stops.eraseIdx j,s.past⟩)):=hide ⟨fun i=>vs (past j i),by rw [← show p + 1 - 1=p from rfl,← erase_map vs (p + 1) j (by omega)];exact hown,fun i hi=>by
  rw [ss_erase]
  exact (uh HBO (past j i) (by unfold past;split<;>omega)).same s3 (by decide) (by decide) (by decide) (by decide)⟩
 have k1:w3.cell? ⟨w.heap.size,1,none⟩=some (.int .i64 (j:Int)):=(uh A3).a1
 refine hK.out _ _ k1 (fun hHeld=>?_)
 clear hK KK hown hsm hbl hdr s3
 try simp only [Act.put,sx1,sx4,sx5,sx6,sx2,sx3]
 refine tka 11 28 ?hy11q hHeld ?r11q (v:=?v11q)
 case hy11q=>intro wx hSw;have s0:=hSw;go_simp;with_reducible rfl
 simp only [Act.put,sx1,sx2,sx3]
 refine tka 12 29 ?hy12q hHeld ?r12q (v:=?v12q)
 case hy12q=>intro wx hSw;have s0:=hSw;go_simp;with_reducible rfl
 simp only [Act.put,sx1,sx2,sx3]
 have k3:=(uh HX3).c3
 have f3:=(uh HX3).fz 3
 refine wpAnyH_ready (rs:=[13]) (by kernel_rfl) (by simp) ?_
 refine AllReadyH.cons rfl (fun KK hK=>?_) AllReadyH.nil
 go_simp
 have HL4:Hid (SS B (w3.setCell ⟨sb,3,none⟩ (.slice (some ⟨g,0,none⟩) p tc)) sb mv pv n f ⟨s.at_,s.stops.eraseIdx j,s.past⟩ (.slice (some ⟨g,0,none⟩) p tc) uv D):=hide (by
  obtain ⟨cs,hh⟩:=(uh HX3).block
  have hs4:Same (fun t=>t ≠ 176) w3 (w3.setCell ⟨sb,3,none⟩ (.slice (some ⟨g,0,none⟩) p tc)):=Same.set hh (fun q=>q rfl)
  have el:(s.stops.eraseIdx j).length=p:=by rw [List.length_eraseIdx,if_pos (by rw [← uh HNS];omega),← uh HNS];rfl
  exact ⟨(uh HX3).set3 _,by rw [el];exact (uh HT3).same hs4 (by decide) (by decide) (by decide) (by decide) (by decide),(uh HU3).same hs4 (by decide) (by decide) (by decide),(uh H).sbB⟩)
 have SK4:Hid (Same KindS w3 (w3.setCell ⟨sb,3,none⟩ (.slice (some ⟨g,0,none⟩) p tc))):=hide (by obtain ⟨cs,hh⟩:=(uh HX3).block;exact Same.set hh KindS.no)
 have A4:=hide ((uh A3).same (uh SK4))
 have HB4:Hid (Below B w (w3.setCell ⟨sb,3,none⟩ (.slice (some ⟨g,0,none⟩) p tc))):=hide ((uh HB3).setCell (p:=⟨sb,3,none⟩) (uh H).sbB _)
 have HK4:Hid (Same KindS w (w3.setCell ⟨sb,3,none⟩ (.slice (some ⟨g,0,none⟩) p tc))):=hide (((Same.of_below (uh HB2)).trans (uh HK3)).trans (uh SK4))
 refine hK.out _ _ ((uh A4).a1) (fun hHeld=>?_)
 clear hK KK hHeld k1 k3 f3
 try simp only [Act.put,sx1,sx4,sx5,sx6,sx2,sx3]
 refine wpAnyH_done (by kernel_rfl) ?_ _
 obtain ⟨w4,hw4⟩:∃ w4,w4=w3.setCell ⟨sb,3,none⟩ (.slice (some ⟨g,0,none⟩) p tc):=⟨_,rfl⟩
 rw [← hw4] at HL4 SK4 A4 HB4 HK4 ⊢
 clear hw4
 obtain ⟨⟨r0,r1,r2,r3,r4,r5⟩,x0,x1,x2,x3,x4,x5⟩:=(uh A4).rc
 go_wp2
 refine bodyPost_ret (v:=.tuple #[.agg #[.int .i64 0,.int .i64 0,.int .i64 0,.string ⟨#[]⟩,.slice none 0 0,.slice none 0 0],.nilIface]) (by simp [results,Tryz.results105,go_sem,r0,r1,r2,r3,r4,r5]) rfl ?_
 exact dsay_end (AskIs.clear (uh HO) rfl (by show ¬ (s.stops.length:Int)≤(j:Int);rw [← uh HNS];omega)) (.inl ⟨rfl,rfl,rfl,rfl⟩) (by have:=uh HL4;rw [show (j:Int).toNat=j from Int.toNat_natCast j];exact this) (uh A4) (frs_nil _ _) (VsAt.nil _ _) (uh HB4) (uh HK4) hB
end Go.Proofs.YtmnmeaeicjhkhaaGreatDoor
