import Derived.Test.YtmnmeaeicjhkhaaGreatDoorGYez
import Derived.Test.YtmnmeaeicjhkhaaGreatDoorGZaz
import Derived.Test.YtmnmeaeicjhkhaaGreatDoorGZbz
set_option maxRecDepth 100000
set_option maxHeartbeats 16000000
namespace Go.Proofs.YtmnmeaeicjhkhaaGreatDoor
open Go.RowKit
theorem LawBox.gox {w w' w'':World} {v1 v2:Value} {B:Nat} (h:LawBox w v1 v2 w') (hb:Below B w' w'') (hB:w.heap.size + 1≤B):LawBox w v1 v2 w'':=Below.trans h (hb.mono hB)
theorem tds_slice {B:Nat} {w:World} {v:Value} {ts:List Tl} (h:TdsAt B w v ts):∃ a cap,v=.slice a ts.length cap:=owns_slice h.row
theorem exactLook_any (lo la:Nat) (v1 v2 av:Value) (nf:Nat) (fns:Nat→ByteArray) (n:Nat) (f:Nat→M) (na:Nat) (A:Nat→Ak) (w:World) (h1:StrsAt lo w v1 nf fns) (h2:MomsAt lo w v2 n f) (h3:AksAt la w av na A) (hg:w.cell? ⟨0,0,none⟩=some (.iface 298 (.agg #[.pointer (some ⟨4,99,none⟩)]))) :
  Calls Tryz.prog 6 #[.agg #[v1,v2],av] w fun e w'=>e=.returned (.bool true)∧Below w.heap.size w w':=by
 have H1:=hide h1;clear h1
 have H2:=hide h2;clear h2
 have H3:=hide h3
 have HG:=hide hg;clear hg
 obtain ⟨aa,ac,rfl,-⟩:=h3
 have T0:Hid (LawBox w v1 v2 (w.alloc (.cells #[v1,v2] 59))):=hide (Below.refl _ _)
 go_enter Tryz.func6,Tryz.ntmps6
 go_wp2_with fail
 refine (szTrace_any lo _ _ nf fns n f _ _ ((uh H1).below (uh T0).below) ((uh H2).below (uh T0).below) (by omega) (by omega)).mono ?_
 rintro e w1 ⟨⟨r,rfl,hr1,hr2⟩,hb1⟩
 have T1:=hide ((uh T0).go hb1);clear hb1 T0
 by_cases hr:r < 0
 ·clear hr2
  go_wp2
  go_ret
  exact ⟨rfl,(uh T1).below⟩
 obtain ⟨hnf,hn,hnv⟩:=hr2 (by omega)
 have HNV:=hide hnv
 have hnf':nf≤1048576:=by omega
 have hn':n≤1048576:=by omega
 clear hr2 hnv hnf hn
 go_wp2_with fail
 refine (szAskS_any la _ na A _ _ ((uh H3).below (uh T1).below) (by omega) (by omega)).mono ?_
 rintro e w1b ⟨⟨rb,rfl,hrb1,hrb2⟩,hb1⟩
 have T1b:=hide ((uh T1).go hb1);clear hb1 T1
 by_cases hrb:rb < 0
 ·clear hrb2
  go_wp2
  go_ret
  exact ⟨rfl,(uh T1b).below⟩
 have hna:na≤1048576:=by have:=hrb2 (by omega);omega
 clear hrb2
 have g0:=(uh T1b).b0
 have g1:=(uh T1b).b1
 go_wp2_with fail
 refine (toTrace_any lo _ _ nf fns n f _ ((uh H1).below (uh T1b).below) ((uh H2).below (uh T1b).below) hnf' hn' (uh HNV)).mono ?_
 rintro e w2 ⟨⟨s1,s2,rfl,hs1,hs2⟩,hb2⟩
 have T2:=hide ((uh T1b).go hb2);clear hb2 T1b g0 g1
 have HS1:=hide hs1
 have HS2:=hide hs2
 clear hs1 hs2
 go_wp2_with fail
 refine (toAskS_any la _ na A _ ((uh H3).below (uh T2).below) hna).mono ?_
 rintro e w2b ⟨⟨sa,rfl,hsa⟩,hb2⟩
 have T2b:=hide ((uh T2).go hb2)
 have HS1b:=hide ((uh HS1).below hb2)
 have HS2b:=hide ((uh HS2).below hb2)
 have HSA:=hide hsa
 clear hb2 hsa T2 HS1 HS2
 go_wp2_with fail
 refine (specLook_any _ _ _ _ _ nf fns n f na A _ (uh HS1b) (uh HS2b) (uh HSA)).mono ?_
 rintro e w3 ⟨⟨vw,tw,rfl,haw,htw⟩,hb3⟩
 have T3:=hide ((uh T2b).go hb3)
 have HAW:=hide haw
 have HTW:=hide htw
 obtain ⟨wa,wc,rfl⟩:=tds_slice htw
 obtain ⟨m,hm⟩:∃ m,m=tw.length:=⟨_,rfl⟩
 rw [← hm] at HTW ⊢
 have HM:=hide hm
 clear hm
 clear haw htw hb3 T2b HS1b HS2b HSA
 have g0:=(uh T3).b0
 have g1:=(uh T3).b1
 have HL3:=hide (uh T3).size
 go_wp2_with fail
 refine (toTrace_any lo _ _ nf fns n f _ ((uh H1).below (uh T3).below) ((uh H2).below (uh T3).below) hnf' hn' (uh HNV)).mono ?_
 rintro e w4 ⟨⟨x1,x2,rfl,hx1,hx2⟩,hb4⟩
 have HK1:=hide (hx1.marks (by have:=uh HL3;omega))
 have HK2:=hide (hx2.marks (by have:=uh HL3;omega) (uh HNV))
 have BA:=hide (below_alloc w4 (.cells #[x1,x2] 26))
 have T4:=hide (((uh T3).go hb4).go (uh BA))
 have C4:=hide (hb4.trans ((uh BA).mono hb4.size))
 have HX1:=hide (hx1.below (uh BA))
 have HX2:=hide (hx2.below (uh BA))
 obtain ⟨ax1,cx1,rfl,-⟩:=hx1
 obtain ⟨ax2,cx2,rfl,-⟩:=hx2
 have x0:(w4.alloc (.cells #[.slice ax1 nf cx1,.slice ax2 n cx2] 26)).cell? ⟨w4.heap.size,0,none⟩=some (.slice ax1 nf cx1):=by rw [cell_alloc_at _ _ _ _ _ rfl];rfl
 have x1:(w4.alloc (.cells #[.slice ax1 nf cx1,.slice ax2 n cx2] 26)).cell? ⟨w4.heap.size,1,none⟩=some (.slice ax2 n cx2):=by rw [cell_alloc_at _ _ _ _ _ rfl];rfl
 have X4:=hide (And.intro x0 x1)
 have hl4:w3.heap.size≤w4.heap.size:=hb4.size
 clear x0 x1 hb4 T3 g0 g1
 go_wp2_with fail
 refine (toAskS_any la _ na A _ ((uh H3).below (uh T4).below) hna).mono ?_
 rintro e w5 ⟨⟨xa,rfl,hxa⟩,hb5⟩
 have hl5:w4.heap.size + 1≤w5.heap.size:=by have:=hb5.size;simpa using this
 have HKA:=hide ((hxa.marks (by simp)).wide (lo':=w3.heap.size) (hi':=w5.heap.size) (by simp;omega) (Nat.le_refl _))
 have HXA:=hide hxa
 obtain ⟨axa,cxa,rfl,-⟩:=hxa
 have T5:=hide ((uh T4).go hb5)
 have C5:=hide ((uh C4).trans (hb5.mono (by simp;omega)))
 have D5:=hide ((uh BA).trans (hb5.mono (by simp)))
 have X5:=And.intro (cell_below hb5 (uh X4).1) (cell_below hb5 (uh X4).2)
 have HY1:=hide ((uh HX1).below hb5)
 have HY2:=hide ((uh HX2).below hb5)
 obtain ⟨x0,x1⟩:=X5
 have X5:=hide (And.intro x0 x1)
 clear hb5 T4 C4 BA X4 HX1 HX2
 go_wp2_with fail
 refine (implLook_any _ _ _ _ _ nf fns n f na A _ (uh HY1) (uh HY2) (uh HXA) (cell_below (uh T5).below (uh HG))).mono ?_
 rintro e w6 ⟨⟨vg,tg,rfl,hag,htg⟩,hb6⟩
 have HEQ:=hide (hag.uniq (uh HAW))
 have HSH:=hide hag.short
 have HLE:=hide hag.le
 have hlen:tg.length=m:=by rw [uh HM];have:=congrArg List.length (uh HEQ);simpa using this
 have HTG:=hide htg
 obtain ⟨ga,gc,rfl⟩:=tds_slice htg
 rw [hlen] at HTG ⊢
 have T6:=hide ((uh T5).go hb6)
 have C6:=hide ((uh C5).trans (hb6.mono (by omega)))
 have D6:=hide ((uh D5).trans (hb6.mono (by omega)))
 have E6:=hide hb6
 have X6:=hide (And.intro (cell_below hb6 (uh X5).1) (cell_below hb6 (uh X5).2))
 have HZ1:=hide ((uh HY1).below hb6)
 have HZ2:=hide ((uh HY2).below hb6)
 have HZA:=hide ((uh HXA).below hb6)
 have hl6:w5.heap.size≤w6.heap.size:=hb6.size
 clear hb6 hag htg hlen T5 C5 D5 X5 HY1 HY2 HXA x0 x1
 go_wp2_with fail
 refine (eqToldS_any _ _ _ _ _ _ _ (uh HTG) ((uh HTW).below (uh C6)) (uh HEQ) (uh HLE) (uh HSH)).mono ?_
 rintro e w7 ⟨rfl,hb7⟩
 have T7:=hide ((uh T6).go hb7)
 have C7:=hide ((uh C6).trans (hb7.mono (by omega)))
 have D7:=hide ((uh D6).trans (hb7.mono (by omega)))
 have E7:=hide ((uh E6).trans (hb7.mono (by omega)))
 have x0:=cell_below hb7 (uh X6).1
 have x1:=cell_below hb7 (uh X6).2
 have HY1:=hide ((uh HZ1).below hb7)
 have HY2:=hide ((uh HZ2).below hb7)
 have HYA:=hide ((uh HZA).below hb7)
 have G7:=hide ((uh HTG).below hb7)
 have g0:=(uh T7).b0
 have g1:=(uh T7).b1
 have BD:=hide ((Below.refl w7.heap.size w7).drew)
 have hl7:w6.heap.size≤w7.heap.size:=hb7.size
 clear hb7 T6 C6 D6 E6 X6 HZ1 HZ2 HZA HTG
 go_wp2_with fail
 go_region_held3 (fun w'=>w'.cell? ⟨w4.heap.size,0,none⟩=some (.slice ax1 nf cx1)∧w'.cell? ⟨w4.heap.size,1,none⟩=some (.slice ax2 n cx2)∧w'.cell? ⟨w.heap.size,0,none⟩=some v1∧w'.cell? ⟨w.heap.size,1,none⟩=some v2)
  (first | (exact ⟨x0,x1,g0,g1⟩) | (exact ⟨cell_below hbA x0,cell_below hbA x1,cell_below hbA g0,cell_below hbA g1⟩) | (exact ⟨cell_below hbB (cell_below hbA x0),cell_below hbB (cell_below hbA x1),cell_below hbB (cell_below hbA g0),cell_below hbB (cell_below hbA g1)⟩))
  ((first | (go_at_call 25;refine (toTrace_any lo _ _ nf fns n f _ ((uh H1).below (by exact ((uh T7).go (uh BD)).below)) ((uh H2).below (by exact ((uh T7).go (uh BD)).below)) hnf' hn' (uh HNV)).mono ?_;rintro e wA ⟨⟨y1,y2,rfl,hy1,hy2⟩,hbA⟩) | (go_at_call 28;refine (eqTrace_any _ _ _ _ _ _ nf fns n f _ (((uh HY1).below (uh BD)).below hbA) (((uh HY2).below (uh BD)).below hbA) hy1 hy2).mono ?_;rintro e wB ⟨rfl,hbB⟩)))
 have BB:Hid (Below w7.heap.size w7 wB):=hide (((uh BD).trans (hbA.mono (by simp))).trans (hbB.mono (by have:=hbA.size;simpa using this)))
 have TB:=hide ((uh T7).go (uh BB))
 have CB:=hide ((uh C7).trans ((uh BB).mono (by omega)))
 have DB:=hide ((uh D7).trans ((uh BB).mono (by omega)))
 have EB:=hide ((uh E7).trans ((uh BB).mono (by omega)))
 have GB:=hide ((uh G7).below (uh BB))
 have HWA:=hide ((uh HYA).below (uh BB))
 have XB:=hide (And.intro (cell_below (uh BB) x0) (cell_below (uh BB) x1))
 have hlB:w7.heap.size≤wB.heap.size:=(uh BB).size
 clear x0 x1 g0 g1 hbA hbB hy1 hy2 T7 C7 D7 E7 G7 BD HY1 HY2 HYA BB
 go_wp2_with fail
 refine (toAskS_any la _ na A _ ((uh H3).below (uh TB).below) hna).mono ?_
 rintro e wC ⟨⟨ya,rfl,hya⟩,hbC⟩
 have HYA:=hide hya
 have TC:=hide ((uh TB).go hbC)
 have CC:=hide ((uh CB).trans (hbC.mono (by omega)))
 have DC:=hide ((uh DB).trans (hbC.mono (by omega)))
 have EC:=hide ((uh EB).trans (hbC.mono (by omega)))
 have GC:=hide ((uh GB).below hbC)
 have HVA:=hide ((uh HWA).below hbC)
 have XC:=hide (And.intro (cell_below hbC (uh XB).1) (cell_below hbC (uh XB).2))
 have hlC:wB.heap.size≤wC.heap.size:=hbC.size
 obtain ⟨aya,cya,rfl,-⟩:=hya
 clear hbC TB CB DB EB GB HWA XB
 go_wp2_with fail
 refine (eqAskS_any _ _ _ _ na A _ (uh HVA) (uh HYA)).mono ?_
 rintro e wD ⟨rfl,hbD⟩
 have TD:=hide ((uh TC).go hbD)
 have CD:=hide ((uh CC).trans (hbD.mono (by omega)))
 have DD:=hide ((uh DC).trans (hbD.mono (by omega)))
 have ED:=hide ((uh EC).trans (hbD.mono (by omega)))
 have GD:=hide ((uh GC).below hbD)
 have x0:=cell_below hbD (uh XC).1
 have x1:=cell_below hbD (uh XC).2
 have hlD:wC.heap.size≤wD.heap.size:=hbD.size
 clear hbD TC CC DC EC GC HVA HYA XC
 go_wp2_with fail
 refine (markTraceK_any w3.heap.size w4.heap.size _ _ nf n _ ((uh HK1).go (Betw.of_below _ _ (uh DD))) ((uh HK2).go (Betw.of_below _ _ (uh DD))) (by omega) hnf' hn').mono ?_
 rintro e w8 ⟨⟨q,rfl,hq,hq2⟩,hb8'⟩
 have hb8:Betw w3.heap.size w5.heap.size wD w8:=hb8'.wide (Nat.le_refl _) (by omega)
 have L8:=hide (hb8.below (by omega))
 have T8:=hide ((uh TD).gox (uh L8) (uh HL3))
 have C8:=hide ((uh CD).trans (uh L8))
 have G8:=hide ((uh GD).betw hb8 (Nat.le_refl _))
 have HKB:=hide (((uh HKA).go (Betw.of_below _ _ (uh ED))).go hb8)
 have hl8:wD.heap.size≤w8.heap.size:=hb8.size
 clear hb8 hb8' x0 x1 TD CD DD ED GD HK1 HK2 HKA L8
 go_wp2_with fail
 refine (markAskS_any w3.heap.size w5.heap.size _ na _ _ (uh HKB) hna (by omega) (by omega)).mono ?_
 rintro e w8b ⟨⟨q',rfl,hq'⟩,hb8⟩
 have L8:=hide (hb8.below (by omega))
 have T8b:=hide ((uh T8).gox (uh L8) (uh HL3))
 have C8b:=hide ((uh C8).trans (uh L8))
 have G8b:=hide ((uh G8).betw hb8 (Nat.le_refl _))
 have hl8b:w8.heap.size≤w8b.heap.size:=hb8.size
 clear hb8 T8 C8 G8 HKB L8
 have hqd:decide (q' < 0)=false:=by simpa using hq'
 go_wp2_with fail
 refine (eqToldS_any _ _ _ _ _ _ _ (uh G8b) ((uh HTW).below (uh C8b)) (uh HEQ) (uh HLE) (uh HSH)).mono ?_
 rintro e w9 ⟨rfl,hb9⟩
 have T9:=hide ((uh T8b).go hb9)
 have C9:=hide ((uh C8b).trans (hb9.mono (by omega)))
 have G9:=hide ((uh G8b).below hb9)
 have hl9:w8b.heap.size≤w9.heap.size:=hb9.size
 clear hb9 T8b C8b G8b
 go_wp2_with fail
 refine (markToldS_any _ _ tg _ _ (uh G9) (uh HLE) (uh HSH) (by omega) (by omega) (by omega)).mono ?_
 rintro e w10 ⟨rfl,htm,hb10⟩
 have T10:=hide ((uh T9).gox hb10 (by have:=uh HL3;omega))
 have C10:=hide ((uh C9).trans (hb10.mono (by omega)))
 have G10:=hide htm
 have hl10:w9.heap.size≤w10.heap.size:=hb10.size
 obtain ⟨Z,hZ⟩:∃ Z,Z=tsEnd 1 tg:=⟨_,rfl⟩
 have hZ1:1≤Z:=by rw [hZ];exact (tsEnd_le 1 tg (uh HSH)).1
 rw [← hZ]
 have HZ:=hide hZ
 clear hb10 T9 C9 G9 htm hZ
 go_wp2_with fail
 refine (heldToldS_any _ _ tg _ _ (uh G10) (uh HLE) (uh HSH) (by omega) (by omega)).mono ?_
 rintro e w11 ⟨he,hb11⟩
 rw [← uh HZ] at he
 subst he
 have T11:=hide ((uh T10).go hb11)
 have C11:=hide ((uh C10).trans (hb11.mono (by omega)))
 have G11:=hide ((uh G10).below hb11)
 have hl11:w10.heap.size≤w11.heap.size:=hb11.size
 have g0:=(uh T11).b0
 have g1:=(uh T11).b1
 clear hb11 T10 C10 G10
 go_wp2_with fail
 refine (toTrace_any lo _ _ nf fns n f _ ((uh H1).below (uh T11).below) ((uh H2).below (uh T11).below) hnf' hn' (uh HNV)).mono ?_
 rintro e w12 ⟨⟨s1,s2,rfl,hs1,hs2⟩,hb12⟩
 have T12:=hide ((uh T11).go hb12)
 have C12:=hide ((uh C11).trans (hb12.mono (by omega)))
 have G12:=hide ((uh G11).below hb12)
 have hl12:w11.heap.size≤w12.heap.size:=hb12.size
 have HS1:=hide hs1
 have HS2:=hide hs2
 clear hb12 T11 C11 G11 g0 g1 hs1 hs2
 go_wp2_with fail
 refine (toAskS_any la _ na A _ ((uh H3).below (uh T12).below) hna).mono ?_
 rintro e w12b ⟨⟨sa,rfl,hsa⟩,hb12⟩
 have T12b:=hide ((uh T12).go hb12)
 have C12b:=hide ((uh C12).trans (hb12.mono (by omega)))
 have G12b:=hide ((uh G12).below hb12)
 have hl12b:w12.heap.size≤w12b.heap.size:=hb12.size
 have HS1b:=hide ((uh HS1).below hb12)
 have HS2b:=hide ((uh HS2).below hb12)
 have HSA:=hide hsa
 clear hb12 hsa T12 C12 G12 HS1 HS2
 go_wp2_with fail
 refine (implLook_any _ _ _ _ _ nf fns n f na A _ (uh HS1b) (uh HS2b) (uh HSA) (cell_below (uh T12b).below (uh HG))).mono ?_
 rintro e w13 ⟨⟨vh,th,rfl,hah,hth⟩,hb13⟩
 have HEH:=hide (hah.uniq (uh HAW))
 have HSH':=hide hah.short
 have HLE':=hide hah.le
 have HTH:=hide hth
 have hlen:th.length=m:=by rw [uh HM];have:=congrArg List.length (uh HEH);simpa using this
 obtain ⟨ha,hc,rfl⟩:=tds_slice hth
 rw [hlen] at HTH ⊢
 have T13:=hide ((uh T12b).go hb13)
 have C13:=hide ((uh C12b).trans (hb13.mono (by omega)))
 have G13:=hide ((uh G12b).below hb13)
 clear hb13 T12b C12b G12b hah hth hlen HS1b HS2b HSA
 go_wp2_with fail
 refine (eqToldS_any _ _ _ _ _ _ _ (uh HTH) ((uh HTW).below (uh C13)) (uh HEH) (uh HLE') (uh HSH')).mono ?_
 rintro e w14 ⟨rfl,hb14⟩
 have T14:=hide ((uh T13).go hb14)
 have G14:=hide ((uh G13).below hb14)
 clear hb14 T13 C13 G13 HTH
 go_wp2_with fail
 refine (heldToldS_any _ _ tg _ _ (uh G14) (uh HLE) (uh HSH) (by omega) (by omega)).mono ?_
 rintro e w15 ⟨he,hb15⟩
 rw [← uh HZ] at he
 subst he
 have T15:=hide ((uh T14).go hb15)
 clear hb15 T14 G14
 go_wp2
 go_ret
 exact ⟨rfl,(uh T15).below⟩
end Go.Proofs.YtmnmeaeicjhkhaaGreatDoor
