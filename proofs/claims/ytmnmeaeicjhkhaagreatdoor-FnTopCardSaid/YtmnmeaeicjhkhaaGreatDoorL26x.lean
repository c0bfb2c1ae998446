import Derived.Test.YtmnmeaeicjhkhaaGreatDoorGNx
import Derived.Test.YtmnmeaeicjhkhaaGreatDoorGNbx
import Derived.Test.YtmnmeaeicjhkhaaGreatDoorGYex
import Derived.Test.YtmnmeaeicjhkhaaGreatDoorGFDbx
import Derived.Test.YtmnmeaeicjhkhaaGreatDoorGUbx
set_option maxRecDepth 100000
set_option maxHeartbeats 16000000
namespace Go.Proofs.YtmnmeaeicjhkhaaGreatDoor
open Go.RowKit Go.Lib
theorem fnTop_any (v v':Value) (len len':Nat) (w:World) (h:qK w v len) (h':qK w v' len') (hg:w.cell? ⟨0,0,none⟩=some (.iface 298 (.agg #[.pointer (some ⟨4,99,none⟩)]))) (htab:Tab w) :
  Calls Tryz.prog 3 #[v,v'] w fun e w'=>e=.returned (.bool true)/\Below w.heap.size w w':=by
 obtain ⟨bs,hbs⟩:=Fun.bytes_fn h
 have H:=O hbs
 have H':=O h'
 have HG:=O hg
 have HTB:=O htab
 obtain ⟨a,cap,rfl,_⟩:=h
 obtain ⟨a',cap',rfl,_⟩:=h'
 clear hg htab hbs
 by_cases hlen:len<=1048576
 ·have hle2:decide ((1048576:Int)<(len:Int))=false:=by simp;omega
  by_cases hlen':len'<=1048576
  ·have hle2':decide ((1048576:Int)<(len':Int))=false:=by simp;omega
   go_enter Tryz.func3,Tryz.ntmps3
   go_wp2_with fail
   refine (Fun.bP8 _ len bs _ (Z H) hlen).mono ?_
   rintro e w1 ⟨⟨v1,v2,n,ms,rfl,hn,hs,hm,hso,hdf⟩,hb1⟩
   obtain ⟨f,hf⟩:∃ f,f=fC ms:=⟨_,rfl⟩
   rw [<- hf] at hm hso
   have HF:=O hf
   have HDF:=O hdf
   have DS:=O hs
   have DM:=O hm
   have DD:=O hso
   obtain ⟨a1,cap1,rfl,_⟩:=hs
   obtain ⟨a2,cap2,rfl,_⟩:=hm
   have hs1:w.heap.size<=w1.heap.size:=hb1.size
   have B1:=O (hb1.trans ((bH w1 (.cells #[.slice a1 4 cap1,.slice a2 n cap2] 26)).mono hs1))
   have X1:=O (heap_alloc_new w1 (.cells #[.slice a1 4 cap1,.slice a2 n cap2] 26))
   have A1:=O (bH w1 (.cells #[.slice a1 4 cap1,.slice a2 n cap2] 26))
   clear hf hdf hso hb1 hle2 hle2'
   go_wp2_with fail
   refine (Fun.bP8 _ len bs _ ((Z H).below (Z B1)) hlen).mono ?_
   rintro e w2 ⟨⟨u1,u2,n2,ms2,rfl,-,hs,hm,-,hdf⟩,hb2⟩
   obtain ⟨rfl,hmo⟩:=(Z HDF).uniq hdf
   rw [<- hmo,<- Z HF] at hm
   have ES:=O hs
   have EM:=O hm
   obtain ⟨e1,ecap1,rfl,_⟩:=hs
   obtain ⟨e2,ecap2,rfl,_⟩:=hm
   have hs2:w1.heap.size<w2.heap.size:=by have:=hb2.size;simp at this;omega
   have A2:=O (bH w2 (.cells #[.slice e1 4 ecap1,.slice e2 n ecap2] 26))
   have T2:Hid (bH9 w w1 w2 (.slice a1 4 cap1) (.slice a2 n cap2) (.slice e1 4 ecap1) (.slice e2 n ecap2) (w2.alloc (.cells #[.slice e1 4 ecap1,.slice e2 n ecap2] 26))):=O
    ⟨((Z B1).trans (hb2.mono (Z B1).size)).trans ((Z A2).mono (by omega)),((Z A1).trans (hb2.mono (Z A1).size)).trans ((Z A2).mono (by omega)),Z A2,((Z A2).block _ (by omega)).trans ((hb2.block _ (by simp)).trans (Z X1)),heap_alloc_new w2 _,hs1,hs2⟩
   have HV:=O (bytes_below (Z H') (Z T2).b0)
   clear hmo hdf hb2 B1 X1 A1 A2 H H' HDF HF
   obtain ⟨x0,x1,y0,y1⟩:=(Z T2).cells
   go_wp2_with fail
   refine (asks_any w.heap.size _ _ _ len' n f _ (Z HV) hlen' ((Z DM).below (Z T2).b1) hn).mono ?_
   rintro e w3 ⟨⟨av,l,rfl,hl23,hrow,hz⟩,hb3⟩
   have T3:=O ((Z T2).go hb3)
   have HROW:=O hrow
   have HZ:=O hz
   obtain ⟨aa,ac,rfl⟩:=bR hrow
   obtain ⟨na,hna⟩:∃ na,na=l.length:=⟨_,rfl⟩
   rw [<- hna] at hl23 HROW ⊢
   have HAK:Hid (bH6 (w2.heap.size+1) w3 (.slice aa na ac) na (fun i=>l.getD i Ak.nul)):=O (by
    have:=aks_of_row (B:=w2.heap.size+1) (w:=w3) (v:=.slice aa na ac) (l:=l) (by rw [<- hna];simpa using Z HROW) (by omega) (Z HZ)
    rw [<- hna] at this
    exact this)
   clear hrow hz hb3 hna HROW HZ HV T2 x0 x1 y0 y1
   generalize (fun i=>l.getD i Ak.nul)=A at HAK
   obtain ⟨x0,x1,y0,y1⟩:=(Z T3).cells
   go_wp2_with fail
   refine (specLook_any _ _ _ _ _ 4 gA n f na A _ ((Z ES).below (Z T3).b2) ((Z EM).below (Z T3).b2) (Z HAK)).mono ?_
   rintro e w4 ⟨⟨vw,tw,rfl,haw,htw⟩,hb4⟩
   have T4:=O ((Z T3).go hb4)
   have HAW:=O haw
   have HTW:=O htw
   obtain ⟨wa,wcp,rfl⟩:=bR htw.row
   obtain ⟨m,hm⟩:∃ m,m=tw.length:=⟨_,rfl⟩
   rw [<- hm] at HTW ⊢
   have HM:=O hm
   have C4:=O hb4
   have hsz3:=(Z T3).sz
   have hsz4:w3.heap.size<=w4.heap.size:=hb4.size
   clear hm haw htw hb4 T3 x0 x1 y0 y1
   obtain ⟨x0,x1,y0,y1⟩:=(Z T4).cells
   go_wp2_with fail
   refine (zB _ _ _ _ _ 4 gA n f na A _ ((Z DS).below (Z T4).b1) ((Z DM).below (Z T4).b1) ((Z HAK).below (Z C4)) (bG (Z T4).b0 (Z HG))).mono ?_
   rintro e w5 ⟨⟨vg,tg,rfl,hag,htg⟩,hb5⟩
   have T5:=O ((Z T4).go hb5)
   have HEQ:=O (hag.uniq (Z HAW))
   have HSH:=O hag.short
   have HLE:=O hag.le
   have hlg:tg.length=m:=by rw [Z HM];have:=congrArg List.length (Z HEQ);simpa using this
   have HTG:=O htg
   obtain ⟨ga,gcp,rfl⟩:=bR htg.row
   rw [hlg] at HTG ⊢
   have HLG:=O hlg
   have C5:=O ((Z C4).trans (hb5.mono hsz4))
   have D5:=O hb5
   clear hb5 hag htg hlg T4 x0 x1 y0 y1
   obtain ⟨x0,x1,y0,y1⟩:=(Z T5).cells
   have BD:=O ((Below.refl w5.heap.size w5).drew)
   have TD:=O ((Z T5).go (Z BD))
   have hmb:m<=500:=by have:=Z HLE;have:=Z HLG;omega
   go_wp2_with fail
   go_region_held3 (fun w'=>w'.cell? ⟨w1.heap.size,0,none⟩=some (.slice a1 4 cap1)/\w'.cell? ⟨w1.heap.size,1,none⟩=some (.slice a2 n cap2)/\w'.cell? ⟨w2.heap.size,0,none⟩=some (.slice e1 4 ecap1)/\w'.cell? ⟨w2.heap.size,1,none⟩=some (.slice e2 n ecap2))
    (first | (exact (Z TD).cells) | (exact ((Z TD).go hbA).cells) | (exact (((Z TD).go hbA).go hbB).cells) | (exact ((((Z TD).go hbA).go hbB).go hbC).cells) | (exact (((((Z TD).go hbA).go hbB).go hbC).go hbD).cells))
    ((first | (go_at_call 12;refine (bQ7 _ _ _ _ tg tw _ ((Z HTG).below (Z BD)) ((Z HTW).below ((Z D5).trans ((Z BD).mono (Z D5).size))) (Z HEQ) (Z HLE) (Z HSH)).mono ?_;rintro e wA ⟨rfl,hbA⟩) | (go_at_call 13;refine (bK9 _ _ _ 4 gA n f _ ((Z DS).below ((Z TD).go hbA).b1) ((Z DM).below ((Z TD).go hbA).b1) (pN (Z HTB) ((Z TD).go hbA).b0)).mono ?_;rintro e wB ⟨⟨s,rfl,hr1⟩,hbB⟩) | (go_at_call 14;refine (bK8 _ _ _ 4 gA n f _ ((Z ES).below (((Z TD).go hbA).go hbB).b2) ((Z EM).below (((Z TD).go hbA).go hbB).b2)).mono ?_;rintro e wC ⟨⟨s',rfl,hr2⟩,hbC⟩;obtain rfl:=hr2.unique hr1;have hss:(s'.toList == s'.toList)=true:=by simp) | (go_at_call 15;refine (bJ0 _ _ _ _ _ _ 4 gA n f _ ((Z DS).below ((((Z TD).go hbA).go hbB).go hbC).b1) ((Z DM).below ((((Z TD).go hbA).go hbB).go hbC).b1) ((Z ES).below ((((Z TD).go hbA).go hbB).go hbC).b2) ((Z EM).below ((((Z TD).go hbA).go hbB).go hbC).b2)).mono ?_;rintro e wD ⟨rfl,hbD⟩)))
   have sA:w5.heap.size<=wA.heap.size:=hbA.size
   have sB:wA.heap.size<=wB.heap.size:=hbB.size
   have sC:wB.heap.size<=wC.heap.size:=hbC.size
   have sD:wC.heap.size<=wD.heap.size:=hbD.size
   have hb6:Below w5.heap.size w5 wD:=(Z BD).trans ((hbA.mono (Nat.le_refl _)).trans ((hbB.mono sA).trans ((hbC.mono (by omega)).trans (hbD.mono (by omega)))))
   have T6:=O ((Z T5).go hb6)
   have hsz5:w4.heap.size<=w5.heap.size:=(Z D5).size
   have C6:=O ((Z C5).trans (hb6.mono (by omega)))
   have D6:=O ((Z D5).trans (hb6.mono hsz5))
   have G6:=O ((Z HTG).below hb6)
   clear hbA hbB hbC hbD hb6 sA sB sC sD hr1 hr2 hss T5 TD BD C5 D5 HTG HEQ x0 x1 y0 y1
   go_wp2
   go_loopw [10,53] (fun _ iv wr=>∃ (i:Nat) (l':List Tl),i<=m/\iv=.int .i64 i/\dM w4.heap.size wr (.slice ga m gcp) l'/\l'.map shp=tg.map shp/\Below w4.heap.size wD wr) (fun _ iv _=>m - (intOf iv).toNat)
   case atStart=>exact ⟨0,tg,by omega,rfl,Z G6,rfl,Below.refl _ _⟩
   case round =>
    obtain ⟨i,l',hi,rfl,htd,hsh,hb⟩:=hrel
    have HTD:=O htd
    have HSP:=O hsh
    have HBR:=O hb
    by_cases hlt:i<m
    ·obtain ⟨z,hz⟩:∃ z,tg[i]?=some z:=⟨_,List.getElem?_eq_getElem (by rw [Z HLG];exact hlt)⟩
     have hlm:l'.length=m:=by rw [shp_len hsh];exact Z HLG
     obtain ⟨gg,hgg⟩:∃ gg,ga=some ⟨gg,0,none⟩:=by
      rcases htd.row.2 with ⟨_,h0⟩ | ⟨g,cap,cur,hv,_⟩
      ·rw [hlm] at h0;omega
      cases hv;exact ⟨g,rfl⟩
     subst hgg
     obtain ⟨x,hx,h5,h6,l5,l6⟩:=tds_at htd hsh hz
     obtain ⟨a6,c6,k6⟩:=bR (htd.vs x (List.mem_iff_getElem?.2 ⟨i,hx⟩)).row
     obtain ⟨a5,c5,k5⟩:=bR (htd.fr x (List.mem_iff_getElem?.2 ⟨i,hx⟩))
     have r6:=(zR htd hlm hx).2
     rw [k6,l6] at r6
     rw [h6,l6] at k6
     rw [h5,l5] at k5
     obtain ⟨n6,hn6⟩:∃ n6,n6=z.d.vs.length:=⟨_,rfl⟩
     obtain ⟨n5,hn5⟩:∃ n5,n5=z.d.fr.length:=⟨_,rfl⟩
     obtain ⟨q5,q6⟩:=Z HSH z (List.mem_iff_getElem?.2 ⟨i,hz⟩)
     rw [<- hn6] at r6 k6 q6
     rw [<- hn5] at k5 q5
     have K6:=O k6
     have K5:=O k5
     have HN6:=O hn6
     have HN5:=O hn5
     have HZ:=O hz
     have hi1:(0:Int)<=(i:Int):=by omega
     have hi2:(i:Int)<(m:Int):=by omega
     clear hz htd hsh hb hlm hx h5 h6 l5 l6 k5 k6 hn5 hn6 HG HTB DS DM ES EM HAK HAW HTW HSH HLE T6 C6 D6 G6
     go_wp2
     go_loopw [11,62] (fun _ kv wx=>∃ (k:Nat) (l2:List Tl),k<=n6/\kv=.int .i64 k/\dM w4.heap.size wx (.slice (some ⟨gg,0,none⟩) m gcp) l2/\l2.map shp=tg.map shp/\Below w4.heap.size wD wx) (fun _ kv _=>n6 - (intOf kv).toNat)
     case atStart=>exact ⟨0,l',by omega,rfl,Z HTD,Z HSP,Z HBR⟩
     case round =>
      clear HTD HSP HBR r6
      obtain ⟨k,l2,hk,rfl,htd,hsh,hb⟩:=hrel
      have hlm:l2.length=m:=by rw [shp_len hsh];exact Z HLG
      obtain ⟨x,hx,h5,h6,l5,l6⟩:=tds_at htd hsh (Z HZ)
      obtain ⟨r5,r6⟩:=zR htd hlm hx
      rw [h5,Z K5] at r5
      rw [h6,Z K6] at r6
      have HTD:=O htd
      have HSP:=O hsh
      have HBR:=O hb
      by_cases hk2:k<n6
      ·have hv6:=htd.vs x (List.mem_iff_getElem?.2 ⟨i,hx⟩)
       obtain ⟨g6,hg6⟩:∃ g6,a6=some ⟨g6,0,none⟩:=by
        have hr:=hv6.row
        rw [h6,Z K6] at hr
        rcases hr.2 with ⟨_,h0⟩ | ⟨g,cap,cur,hv,_⟩
        ·rw [l6,<- Z HN6] at h0;omega
        cases hv;exact ⟨g,rfl⟩
       subst hg6
       obtain ⟨⟨hBg,⟨u0,cu0⟩,fu0,⟨u1,cu1⟩,fu1⟩,y,hy,hty⟩:=over_vs htd hx (h6.trans (Z K6)) (by rw [l6];exact Z HN6) hk2 ⟨#[111,118,101,114]⟩ ⟨#[]⟩ (by decide) (by decide)
       have HTY:=O hty
       have HSY:=O ((shp_set hx hy).trans hsh)
       have HBY:=O ((hb.setCell (p:=⟨g6,k*2,none⟩) hBg (.string ⟨#[111,118,101,114]⟩)).setCell (p:=⟨g6,k*2+1,none⟩) hBg (.string ⟨#[]⟩))
       have hk1:(0:Int)<=(k:Int):=by omega
       have hk3:(k:Int)<(n6:Int):=by omega
       clear htd hsh hb hx h5 h6 l5 l6 hv6 hy hty hlm r5 HTD HSP HBR
       go_wp2
       go_roundw
       case rel=>exact ⟨k+1,_,by omega,by go_num,Z HTY,Z HSY,Z HBY⟩
       case measure=>simp [intOf];omega
      clear htd hsh hb hx h5 h6 l5 l6 hlm r6
      go_wp2
      go_loopw [12,80] (fun _ kv wx=>∃ (k:Nat) (l2:List Tl),k<=n5/\kv=.int .i64 k/\dM w4.heap.size wx (.slice (some ⟨gg,0,none⟩) m gcp) l2/\l2.map shp=tg.map shp/\Below w4.heap.size wD wx) (fun _ kv _=>n5 - (intOf kv).toNat)
      case atStart=>exact ⟨0,l2,by omega,rfl,Z HTD,Z HSP,Z HBR⟩
      case round =>
       clear HTD HSP HBR r5
       obtain ⟨k,l2,hk,rfl,htd,hsh,hb⟩:=hrel
       have hlm:l2.length=m:=by rw [shp_len hsh];exact Z HLG
       obtain ⟨x,hx,h5,h6,l5,l6⟩:=tds_at htd hsh (Z HZ)
       obtain ⟨r5,r6⟩:=zR htd hlm hx
       rw [h5,Z K5] at r5
       have HTD:=O htd
       have HSP:=O hsh
       have HBR:=O hb
       by_cases hk2:k<n5
       ·have hv5:=htd.fr x (List.mem_iff_getElem?.2 ⟨i,hx⟩)
        obtain ⟨g5,hg5⟩:∃ g5,a5=some ⟨g5,0,none⟩:=by
         have hr:=hv5
         unfold eA at hr
         rw [h5,Z K5] at hr
         rcases hr.2 with ⟨_,h0⟩ | ⟨g,cap,cur,hv,_⟩
         ·rw [l5,<- Z HN5] at h0;omega
         cases hv;exact ⟨g,rfl⟩
        subst hg5
        obtain ⟨⟨hBg,⟨u0,cu0⟩,fu0,⟨u1,cu1⟩,fu1,⟨u2,cu2⟩,fu2⟩,y,hy,hty⟩:=over_fr htd hx (h5.trans (Z K5)) (by rw [l5];exact Z HN5) hk2 ⟨77,0,0⟩
        have HTY:=O hty
        have HSY:=O ((shp_set hx hy).trans hsh)
        have HBY:=O (((hb.setCell (p:=⟨g5,k*3,none⟩) hBg (.int .i64 77)).setCell (p:=⟨g5,k*3+1,none⟩) hBg (.int .i64 0)).setCell (p:=⟨g5,k*3+2,none⟩) hBg (.int .i64 0))
        have hk1:(0:Int)<=(k:Int):=by omega
        have hk3:(k:Int)<(n5:Int):=by omega
        clear htd hsh hb hx h5 h6 l5 l6 hv5 hy hty hlm r6 HTD HSP HBR
        go_wp2
        go_roundw
        case rel=>exact ⟨k+1,_,by omega,by go_num,Z HTY,Z HSY,Z HBY⟩
        case measure=>simp [intOf];omega
       clear htd hsh hb hx h5 h6 l5 l6 hlm r5 r6
       go_wp2
       go_roundw
       case rel=>exact ⟨i+1,l2,by omega,by go_num,Z HTD,Z HSP,Z HBR⟩
       case measure=>simp [intOf];omega
    have T7:=O ((Z T6).goAt hb (by omega))
    have C7:=O ((Z C6).trans (hb.mono hsz4))
    have D7:=O ((Z D6).trans hb)
    clear htd hsh hb HTD HSP HBR T6 C6 D6 G6 HSH HLE HLG
    obtain ⟨x0,x1,y0,y1⟩:=(Z T7).cells
    go_wp2_with fail
    refine (zB _ _ _ _ _ 4 gA n f na A _ ((Z DS).below (Z T7).b1) ((Z DM).below (Z T7).b1) ((Z HAK).below (Z C7)) (bG (Z T7).b0 (Z HG))).mono ?_
    rintro e w8 ⟨⟨vh,th,rfl,hah,hth⟩,hb8⟩
    have T8:=O ((Z T7).go hb8)
    have D8:=hT D7 hb8
    have HEQ:=O (hah.uniq (Z HAW))
    have HSH:=O hah.short
    have HLE:=O hah.le
    have hlh:th.length=m:=by rw [Z HM];have:=congrArg List.length (Z HEQ);simpa using this
    have HTH:=O hth
    obtain ⟨ha,hcp,rfl⟩:=bR hth.row
    rw [hlh] at HTH ⊢
    clear hah hth hb8 hlh T7 C7 D7 x0 x1 y0 y1
    go_wp2_with fail
    refine (bQ7 _ _ _ _ th tw _ (Z HTH) ((Z HTW).below (Z D8)) (Z HEQ) (Z HLE) (Z HSH)).mono ?_
    rintro e w9 ⟨rfl,hb9⟩
    have T9:=O ((Z T8).go hb9)
    clear hb9 T8 D8
    obtain ⟨x0,x1,y0,y1⟩:=(Z T9).cells
    go_wp2_with fail
    refine (bJ0 _ _ _ _ _ _ 4 gA n f _ ((Z DS).below (Z T9).b1) ((Z DM).below (Z T9).b1) ((Z ES).below (Z T9).b2) ((Z EM).below (Z T9).b2)).mono ?_
    rintro e w10 ⟨rfl,hb10⟩
    have T10:=O ((Z T9).go hb10)
    clear hb10 T9 x0 x1 y0 y1
    go_wp2
    go_ret
    exact ⟨rfl,(Z T10).b0⟩
  have hlt:¬ (len':Int)<=1048576:=by omega
  have hle2':decide ((1048576:Int)<(len':Int))=true:=by simp;omega
  go_enter Tryz.func3,Tryz.ntmps3
  go_wp2
  go_ret
  exact ⟨rfl,Below.refl _ _⟩
 have hle2:decide ((1048576:Int)<(len:Int))=true:=by simp;omega
 go_enter Tryz.func3,Tryz.ntmps3
 go_wp2
 go_ret
 exact ⟨rfl,Below.refl _ _⟩
end Go.Proofs.YtmnmeaeicjhkhaaGreatDoor
