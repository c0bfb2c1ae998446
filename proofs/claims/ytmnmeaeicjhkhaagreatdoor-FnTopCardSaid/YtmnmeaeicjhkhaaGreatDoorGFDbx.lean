import Derived.Test.YtmnmeaeicjhkhaaGreatDoorGFDax
import Derived.Deep.DeepCutAuto
import Derived.Test.YtmnmeaeicjhkhaaGreatDoorGDcx
set_option maxRecDepth 100000
set_option maxHeartbeats 16000000
namespace Go.Proofs.YtmnmeaeicjhkhaaGreatDoor.Fun
open Go.RowKit
attribute [local go_sem ↓] Go.wp_at_zero Go.wp_at_succ
theorem trace_any (K pc len:Nat) (c:Cu) (n:Nat) (w:World) (h:Cur K w pc len c) (hK:K<=w.heap.size) (hn:n<90) (hat:c.at_<=2) :
  Calls Tryz.prog 35 #[.pointer (some ⟨pc,0,none⟩),.int .i64 n] w fun e w'=>(∃ v1 v2 ms,e=.returned (.agg #[v1,v2])/\eE w.heap.size w' v1 4 gA/\bQ w.heap.size w' v2 n (fC ms)/\cB 4 gA n (fC ms)/\ms.length=n/\vS w.heap.size w' v1 v2 4 ms/\∃ c' ws nt,Det len n c c' ms ws nt)/\dY pc (pc+1) w w'/\CurLeft K w' pc len:=by
 have H:=O h
 have hlen:len<=1048576:=h.hl
 have hpcK:pc<K:=h.hk
 clear h
 obtain ⟨i0,hi0,hz0,hz1,hz2⟩:=info_parts info_int
 have II:=O (And.intro hi0 (And.intro hz0 (And.intro hz1 hz2)));clear hi0 hz0 hz1 hz2
 obtain ⟨i1,hi0,hz0,hz1,hz2⟩:=info_parts info_Moment
 have IM:=O (And.intro hi0 (And.intro hz0 (And.intro hz1 hz2)));clear hi0 hz0 hz1 hz2
 go_enter Tryz.func35,Tryz.ntmps35
 go_wp2_with fail
 refine (pA _).mono ?_
 rintro e w1 ⟨⟨ps,rfl,hsp⟩,hb1⟩
 have HM0:Hid (dL w K pc len w.heap.size w1.heap.size ps (w1.alloc (.cells #[] 3)) c St.init [] (.slice (some ⟨w1.heap.size,0,none⟩) 0 0) (.slice none 0 0) []):=O (dL.start (Z H) hK (by simpa using hsp) (by unfold qJ;simpa using hb1))
 obtain ⟨t0,ht0,ht1⟩:=xD c.seed
 have HR0:Hid (vT w K pc len w.heap.size w1.heap.size ps n (n*1180591620717411303424+(len - c.at_)*562949953421312+t0) (w1.alloc (.cells #[] 3)) c St.init [] (.slice (some ⟨w1.heap.size,0,none⟩) 0 0) (.slice none 0 0) [] 1 t0) :=
  O ⟨Z HM0,bG1.nil,zF.init,by simp,by simp,by omega,by simp,ht0,fun _=>ht1,by simp;omega,by simp⟩
 clear hsp hb1 ht0 ht1
 obtain ⟨B2,hB2⟩:∃ B2,B2=w1.heap.size:=⟨_,rfl⟩
 obtain ⟨cI,hcI⟩:∃ cI,cI=c:=⟨_,rfl⟩
 have HCI:=O hcI
 go_wp2_with fail
 go_loopg [7,8] (n*1180591620717411303424+(len - c.at_)*562949953421312+t0) (fun g wv nt wr=>∃ (c:Cu) (s:St) (ms:List Mo) (wa:Option Addr) (wcap:Nat) (mv:Value) (ws:List Int) (ntn t:Nat),wv=.slice wa ws.length wcap/\nt=.int .i64 ntn/\vT w K pc len w.heap.size B2 ps n g wr c s ms wv mv ws ntn t/\Det len n cI c ms ws ntn)
 case atStart=>rw [hB2];exact ⟨c,St.init,[],_,_,_,[],1,t0,rfl,rfl,Z HR0,by rw [hcI];exact Det.start _ _ _⟩
 case round =>
  clear HM0 HR0 H hB2 hK hat
  clear hcI
  obtain ⟨c,s,ms,wa,wcap,mv,ws,ntn,t,rfl,rfl,hr,hdet⟩:=hrel
  have HDET:=O hdet
  clear hdet
  have HR:=O hr
  have HM:=O hr.mem
  obtain ⟨ma,mc,hmv⟩:=bR hr.mem.mom.row
  subst hmv
  have t1:wr.cell? ⟨w.heap.size+1+1,1,none⟩=some (.slice ma ms.length mc):=hr.mem.t1
  have p1:=hr.mem.c1
  have hmn:=hr.msn
  have hBr:B2<=wr.heap.size:=hr.mem.bB
  have HFAR:Hid (∀ b,wr.heap.size<=b->(Value.slice ma ms.length mc).ownBlock≠some b):=O fun b hb e=>by have:=(hr.mem.mom.row.lt b e).2;omega
  have hpB:pc<B2:=by have:=hr.mem.nb;have:=hr.mem.kn;omega
  have hatt:c.at_<4611686018427387000:=by have:=hr.att;have:=hr.t48;omega
  clear hr
  obtain ⟨mn,hmn'⟩:∃ mn,mn=ms.length:=⟨_,rfl⟩
  rw [<- hmn'] at t1 hmn
  have HMN:=O hmn'
  obtain ⟨cu,hcu⟩:∃ cu,cu=s.cur:=⟨_,rfl⟩
  rw [<- hcu] at p1
  have HCU:=O hcu
  obtain ⟨tf,htf⟩:∃ tf,tf=topFn (s.tasks s.cur):=⟨_,rfl⟩
  have HTF:=O htf
  clear hmn' hcu htf
  by_cases hlt:mn<n
  ·have hi1:(mn:Int)<(n:Int):=by omega
   go_wp2_with fail
   go_cut [9] (fun m9 W=>∃ (mb:Nat) (c1:Cu) (vv:Value) (l:List V) (xl:Nat),m9=.pointer (some ⟨mb,0,none⟩)/\dL w K pc len w.heap.size B2 ps W c1 s ms (.slice wa ws.length wcap) (.slice ma ms.length mc) ws/\Bx B2 mb W (.slice ma ms.length mc) vv l 0 cu tf xl ByteArray.empty/\xl<4/\jQ len (2+2*l.length) c c1/\bG4 len c xl l)
   case first =>
    refine wp_region_held_drew (S:=fun W=>W.cell? ⟨ps,1,none⟩=some (.int .i64 cu)) (by kernel_rfl) p1 (fun hHeld=>?_)
    replace HM:=O ((Z HM).below (Below.refl _ _).drew)
    have hszr:wr.heap.size<=wr.drew.heap.size:=Nat.le_refl _
    generalize wr.drew=wd at HM hszr hHeld ⊢
    refine tka 0 19 hHeld ?_
    refine tka 1 20 hHeld ?_
    refine tka 2 21 hHeld ?_
    refine tka 3 22 hHeld ?_
    refine tka 4 23 hHeld ?_
    refine tka 6 25 hHeld ?_
    refine tka 8 27 hHeld ?_
    refine wpAnyH_ready (rs:=[5,11]) (by kernel_rfl) (by simp) ?_
    refine AllReadyH.cons rfl (fun KK hK=>?_) (AllReadyH.cons rfl (fun KK hK=>?_) AllReadyH.nil)
    ·as_aux_lemma =>
      go_simp
      refine (rL (w.heap.size+3) ps s _ (Z HM).spec).mono ?_
      rintro e wf ⟨rfl,q,hq⟩
      have HBf:=O (show Below _ _ wf from by rw [hq];exact bP _ q)
      replace HM:=O ((Z HM).below (Z HBf))
      have hszf:=(Z HBf).size
      rw [<- Z HTF]
      clear hq HBf
      refine hK.out _ _ (by rw [Z HCU];exact (Z HM).c1) (fun hHeld=>?_)
      clear hK KK
      try simp only [Act.put,sy]
      refine wpAnyH_ready (rs:=[7,11]) (by kernel_rfl) (by simp) ?_
      refine AllReadyH.cons rfl (fun KK hK=>?_) (AllReadyH.cons rfl (fun KK hK=>?_) AllReadyH.nil)
      ·as_aux_lemma =>
        go_simp
        refine (bY K pc len c 4 _ (Z HM).cur (by omega) (by omega) (by omega)).mono ?_
        rintro e wp ⟨⟨xp,cp,rfl,hdp,hcp⟩,hbp⟩
        obtain ⟨xl,hxl⟩:∃ xl,xl=xp % 4:=⟨_,rfl⟩
        rw [<- hxl]
        have hx4:xl<4:=by omega
        have hatp:cp.at_<4611686018427387100:=by rw [hdp.at1];omega
        replace HM:=O ((Z HM).draw hbp hcp)
        have HDP:=O hdp
        have hszp:=hbp.size
        have HXL:=O hxl
        clear hbp hcp hdp hxl
        refine hK.out _ _ (by rw [Z HCU];exact (Z HM).c1) (fun hHeld=>?_)
        clear hK KK
        try simp only [Act.put,sy]
        refine wpAnyH_ready (rs:=[9,11]) (by kernel_rfl) (by simp) ?_
        refine AllReadyH.cons rfl (fun KK hK=>?_) (AllReadyH.cons rfl (fun KK hK=>?_) AllReadyH.nil)
        ·as_aux_lemma =>
          go_simp
          refine (yE K pc len cp _ (Z HM).cur (by have:=fT (Z HM).rbx;have:=(Z HM).kn;omega) (by omega)).mono ?_
          rintro e wv ⟨⟨vv,l,cv,rfl,hl3,hov,hdv,hvr,hcv⟩,hbv⟩
          replace HM:=O ((Z HM).draw hbv hcv)
          have HDV:=O ((jQ.refl len c).next (Z HDP) |>.trans hdv)
          have hszv:=hbv.size
          have HOV:=O (hov.low (B':=B2) (by omega))
          obtain ⟨va,vcap,rfl⟩:=bR hov.1
          have HHD:=O (headIs (Z HDP) (Z HXL) hvr)
          clear hbv hcv hdv hov hvr
          refine hK.out _ _ (by rw [Z HCU];exact (Z HM).c1) (fun hHeld=>?_)
          clear hK KK
          try simp only [Act.put,sy]
          refine tka 10 29 hHeld ?_
          refine rdy 11 fun KK hK=>?_
          have HM0:=HM
          have HOV0:=HOV
          go_simp
          have HBa:=O (Z HM).bnew
          have HX:=O ((Z HM).zbox (S0:=wr.heap.size) (by omega))
          have hsza:=Nat.le_trans (show wr.heap.size<=_ by omega) (Z HBa).size
          replace HM:=O ((Z HM).below (Z HBa))
          replace HOV:=O ((Z HOV).below (Z HBa))
          refine hK.out _ _ (by rw [Z HCU];exact (Z HM).c1) (fun hHeld=>?_)
          clear hK KK
          try simp only [Act.put,sy]
          refine rdy 12 fun KK hK=>?_
          have HF:=O ((Z HM0).below (bH _ (.cells #[.int .i64 0,.int .i64 cu,.int .i64 tf,.int .i64 xl,.string ByteArray.empty,.slice va l.length vcap] 108)))
          have HG:Hid (Bx B2 _ _ (.slice ma ms.length mc) (.slice va l.length vcap) l 0 cu tf xl ByteArray.empty):=O ⟨(Z HM0).bB,heap_alloc_new _ _,Z HFAR _ (Z HX).hS,(Z HOV0).below (bH _ (.cells #[.int .i64 0,.int .i64 cu,.int .i64 tf,.int .i64 xl,.string ByteArray.empty,.slice va l.length vcap] 108)),hl3,by decide⟩
          go_simp
          refine hK.out _ _ (by have e:=(Z HF).c1;rw [<- Z HCU] at e;exact e) (fun _=>?_)
          clear hK KK
          refine wpAnyH_done (by kernel_rfl) ?_ _
          go_wp2_with fail
          go_meet
          case rel=>exact ⟨_,cv,_,l,xl,rfl,Z HF,Z HG,hx4,by have:=Z HDV;rw [show 2+2*l.length=0+1+(1+2*l.length) by omega];exact this,Z HHD⟩
        as_aux_lemma =>
         go_simp
         have HBa:=O (Z HM).bnew
         have HX:=O ((Z HM).zbox (S0:=wr.heap.size) (by omega))
         have hsza:=Nat.le_trans (show wr.heap.size<=_ by omega) (Z HBa).size
         replace HM:=O ((Z HM).below (Z HBa))
         refine hK.out _ _ (by rw [Z HCU];exact (Z HM).c1) (fun hHeld=>?_)
         clear hK KK
         try simp only [Act.put,sy]
         refine rdy 9 fun KK hK=>?_
         go_simp
         refine (yE K pc len cp _ (Z HM).cur (by have:=fT (Z HM).rbx;have:=(Z HM).kn;omega) (by omega)).mono ?_
         rintro e wv ⟨⟨vv,l,cv,rfl,hl3,hov,hdv,hvr,hcv⟩,hbv⟩
         replace HM:=O ((Z HM).draw hbv hcv)
         have HDV:=O ((jQ.refl len c).next (Z HDP) |>.trans hdv)
         have hszv:=hbv.size
         have HOV:=O (hov.low (B':=B2) (by omega))
         obtain ⟨va,vcap,rfl⟩:=bR hov.1
         replace HX:=O ((Z HX).draw hbv (by omega))
         have HHD:=O (headIs (Z HDP) (Z HXL) hvr)
         clear hbv hcv hdv hov hvr
         refine hK.out _ _ (by rw [Z HCU];exact (Z HM).c1) (fun hHeld=>?_)
         clear hK KK
         try simp only [Act.put,sy]
         refine tka 10 29 hHeld ?_
         refine rdy 12 fun KK hK=>?_
         have HF:=O ((Z HM).full (Z HX) hBr (Z HFAR _ (Z HX).hS) (Z HOV) hl3 cu tf xl)
         obtain ⟨y0,y1,y2,y3,y4,y5⟩:=(Z HX).cells
         obtain ⟨x0,x1,x2,x3,x4,x5⟩:=(Z HX).fz
         go_simp
         refine hK.out _ _ (by have e:=(Z HF).1.c1;rw [<- Z HCU] at e;exact e) (fun _=>?_)
         clear hK KK
         refine wpAnyH_done (by kernel_rfl) ?_ _
         go_wp2_with fail
         go_meet
         case rel=>exact ⟨_,cv,_,l,xl,rfl,(Z HF).1,(Z HF).2,hx4,by have:=Z HDV;rw [show 2+2*l.length=0+1+(1+2*l.length) by omega];exact this,Z HHD⟩
      as_aux_lemma =>
       go_simp
       have HBa:=O (Z HM).bnew
       have HX:=O ((Z HM).zbox (S0:=wr.heap.size) (by omega))
       have hsza:=Nat.le_trans (show wr.heap.size<=_ by omega) (Z HBa).size
       replace HM:=O ((Z HM).below (Z HBa))
       refine hK.out _ _ (by rw [Z HCU];exact (Z HM).c1) (fun hHeld=>?_)
       clear hK KK
       try simp only [Act.put,sy]
       refine rdy 7 fun KK hK=>?_
       go_simp
       refine (bY K pc len c 4 _ (Z HM).cur (by omega) (by omega) (by omega)).mono ?_
       rintro e wp ⟨⟨xp,cp,rfl,hdp,hcp⟩,hbp⟩
       obtain ⟨xl,hxl⟩:∃ xl,xl=xp % 4:=⟨_,rfl⟩
       rw [<- hxl]
       have hx4:xl<4:=by omega
       have hatp:cp.at_<4611686018427387100:=by rw [hdp.at1];omega
       replace HM:=O ((Z HM).draw hbp hcp)
       have HDP:=O hdp
       have hszp:=hbp.size
       replace HX:=O ((Z HX).draw hbp (by omega))
       have HXL:=O hxl
       clear hbp hcp hdp hxl
       refine hK.out _ _ (by rw [Z HCU];exact (Z HM).c1) (fun hHeld=>?_)
       clear hK KK
       try simp only [Act.put,sy]
       refine rdy 9 fun KK hK=>?_
       go_simp
       refine (yE K pc len cp _ (Z HM).cur (by have:=fT (Z HM).rbx;have:=(Z HM).kn;omega) (by omega)).mono ?_
       rintro e wv ⟨⟨vv,l,cv,rfl,hl3,hov,hdv,hvr,hcv⟩,hbv⟩
       replace HM:=O ((Z HM).draw hbv hcv)
       have HDV:=O ((jQ.refl len c).next (Z HDP) |>.trans hdv)
       have hszv:=hbv.size
       have HOV:=O (hov.low (B':=B2) (by omega))
       obtain ⟨va,vcap,rfl⟩:=bR hov.1
       replace HX:=O ((Z HX).draw hbv (by omega))
       have HHD:=O (headIs (Z HDP) (Z HXL) hvr)
       clear hbv hcv hdv hov hvr
       refine hK.out _ _ (by rw [Z HCU];exact (Z HM).c1) (fun hHeld=>?_)
       clear hK KK
       try simp only [Act.put,sy]
       refine tka 10 29 hHeld ?_
       refine rdy 12 fun KK hK=>?_
       have HF:=O ((Z HM).full (Z HX) hBr (Z HFAR _ (Z HX).hS) (Z HOV) hl3 cu tf xl)
       obtain ⟨y0,y1,y2,y3,y4,y5⟩:=(Z HX).cells
       obtain ⟨x0,x1,x2,x3,x4,x5⟩:=(Z HX).fz
       go_simp
       refine hK.out _ _ (by have e:=(Z HF).1.c1;rw [<- Z HCU] at e;exact e) (fun _=>?_)
       clear hK KK
       refine wpAnyH_done (by kernel_rfl) ?_ _
       go_wp2_with fail
       go_meet
       case rel=>exact ⟨_,cv,_,l,xl,rfl,(Z HF).1,(Z HF).2,hx4,by have:=Z HDV;rw [show 2+2*l.length=0+1+(1+2*l.length) by omega];exact this,Z HHD⟩
    as_aux_lemma =>
     go_simp
     have HBa:=O (Z HM).bnew
     have HX:=O ((Z HM).zbox (S0:=wr.heap.size) (by omega))
     have hsza:=Nat.le_trans (show wr.heap.size<=_ by omega) (Z HBa).size
     replace HM:=O ((Z HM).below (Z HBa))
     refine hK.out _ _ (by rw [Z HCU];exact (Z HM).c1) (fun hHeld=>?_)
     clear hK KK
     try simp only [Act.put,sy]
     refine rdy 5 fun KK hK=>?_
     go_simp
     refine (rL (w.heap.size+3) ps s _ (Z HM).spec).mono ?_
     rintro e wf ⟨rfl,q,hq⟩
     have HBf:=O (show Below _ _ wf from by rw [hq];exact bP _ q)
     replace HM:=O ((Z HM).below (Z HBf))
     have hszf:=(Z HBf).size
     replace HX:=O ((Z HX).below (Z HBf))
     rw [<- Z HTF]
     clear hq HBf
     refine hK.out _ _ (by rw [Z HCU];exact (Z HM).c1) (fun hHeld=>?_)
     clear hK KK
     try simp only [Act.put,sy]
     refine rdy 7 fun KK hK=>?_
     go_simp
     refine (bY K pc len c 4 _ (Z HM).cur (by omega) (by omega) (by omega)).mono ?_
     rintro e wp ⟨⟨xp,cp,rfl,hdp,hcp⟩,hbp⟩
     obtain ⟨xl,hxl⟩:∃ xl,xl=xp % 4:=⟨_,rfl⟩
     rw [<- hxl]
     have hx4:xl<4:=by omega
     have hatp:cp.at_<4611686018427387100:=by rw [hdp.at1];omega
     replace HM:=O ((Z HM).draw hbp hcp)
     have HDP:=O hdp
     have hszp:=hbp.size
     replace HX:=O ((Z HX).draw hbp (by omega))
     have HXL:=O hxl
     clear hbp hcp hdp hxl
     refine hK.out _ _ (by rw [Z HCU];exact (Z HM).c1) (fun hHeld=>?_)
     clear hK KK
     try simp only [Act.put,sy]
     refine rdy 9 fun KK hK=>?_
     go_simp
     refine (yE K pc len cp _ (Z HM).cur (by have:=fT (Z HM).rbx;have:=(Z HM).kn;omega) (by omega)).mono ?_
     rintro e wv ⟨⟨vv,l,cv,rfl,hl3,hov,hdv,hvr,hcv⟩,hbv⟩
     replace HM:=O ((Z HM).draw hbv hcv)
     have HDV:=O ((jQ.refl len c).next (Z HDP) |>.trans hdv)
     have hszv:=hbv.size
     have HOV:=O (hov.low (B':=B2) (by omega))
     obtain ⟨va,vcap,rfl⟩:=bR hov.1
     replace HX:=O ((Z HX).draw hbv (by omega))
     have HHD:=O (headIs (Z HDP) (Z HXL) hvr)
     clear hbv hcv hdv hov hvr
     refine hK.out _ _ (by rw [Z HCU];exact (Z HM).c1) (fun hHeld=>?_)
     clear hK KK
     try simp only [Act.put,sy]
     refine tka 10 29 hHeld ?_
     refine rdy 12 fun KK hK=>?_
     have HF:=O ((Z HM).full (Z HX) hBr (Z HFAR _ (Z HX).hS) (Z HOV) hl3 cu tf xl)
     obtain ⟨y0,y1,y2,y3,y4,y5⟩:=(Z HX).cells
     obtain ⟨x0,x1,x2,x3,x4,x5⟩:=(Z HX).fz
     go_simp
     refine hK.out _ _ (by have e:=(Z HF).1.c1;rw [<- Z HCU] at e;exact e) (fun _=>?_)
     clear hK KK
     refine wpAnyH_done (by kernel_rfl) ?_ _
     go_wp2_with fail
     go_meet
     case rel=>exact ⟨_,cv,_,l,xl,rfl,(Z HF).1,(Z HF).2,hx4,by have:=Z HDV;rw [show 2+2*l.length=0+1+(1+2*l.length) by omega];exact this,Z HHD⟩
   case rest =>
    obtain ⟨mb,c1,vv,l,xl,rfl,hM,hX,hx4,hD,hHD⟩:=hcut
    have HHD:=O hHD
    replace HM:=O hM
    have HX:=O hX
    have HD:=O hD
    have hl3:l.length<=3:=hX.l3
    have hat1:c1.at_<4611686018427387100:=by rw [hD.at1];omega
    clear hM hX hD hHD p1 t1
    apply_assumption
    refine wp_seq_k fun KB hKB=>?_
    go_cut [7,8] (fun wv' nv' W=>Chosen w K pc len B2 ps mb s ms c (.slice wa ws.length wcap) (.slice ma ms.length mc) ws ntn wv' nv' c1 xl cu tf l W)
    case first =>
     go_wp2_with fail
     refine (bY K pc len c1 14 _ (Z HM).cur (by omega) (by omega) (by omega)).mono ?_
     rintro e wp ⟨⟨x,c2,rfl,hd,hc⟩,hb⟩
     obtain ⟨r,hr⟩:∃ r,r=x % 14:=⟨_,rfl⟩
     have HRX:=O hr
     have hr14:r<14:=by omega
     rw [<- hr]
     replace HM:=O ((Z HM).draw hb hc)
     replace HX:=O ((Z HX).draw hb hpB)
     have HD2:=O ((Z HD).next hd)
     have HDX:=O hd
     have hat2:c2.at_<4611686018427387200:=by rw [hd.at1];omega
     have hc2:c.at_<=c2.at_/\c2.at_<=c.at_+9:=by rw [hd.at1,(Z HD).at1];omega
     have HC2:=O hc2
     obtain ⟨q0,q1,q2,q3,q4,q5⟩:=(Z HX).cells
     obtain ⟨z0,z1,z2,z3,z4⟩:=(Z HX).fz
     clear hb hc hd hr hc2
     have wr1:IntKind.i64.wrap ((xl:Int)+1)=xl+1:=by rw [IntKind.wrap_i64];omega
     rcases (show r=0∨r=1∨r=2∨r=3∨r=4∨r=5∨r=6∨r=7∨r=8∨r=9∨r=10∨r=11∨r=12∨r=13 by omega) with rfl | rfl | rfl | rfl | rfl | rfl | rfl | rfl | rfl | rfl | rfl | rfl | rfl | rfl
     ·as_aux_lemma =>
       go_wp2_with fail
       go_meet
       case rel =>
        have h0:=Z HC2
        refine ⟨c2,wa,wcap,ws,ntn,vv,l,1,cu,tf,(xl:Int)+1,ByteArray.empty,⟨rfl,yF (Z HDX) (Z HRX) (by decide)⟩,rfl,rfl,((Z HM).setBox (Z HX)).setBox ((Z HX).kind 1),((Z HX).kind 1).line _,(Z HR).w9,(Z HR).n1,(Z HR).n9,h0.1,by omega,by omega,by omega,.inr ⟨by rw [Z HCU],.inr (.inl ⟨rfl,Z HTF,by omega⟩)⟩⟩
     ·as_aux_lemma =>
       go_wp2_with fail
       go_meet
       case rel =>
        have h0:=Z HC2
        refine ⟨c2,wa,wcap,ws,ntn,vv,l,1,cu,tf,(xl:Int)+1,ByteArray.empty,⟨rfl,yF (Z HDX) (Z HRX) (by decide)⟩,rfl,rfl,((Z HM).setBox (Z HX)).setBox ((Z HX).kind 1),((Z HX).kind 1).line _,(Z HR).w9,(Z HR).n1,(Z HR).n9,h0.1,by omega,by omega,by omega,.inr ⟨by rw [Z HCU],.inr (.inl ⟨rfl,Z HTF,by omega⟩)⟩⟩
     ·as_aux_lemma =>
       go_wp2_with fail
       go_meet
       case rel =>
        have h0:=Z HC2
        refine ⟨c2,wa,wcap,ws,ntn,vv,l,1,cu,tf,(xl:Int)+1,ByteArray.empty,⟨rfl,yF (Z HDX) (Z HRX) (by decide)⟩,rfl,rfl,((Z HM).setBox (Z HX)).setBox ((Z HX).kind 1),((Z HX).kind 1).line _,(Z HR).w9,(Z HR).n1,(Z HR).n9,h0.1,by omega,by omega,by omega,.inr ⟨by rw [Z HCU],.inr (.inl ⟨rfl,Z HTF,by omega⟩)⟩⟩
     ·as_aux_lemma =>
       go_wp2_with fail
       go_meet
       case rel =>
        have h0:=Z HC2
        refine ⟨c2,wa,wcap,ws,ntn,vv,l,1,cu,tf,(xl:Int)+1,ByteArray.empty,⟨rfl,yF (Z HDX) (Z HRX) (by decide)⟩,rfl,rfl,((Z HM).setBox (Z HX)).setBox ((Z HX).kind 1),((Z HX).kind 1).line _,(Z HR).w9,(Z HR).n1,(Z HR).n9,h0.1,by omega,by omega,by omega,.inr ⟨by rw [Z HCU],.inr (.inl ⟨rfl,Z HTF,by omega⟩)⟩⟩
     ·as_aux_lemma =>
       go_wp2_with fail
       go_meet
       case rel =>
        have h0:=Z HC2
        refine ⟨c2,wa,wcap,ws,ntn,vv,l,1,cu,tf,(xl:Int)+1,ByteArray.empty,⟨rfl,yF (Z HDX) (Z HRX) (by decide)⟩,rfl,rfl,((Z HM).setBox (Z HX)).setBox ((Z HX).kind 1),((Z HX).kind 1).line _,(Z HR).w9,(Z HR).n1,(Z HR).n9,h0.1,by omega,by omega,by omega,.inr ⟨by rw [Z HCU],.inr (.inl ⟨rfl,Z HTF,by omega⟩)⟩⟩
     ·as_aux_lemma =>
       go_wp2_with fail
       have HM2:=O ((Z HM).setBox (i:=0) (u:=.int .i64 2) (Z HX))
       have HX2:=O ((Z HX).kind 2)
       refine (bY K pc len c2 4 _ (Z HM2).cur (by omega) (by omega) (by omega)).mono ?_
       rintro e wq ⟨⟨y,c3,rfl,hd,hc⟩,hb⟩
       obtain ⟨ry,hry⟩:∃ ry,ry=y % 4:=⟨_,rfl⟩
       have hry4:ry<4:=by omega
       rw [<- hry]
       replace HM2:=O ((Z HM2).draw hb hc)
       replace HX2:=O ((Z HX2).draw hb hpB)
       have HC3:=O (show c.at_<=c3.at_/\c3.at_<=c.at_+10 by have:=Z HC2;rw [hd.at1];omega)
       clear q0 q1 q2 q3 q4 q5 z0 z1 z2 z3 z4
       obtain ⟨-,-,q2,-,-,-⟩:=(Z HX2).cells
       obtain ⟨-,-,z2,-,-⟩:=(Z HX2).fz
       have HDY:=O hd
       have HRY:=O hry
       clear hb hc hd hry
       go_wp2_with fail
       go_meet
       case rel =>
        have h0:=Z HC3
        refine ⟨c3,wa,wcap,ws,ntn,vv,l,2,cu,ry,xl,ByteArray.empty,⟨rfl,ch_call (Z HDX) (Z HRX) (by decide) (by decide) (Z HDY) (Z HRY)⟩,rfl,rfl,(Z HM2).setBox (Z HX2),(Z HX2).fn _,(Z HR).w9,(Z HR).n1,(Z HR).n9,h0.1,by omega,by omega,by omega,.inr ⟨by rw [Z HCU],.inl ⟨rfl,by omega,by omega⟩⟩⟩
     ·as_aux_lemma =>
       go_wp2_with fail
       have HM2:=O ((Z HM).setBox (i:=0) (u:=.int .i64 2) (Z HX))
       have HX2:=O ((Z HX).kind 2)
       refine (bY K pc len c2 4 _ (Z HM2).cur (by omega) (by omega) (by omega)).mono ?_
       rintro e wq ⟨⟨y,c3,rfl,hd,hc⟩,hb⟩
       obtain ⟨ry,hry⟩:∃ ry,ry=y % 4:=⟨_,rfl⟩
       have hry4:ry<4:=by omega
       rw [<- hry]
       replace HM2:=O ((Z HM2).draw hb hc)
       replace HX2:=O ((Z HX2).draw hb hpB)
       have HC3:=O (show c.at_<=c3.at_/\c3.at_<=c.at_+10 by have:=Z HC2;rw [hd.at1];omega)
       clear q0 q1 q2 q3 q4 q5 z0 z1 z2 z3 z4
       obtain ⟨-,-,q2,-,-,-⟩:=(Z HX2).cells
       obtain ⟨-,-,z2,-,-⟩:=(Z HX2).fz
       have HDY:=O hd
       have HRY:=O hry
       clear hb hc hd hry
       go_wp2_with fail
       go_meet
       case rel =>
        have h0:=Z HC3
        refine ⟨c3,wa,wcap,ws,ntn,vv,l,2,cu,ry,xl,ByteArray.empty,⟨rfl,ch_call (Z HDX) (Z HRX) (by decide) (by decide) (Z HDY) (Z HRY)⟩,rfl,rfl,(Z HM2).setBox (Z HX2),(Z HX2).fn _,(Z HR).w9,(Z HR).n1,(Z HR).n9,h0.1,by omega,by omega,by omega,.inr ⟨by rw [Z HCU],.inl ⟨rfl,by omega,by omega⟩⟩⟩
     ·as_aux_lemma =>
       go_wp2_with fail
       have HM2:=O ((Z HM).setBox (i:=0) (u:=.int .i64 2) (Z HX))
       have HX2:=O ((Z HX).kind 2)
       refine (bY K pc len c2 4 _ (Z HM2).cur (by omega) (by omega) (by omega)).mono ?_
       rintro e wq ⟨⟨y,c3,rfl,hd,hc⟩,hb⟩
       obtain ⟨ry,hry⟩:∃ ry,ry=y % 4:=⟨_,rfl⟩
       have hry4:ry<4:=by omega
       rw [<- hry]
       replace HM2:=O ((Z HM2).draw hb hc)
       replace HX2:=O ((Z HX2).draw hb hpB)
       have HC3:=O (show c.at_<=c3.at_/\c3.at_<=c.at_+10 by have:=Z HC2;rw [hd.at1];omega)
       clear q0 q1 q2 q3 q4 q5 z0 z1 z2 z3 z4
       obtain ⟨-,-,q2,-,-,-⟩:=(Z HX2).cells
       obtain ⟨-,-,z2,-,-⟩:=(Z HX2).fz
       have HDY:=O hd
       have HRY:=O hry
       clear hb hc hd hry
       go_wp2_with fail
       go_meet
       case rel =>
        have h0:=Z HC3
        refine ⟨c3,wa,wcap,ws,ntn,vv,l,2,cu,ry,xl,ByteArray.empty,⟨rfl,ch_call (Z HDX) (Z HRX) (by decide) (by decide) (Z HDY) (Z HRY)⟩,rfl,rfl,(Z HM2).setBox (Z HX2),(Z HX2).fn _,(Z HR).w9,(Z HR).n1,(Z HR).n9,h0.1,by omega,by omega,by omega,.inr ⟨by rw [Z HCU],.inl ⟨rfl,by omega,by omega⟩⟩⟩
     ·as_aux_lemma =>
       go_wp2_with fail
       go_meet
       case rel =>
        have h0:=Z HC2
        refine ⟨c2,wa,wcap,ws,ntn,vv,l,3,cu,tf,xl,ByteArray.empty,⟨rfl,ch_back (Z HDX) (Z HRX) (by decide) (by decide)⟩,rfl,rfl,(Z HM).setBox (Z HX),(Z HX).kind 3,(Z HR).w9,(Z HR).n1,(Z HR).n9,h0.1,by omega,by omega,by omega,.inr ⟨by rw [Z HCU],.inr (.inr (.inl ⟨rfl,Z HTF,rfl,rfl,rfl,2+2*l.length+1,x,by omega,by omega,Z HD2,fun hf=>?_,by have:=Z HRX;omega⟩))⟩⟩
        have:=((Z HDX).far (by have:=(Z HD).at1;omega)).2
        omega
     ·as_aux_lemma =>
       go_wp2_with fail
       go_meet
       case rel =>
        have h0:=Z HC2
        refine ⟨c2,wa,wcap,ws,ntn,vv,l,3,cu,tf,xl,ByteArray.empty,⟨rfl,ch_back (Z HDX) (Z HRX) (by decide) (by decide)⟩,rfl,rfl,(Z HM).setBox (Z HX),(Z HX).kind 3,(Z HR).w9,(Z HR).n1,(Z HR).n9,h0.1,by omega,by omega,by omega,.inr ⟨by rw [Z HCU],.inr (.inr (.inl ⟨rfl,Z HTF,rfl,rfl,rfl,2+2*l.length+1,x,by omega,by omega,Z HD2,fun hf=>?_,by have:=Z HRX;omega⟩))⟩⟩
        have:=((Z HDX).far (by have:=(Z HD).at1;omega)).2
        omega
     ·as_aux_lemma =>
       go_wp2_with fail
       refine (bY K pc len c2 3 _ (Z HM).cur (by omega) (by omega) (by omega)).mono ?_
       rintro e wq ⟨⟨y,c3,rfl,hd,hc⟩,hb⟩
       obtain ⟨ry,hry⟩:∃ ry,ry=y % 3:=⟨_,rfl⟩
       have hry4:ry<3:=by omega
       rw [<- hry]
       have HM2:=O ((Z HM).draw hb hc)
       have HX2:=O ((Z HX).draw hb hpB)
       have HC3:=O (show c.at_<=c3.at_/\c3.at_<=c.at_+10 by have:=Z HC2;rw [hd.at1];omega)
       clear q0 q1 q2 q3 q4 q5 z0 z1 z2 z3 z4
       obtain ⟨q0,-,-,-,q4,-⟩:=(Z HX2).cells
       obtain ⟨z0,-,-,-,z4⟩:=(Z HX2).fz
       have HDY:=O hd
       have HRY:=O hry
       clear hb hc hd hry
       have wr4:IntKind.i64.wrap (4+(ry:Int))=4+ry:=by rw [IntKind.wrap_i64];omega
       go_wp2_with fail
       go_meet
       case rel =>
        have h0:=Z HC3
        refine ⟨c3,wa,wcap,ws,ntn,vv,l,4+(ry:Int),cu,tf,xl,⟨#[55]⟩,⟨rfl,ch_thr (Z HDX) (Z HRX) (Z HDY) (Z HRY)⟩,rfl,rfl,((Z HM2).setBox (Z HX2)).setBox ((Z HX2).kind _),((Z HX2).kind _).text _ (by decide),(Z HR).w9,(Z HR).n1,(Z HR).n9,h0.1,by omega,by omega,by omega,.inr ⟨by rw [Z HCU],.inr (.inr (.inr ⟨by omega,by omega,Z HTF⟩))⟩⟩
     ·as_aux_lemma =>
       go_wp2_with fail
       have HM2:=O (((Z HM).setBox (i:=0) (u:=.int .i64 7) (Z HX)).setBox (i:=2) (u:=.int .i64 0) ((Z HX).kind 7))
       have HX2:=O (((Z HX).kind 7).fn 0)
       refine (bY K pc len c2 2 _ (Z HM2).cur (by omega) (by omega) (by omega)).mono ?_
       rintro e wq ⟨⟨y,c3,rfl,hd,hc⟩,hb⟩
       obtain ⟨ry,hry⟩:∃ ry,ry=y % 2:=⟨_,rfl⟩
       rw [<- hry]
       replace HM2:=O ((Z HM2).draw hb hc)
       replace HX2:=O ((Z HX2).draw hb hpB)
       have hat3:c3.at_<4611686018427387300:=by rw [hd.at1];omega
       have HC3:=O (show c.at_<=c3.at_/\c3.at_<=c.at_+10 by have:=Z HC2;rw [hd.at1];omega)
       clear q0 q1 q2 q3 q4 q5 z0 z1 z2 z3 z4
       obtain ⟨-,q1,-,-,-,-⟩:=(Z HX2).cells
       obtain ⟨-,z1,-,-,-⟩:=(Z HX2).fz
       have p1:=(Z HM2).c1
       rw [<- Z HCU] at p1
       have HDY:=O hd
       have HRY:=O hry
       clear hb hc hd hry
       have hwl:ws.length<ntn:=(Z HR).n1
       have hn9:ntn<=9:=(Z HR).n9
       rcases (show (ry=0/\ntn<9)∨ry≠0∨(ry=0/\ntn=9) by omega) with ⟨rfl,ha⟩ | ha | ⟨rfl,rfl⟩
       ·have hn9i:(ntn:Int)<9:=by omega
        have wr9:IntKind.i64.wrap ((ntn:Int)+1)=ntn+1:=by rw [IntKind.wrap_i64];omega
        have hszq:B2<=wq.heap.size:=(Z HM2).bB
        have HMA:=O ((Z HM2).below (bH wq (.cells #[.int .i64 cu] 3)))
        have HXA:=O ((Z HX2).below (bH wq (.cells #[.int .i64 cu] 3)))
        have HNW:Hid (∀ j u,([.int .i64 cu]:List Value)[j]?=some u->(wq.alloc (.cells #[.int .i64 cu] 3)).cell? ((⟨wq.heap.size,0,none⟩:Addr).add j)=some u) :=
         O (World.news_of_block (cs:=#[.int .i64 cu]) (t:=3) (fr:=(0,0)) (heap_alloc_new wq _))
        go_wp2_with (at_builtin;refine wpList_append_lies _ (by rfl) _ _ _ (by rfl) B2 3 i0 _ 1 8 Tryz.underlying80 (Z II).1 (Z II).2.1 (Z II).2.2.1 (Z II).2.2.2 rfl (by omega) (.slice wa ws.length wcap) ws.length (ws.map (Value.int .i64)) (by rfl) (Z HMA).wai ⟨wq.heap.size,0,none⟩ 1 1 [.int .i64 cu] (by rfl) (by rfl) (Z HNW) (by simp [Value.oneCell']) (by omega) (by unfold maxLen;omega) (by omega) (by simp;omega) (wq.heap.size+1) (by simp) ?_;intro g2 cp2 w7 hown hgrow _ _;have HM7:=O ((Z HMA).waits (ws':=ws ++ [(cu:Int)]) hgrow (by rw [List.length_append,List.map_append];exact hown));have HX7:=O ((Z HXA).waits (Z HMA).wai hgrow);have q7:=(Z HX7).cells.2.1;have z7:=(Z HX7).fz.2.1;clear hown hgrow)
        go_meet
        case rel =>
         have h0:=Z HC3
         refine ⟨c3,_,_,ws ++ [(cu:Int)],ntn+1,vv,l,7,ntn,0,xl,ByteArray.empty,⟨rfl,ch_new (Z HDX) (Z HRX) (Z HDY) (Z HRY) ha⟩,by rw [List.length_append];rfl,by simp,(Z HM7).setBox (Z HX7),(Z HX7).task _,fun x hx=>?_,by rw [List.length_append];simp;omega,by omega,h0.1,by omega,by omega,by omega,.inl ⟨rfl,by omega,by omega,rfl⟩⟩
         rcases List.mem_append.1 hx with hx | hx
         ·exact (Z HR).w9 x hx
         have:=(Z HR).okay.cur9
         rw [List.mem_singleton.1 hx,Z HCU];omega
       ·have hr0:((ry:Int) == 0)=false:=by simpa using ha
        rcases bG2 ws with hws | ⟨r0,xw,hws⟩
        ·have hl0:ws.length=0:=by rw [hws];rfl
         rw [hl0]
         have HL0:=O hl0
         clear hl0
         go_wp2_with fail
         by_cases hnt:ntn<=1
         ·refine (pick_one pc _ _ (by omega)).mono ?_
          rintro e wz ⟨rfl,rfl⟩
          go_wp2_with fail
          go_meet
          case rel =>
           have h0:=Z HC3
           refine ⟨c3,wa,wcap,ws,ntn,vv,l,7,0,0,xl,ByteArray.empty,⟨rfl,ch_one (Z HDX) (Z HRX) (Z HDY) (fun q=>by have:=Z HRY;omega) (List.length_eq_zero_iff.1 (Z HL0)) hnt⟩,by rw [Z HL0],rfl,by rw [<- Z HL0];exact (Z HM2).setBox (Z HX2),(Z HX2).task _,(Z HR).w9,hwl,by omega,h0.1,by omega,by omega,by omega,.inl ⟨rfl,by omega,by omega,rfl⟩⟩
         refine (bY K pc len c3 ntn _ (Z HM2).cur (by omega) (by omega) (by omega)).mono ?_
         rintro e wz ⟨⟨y2,c4,rfl,hd,hc⟩,hb⟩
         obtain ⟨rz,hrz⟩:∃ rz,rz=y2 % ntn:=⟨_,rfl⟩
         have hrz9:rz<9:=by have:=Nat.mod_lt y2 (show 0<ntn by omega);omega
         rw [<- hrz]
         replace HM2:=O ((Z HM2).draw hb hc)
         replace HX2:=O ((Z HX2).draw hb hpB)
         have HC4:=O (show c.at_<=c4.at_/\c4.at_<=c.at_+11 by have:=Z HC3;rw [hd.at1];omega)
         clear q1 z1 p1
         obtain ⟨-,q1,-,-,-,-⟩:=(Z HX2).cells
         obtain ⟨-,z1,-,-,-⟩:=(Z HX2).fz
         have HDZ:=O hd
         have HRZ:=O hrz
         clear hb hc hd hrz
         go_wp2_with fail
         go_meet
         case rel =>
          have h0:=Z HC4
          refine ⟨c4,wa,wcap,ws,ntn,vv,l,7,rz,0,xl,ByteArray.empty,⟨rfl,ch_any (Z HDX) (Z HRX) (Z HDY) (fun q=>by have:=Z HRY;omega) (List.length_eq_zero_iff.1 (Z HL0)) hnt (Z HDZ) (Z HRZ)⟩,by rw [Z HL0],rfl,by rw [<- Z HL0];exact (Z HM2).setBox (Z HX2),(Z HX2).task _,(Z HR).w9,hwl,by omega,h0.1,by omega,by omega,by omega,.inl ⟨rfl,by omega,by omega,rfl⟩⟩
        obtain ⟨g,cap',e,hgB⟩:=bE2 (Z HM2).wai (by rw [hws];simp)
        injection e with e1 e2 e3
        subst e1
        subst e3
        clear e2
        obtain ⟨wn,hwn⟩:∃ wn,wn=r0.length:=⟨_,rfl⟩
        have hlw:ws.length=wn+1:=by rw [hws,hwn];simp
        have kw:=(bL (Z HM2).wai wn (.int .i64 xw) (by rw [hws,hwn];simp)).1
        have hx9:=(Z HR).w9 xw (by rw [hws];simp)
        have hwn9:wn<9:=by omega
        have hcapw:wn+1<=wcap:=by
         have:=(Z HM2).wai
         rw [hlw] at this
         exact owns_cap this
        have HWS:=O hws
        have HWN:=O hwn
        have HLW:=O hlw
        rw [hlw]
        clear hws hwn hlw
        have wrw:IntKind.i64.wrap (((wn+1:Nat):Int) - 1)=wn:=by rw [IntKind.wrap_i64];omega
        have wrw2:IntKind.i64.wrap ((wn:Int)+1 - 1)=wn:=by rw [IntKind.wrap_i64];omega
        have hwi:(0:Int)<(wn:Int)+1:=by omega
        go_wp2_with fail
        go_meet
        case rel =>
         have h0:=Z HC3
         have hM3:=(Z HM2).setBox (i:=1) (u:=.int .i64 xw) (Z HX2)
         rw [Z HLW] at hM3
         have hM4:=hM3
         rw [Z HWS,Z HWN] at hM3
         refine ⟨c3,_,_,r0,ntn,vv,l,7,xw,0,xl,ByteArray.empty,⟨rfl,ch_pop (Z HDX) (Z HRX) (Z HDY) (fun q=>by have:=Z HRY;omega) (Z HWS)⟩,by rw [<- Z HWN],rfl,by have:=hM3.pop;rw [<- Z HWN] at this;exact this,(Z HX2).task _,fun x hx=>(Z HR).w9 x (by rw [Z HWS];simp [hx]),by have:=Z HWN;have:=Z HLW;omega,by omega,h0.1,by omega,by omega,by omega,.inl ⟨rfl,by omega,by omega,rfl⟩⟩
       have h99:decide ((9:Int)<9)=false:=by decide
       rcases bG2 ws with hws | ⟨r0,xw,hws⟩
       ·have hl0:ws.length=0:=by rw [hws];rfl
        rw [hl0]
        have HL0:=O hl0
        clear hl0
        go_wp2_with fail
        by_cases hnt:9<=1
        ·exact absurd hnt (by decide)
        refine (bY K pc len c3 9 _ (Z HM2).cur (by omega) (by omega) (by omega)).mono ?_
        rintro e wz ⟨⟨y2,c4,rfl,hd,hc⟩,hb⟩
        obtain ⟨rz,hrz⟩:∃ rz,rz=y2 % 9:=⟨_,rfl⟩
        have hrz9:rz<9:=by have:=Nat.mod_lt y2 (show 0<9 by omega);omega
        rw [<- hrz]
        replace HM2:=O ((Z HM2).draw hb hc)
        replace HX2:=O ((Z HX2).draw hb hpB)
        have HC4:=O (show c.at_<=c4.at_/\c4.at_<=c.at_+11 by have:=Z HC3;rw [hd.at1];omega)
        clear q1 z1 p1
        obtain ⟨-,q1,-,-,-,-⟩:=(Z HX2).cells
        obtain ⟨-,z1,-,-,-⟩:=(Z HX2).fz
        have HDZ:=O hd
        have HRZ:=O hrz
        clear hb hc hd hrz
        go_wp2_with fail
        go_meet
        case rel =>
         have h0:=Z HC4
         refine ⟨c4,wa,wcap,ws,9,vv,l,7,rz,0,xl,ByteArray.empty,⟨rfl,ch_any (Z HDX) (Z HRX) (Z HDY) (fun q=>by omega) (List.length_eq_zero_iff.1 (Z HL0)) (by decide) (Z HDZ) (Z HRZ)⟩,by rw [Z HL0],rfl,by rw [<- Z HL0];exact (Z HM2).setBox (Z HX2),(Z HX2).task _,(Z HR).w9,hwl,by omega,h0.1,by omega,by omega,by omega,.inl ⟨rfl,by omega,by omega,rfl⟩⟩
       obtain ⟨g,cap',e,hgB⟩:=bE2 (Z HM2).wai (by rw [hws];simp)
       injection e with e1 e2 e3
       subst e1
       subst e3
       clear e2
       obtain ⟨wn,hwn⟩:∃ wn,wn=r0.length:=⟨_,rfl⟩
       have hlw:ws.length=wn+1:=by rw [hws,hwn];simp
       have kw:=(bL (Z HM2).wai wn (.int .i64 xw) (by rw [hws,hwn];simp)).1
       have hx9:=(Z HR).w9 xw (by rw [hws];simp)
       have hwn9:wn<9:=by omega
       have hcapw:wn+1<=wcap:=by
        have:=(Z HM2).wai
        rw [hlw] at this
        exact owns_cap this
       have HWS:=O hws
       have HWN:=O hwn
       have HLW:=O hlw
       rw [hlw]
       clear hws hwn hlw
       have wrw:IntKind.i64.wrap (((wn+1:Nat):Int) - 1)=wn:=by rw [IntKind.wrap_i64];omega
       have wrw2:IntKind.i64.wrap ((wn:Int)+1 - 1)=wn:=by rw [IntKind.wrap_i64];omega
       have hwi:(0:Int)<(wn:Int)+1:=by omega
       go_wp2_with fail
       go_meet
       case rel =>
        have h0:=Z HC3
        have hM3:=(Z HM2).setBox (i:=1) (u:=.int .i64 xw) (Z HX2)
        rw [Z HLW] at hM3
        have hM4:=hM3
        rw [Z HWS,Z HWN] at hM3
        refine ⟨c3,_,_,r0,9,vv,l,7,xw,0,xl,ByteArray.empty,⟨rfl,ch_pop (Z HDX) (Z HRX) (Z HDY) (fun q=>by omega) (Z HWS)⟩,by rw [<- Z HWN],rfl,by have:=hM3.pop;rw [<- Z HWN] at this;exact this,(Z HX2).task _,fun x hx=>(Z HR).w9 x (by rw [Z HWS];simp [hx]),by have:=Z HWN;have:=Z HLW;omega,by omega,h0.1,by omega,by omega,by omega,.inl ⟨rfl,by omega,by omega,rfl⟩⟩
     ·as_aux_lemma =>
       go_wp2_with fail
       have HM2:=O ((Z HM).setBox (i:=0) (u:=.int .i64 1) (Z HX))
       have HX2:=O ((Z HX).kind 1)
       refine (bY K pc len c2 2 _ (Z HM2).cur (by omega) (by omega) (by omega)).mono ?_
       rintro e wq ⟨⟨y,c3,rfl,hd,hc⟩,hb⟩
       obtain ⟨ry,hry⟩:∃ ry,ry=y % 2:=⟨_,rfl⟩
       have hry4:ry<2:=by omega
       rw [<- hry]
       replace HM2:=O ((Z HM2).draw hb hc)
       replace HX2:=O ((Z HX2).draw hb hpB)
       have HC3:=O (show c.at_<=c3.at_/\c3.at_<=c.at_+10 by have:=Z HC2;rw [hd.at1];omega)
       clear q0 q1 q2 q3 q4 q5 z0 z1 z2 z3 z4
       obtain ⟨-,-,-,q3,-,-⟩:=(Z HX2).cells
       obtain ⟨-,-,-,z3,-⟩:=(Z HX2).fz
       have HDY:=O hd
       have HRY:=O hry
       clear hb hc hd hry
       have wr4:IntKind.i64.wrap (1+(ry:Int))=1+ry:=by rw [IntKind.wrap_i64];omega
       go_wp2_with fail
       go_meet
       case rel =>
        have h0:=Z HC3
        refine ⟨c3,wa,wcap,ws,ntn,vv,l,1,cu,tf,1+(ry:Int),ByteArray.empty,⟨rfl,ch_last (Z HDX) (Z HRX) (by decide) (Z HDY) (Z HRY)⟩,rfl,rfl,(Z HM2).setBox (Z HX2),(Z HX2).line _,(Z HR).w9,(Z HR).n1,(Z HR).n9,h0.1,by omega,by omega,by omega,.inr ⟨by rw [Z HCU],.inr (.inl ⟨rfl,Z HTF,by omega⟩)⟩⟩
     as_aux_lemma =>
      go_wp2_with fail
      have HM2:=O ((Z HM).setBox (i:=0) (u:=.int .i64 1) (Z HX))
      have HX2:=O ((Z HX).kind 1)
      refine (bY K pc len c2 2 _ (Z HM2).cur (by omega) (by omega) (by omega)).mono ?_
      rintro e wq ⟨⟨y,c3,rfl,hd,hc⟩,hb⟩
      obtain ⟨ry,hry⟩:∃ ry,ry=y % 2:=⟨_,rfl⟩
      have hry4:ry<2:=by omega
      rw [<- hry]
      replace HM2:=O ((Z HM2).draw hb hc)
      replace HX2:=O ((Z HX2).draw hb hpB)
      have HC3:=O (show c.at_<=c3.at_/\c3.at_<=c.at_+10 by have:=Z HC2;rw [hd.at1];omega)
      clear q0 q1 q2 q3 q4 q5 z0 z1 z2 z3 z4
      obtain ⟨-,-,-,q3,-,-⟩:=(Z HX2).cells
      obtain ⟨-,-,-,z3,-⟩:=(Z HX2).fz
      have HDY:=O hd
      have HRY:=O hry
      clear hb hc hd hry
      have wr4:IntKind.i64.wrap (1+(ry:Int))=1+ry:=by rw [IntKind.wrap_i64];omega
      go_wp2_with fail
      go_meet
      case rel =>
       have h0:=Z HC3
       refine ⟨c3,wa,wcap,ws,ntn,vv,l,1,cu,tf,1+(ry:Int),ByteArray.empty,⟨rfl,ch_last (Z HDX) (Z HRX) (by decide) (Z HDY) (Z HRY)⟩,rfl,rfl,(Z HM2).setBox (Z HX2),(Z HX2).line _,(Z HR).w9,(Z HR).n1,(Z HR).n9,h0.1,by omega,by omega,by omega,.inr ⟨by rw [Z HCU],.inr (.inl ⟨rfl,Z HTF,by omega⟩)⟩⟩
    case rest =>
     obtain ⟨c',wa',wcap',ws',nt',vv',l',k,tk,fn,ln,tx,⟨hll,hch⟩,rfl,rfl,hM,hX,h9,n1,n9,ha1,ha2,hH⟩:=hcut
     subst hll
     have HCH:=O hch
     obtain ⟨QQ,hQQ,hH⟩:∃ QQ:Prop,(QQ->(Value.slice wa' ws'.length wcap'=.slice wa ws.length wcap/\ws'=ws/\nt'=ntn/\∃ d x,1<=d/\d<=9/\jQ len d c c'/\(len<=c.at_->x=c'.seed / 1099511627776 % 256)/\(x % 14=8∨x % 14=9)))/\bD7 s k tk fn ln QQ:=⟨_,id,hH⟩
     have HMb:=O hM
     have HXb:=O hX
     have HH:=O hH
     have HQQ:=O hQQ
     have H9:=O h9
     have HN:=O (And.intro n1 (And.intro n9 (And.intro ha1 ha2)))
     have HDR:=HD
     clear hM hX hH hQQ h9 n1 n9 ha1 ha2 hch HM HX HD
     apply_assumption
     refine wp_seq_k fun KC hKC=>?_
     go_cut [9] (fun m9 W=>m9=.pointer (some ⟨mb,0,none⟩)/\dL w K pc len w.heap.size B2 ps W c' s ms (.slice wa' ws'.length wcap') (.slice ma ms.length mc) ws'/\∃ (kk ff:Int),Bx B2 mb W (.slice ma ms.length mc) vv' l' kk tk ff ln tx/\bD7 s kk tk ff ln QQ/\(kk=1->(s.tasks s.cur).length≠0)/\(kk,ff)=rN s k fn)
     case first =>
      go_wp2_with fail
      refine (fZ (w.heap.size+3) ps s _ (Z HMb).spec).mono ?_
      rintro e wt ⟨rfl,q,hq⟩
      have HBt:=O (show Below _ _ wt from by rw [hq];exact bP _ q)
      clear hq
      replace HMb:=O ((Z HMb).below (Z HBt))
      replace HXb:=O ((Z HXb).below (Z HBt))
      obtain ⟨q0,-,q2,-,-,-⟩:=(Z HXb).cells
      obtain ⟨z0,-,z2,-,-⟩:=(Z HXb).fz
      clear HBt
      obtain ⟨tl,htl⟩:∃ tl,tl=(s.tasks s.cur).length:=⟨_,rfl⟩
      rw [<- htl]
      have HTL:=O htl
      clear htl
      by_cases h0:tl=0
      ·as_aux_lemma =>
       have ht:decide ((tl:Int) - 1<0)=true:=by simp;omega
       have ht2:(tl:Int) - 1<0:=by omega
       by_cases k1:k=1
       ·subst k1
        go_wp2_with fail
        go_meet
        case rel=>exact ⟨rfl,((Z HMb).setBox (Z HXb)).setBox ((Z HXb).kind 2),2,1,((Z HXb).kind 2).fn 1,(Z HH).call,fun e=>by omega,third_yes ((Z HTL).symm.trans h0)⟩
       have hk:(k == 1)=false:=by simpa using k1
       have HK1:=O k1
       clear k1
       go_wp2_with fail
       go_meet
       case rel=>exact ⟨rfl,Z HMb,k,fn,Z HXb,Z HH,fun e=>absurd e (Z HK1),third_no (.inr (Z HK1))⟩
      have ht:decide ((tl:Int) - 1<0)=false:=by simp;omega
      have ht2:¬ ((tl:Int) - 1<0):=by omega
      go_wp2_with fail
      go_meet
      case rel=>exact ⟨rfl,Z HMb,k,fn,Z HXb,Z HH,fun _=>by rw [<- Z HTL];exact h0,third_no (.inl (by rw [<- Z HTL];exact h0))⟩
     case rest =>
      clear HMb HXb HH
      obtain ⟨rfl,hM,k2,fn2,hX,hH,hk1,hth⟩:=hcut
      have HTH:=O hth
      obtain ⟨va,vcap,rfl⟩:=bR hX.vars.1
      have HMb:=O hM
      have HXb:=O hX
      have HH:=O hH
      have HK1:=O hk1
      have hcu9:s.cur<9:=(Z HR).okay.cur9
      have ht9:=hH.task hcu9
      have hdeep:(s.tasks s.cur).length<=mn+1:=by rw [Z HMN];exact (Z HR).okay.deep _
      have hpsB:ps<B2:=hM.psB
      obtain ⟨q0,q1,q2,q3,q4,q5⟩:=hX.cells
      clear hM hX hH hk1 hth
      apply_assumption
      refine wp_seq_k fun KD hKD=>?_
      go_cut [9] (fun m9 W=>m9=.pointer (some ⟨mb,0,none⟩)/\dL w K pc len w.heap.size B2 ps W c' s ms (.slice wa' ws'.length wcap') (.slice ma ms.length mc) ws'/\Bx B2 mb W (.slice ma ms.length mc) (.slice va l'.length vcap) l' k2 tk fn2 ln tx/\(k2=3->0<=gU (s.tasks s.cur)))
      case first =>
       obtain ⟨tv,htv⟩:∃ tv:Int,tv=((s.tasks s.cur).length:Int) - 1:=⟨_,rfl⟩
       have HT:Hid (∀ m,Calls Tryz.prog 86 #[.pointer (some ⟨ps,0,none⟩)] (wc.drewN m) fun e w'=>e=.returned (.int .i64 tv)/\∃ q',w'=(wc.drewN m).drewN q'):=by
        rw [htv]
        exact O fun m=>fZ (w.heap.size+3) ps s _ (((Z HMb).below (bP wc m)).spec)
       have wr200:IntKind.i64.wrap (tv+1)=tv+1:=by rw [IntKind.wrap_i64];omega
       have n200:(tv+1 == 200)=false:=by simp;omega
       by_cases k3:k2=3
       ·subst k3
        obtain ⟨bt,V,hh⟩:=(Z HMb).spec
        have h0:=hh.c0
        have hc1:=hh.c1
        have hi2:=hh.cur
        have hc:=hh.row.cell hi2
        have ho:=hh.own _ hi2
        clear hh
        cases hs:s.tasks s.cur with
        | nil =>
         as_aux_lemma =>
          have hneg:tv<0:=by rw [htv,hs];decide
          have hneg2:decide (tv<0)=true:=by simpa using hneg
          clear htv hc ho h0 hc1
          have HS:=O hs
          clear hs
          go_wp2_with fail
          go_quiet ((go_at_call 86;exact Calls.quiet_of (Z HT _)))
          generalize hw2:wc.drewN _=w2
          have HB2:Hid (Below wc.heap.size wc w2):=by rw [<- hw2];exact O (bP _ _)
          clear hw2
          go_wp2_with fail
          obtain ⟨hwv,hws,hnt,d,x,d1,d9,hd,hx,h8⟩:=Z HQQ (Z HH).leave
          have hm2:dL w K pc len w.heap.size B2 ps w2 c' s ms (.slice wa ws.length wcap) (.slice ma ms.length mc) ws:=by
           have:=(Z HMb).below (Z HB2)
           rw [hwv,hws] at this
           exact this
          obtain ⟨g',t2,hg',hR'⟩:=(Z HR).again hm2 d1 d9 hd hx h8
          go_roundg g'
          case measure=>exact hg'
          case rel=>exact ⟨c',s,ms,wa,wcap,.slice ma ms.length mc,ws,ntn,t2,hwv,by rw [hnt],by rw [hwv];exact hR',by have hq:=(Z HDET).step (by rw [<- Z HMN];exact hlt) (bG5 (Z HR).path.1 (Z HDR) (Z HHD) (Z HCU) (Z HTF) (Z HCH) (Z HTH) (by rw [Z HS];decide));rw [hws,hnt] at hq;exact hq⟩
        | cons f r =>
         rw [hs] at ho
         obtain ⟨g,cap,hV,hgB,hgl,e0,e1,e2,kf⟩:=pV ho
         rw [hV] at hc
         obtain ⟨tn,htn⟩:∃ tn,tn=r.length:=⟨_,rfl⟩
         rw [<- htn] at e0 e1 e2 hc kf
         have htv2:tv=(tn:Int):=by rw [htv,hs,htn];simp
         subst htv2
         have hpos:¬ ((tn:Int)<0):=by omega
         have hpos2:decide ((tn:Int)<0)=false:=by simp
         have HFR:Hid (gU (s.tasks s.cur)=f.frm):=by rw [hs];rfl
         obtain ⟨cq,hcq⟩:∃ cq,cq=s.cur:=⟨_,rfl⟩
         rw [<- hcq] at hc1 hc hi2
         have hlr:∃ x,x=f.frm:=⟨_,rfl⟩
         obtain ⟨fr,hfr⟩:=hlr
         rw [<- hfr] at e2 HFR
         have hr200:tn<200:=by rw [hs] at hdeep;simp at hdeep;omega
         clear htv ho hs hV hcq hfr htn
         have hj1:(0:Int)<=(cq:Int):=by omega
         have hj2:(cq:Int)<101:=by omega
         clear hi2
         obtain ⟨tm,htm⟩:∃ tm,tm=tn+1:=⟨_,rfl⟩
         rw [<- htm] at hc
         have hj3:(0:Int)<=(tn:Int):=by omega
         have hj4:(tn:Int)<(tm:Int):=by omega
         clear htm
         by_cases hfn:fr<0
         ·as_aux_lemma =>
           have hfn2:decide (fr<0)=true:=by simpa using hfn
           go_wp2_with fail
           go_quiet ((go_at_call 86;exact Calls.quiet_of (Z HT _)))
           generalize hw2:wc.drewN _=w2
           have HB2:Hid (Below wc.heap.size wc w2):=by rw [<- hw2];exact O (bP _ _)
           clear hw2
           go_wp2_with fail
           obtain ⟨hwv,hws,hnt,d,x,d1,d9,hd,hx,h8⟩:=Z HQQ (Z HH).leave
           have hm2:dL w K pc len w.heap.size B2 ps w2 c' s ms (.slice wa ws.length wcap) (.slice ma ms.length mc) ws:=by
            have:=(Z HMb).below (Z HB2)
            rw [hwv,hws] at this
            exact this
           obtain ⟨g',t2,hg',hR'⟩:=(Z HR).again hm2 d1 d9 hd hx h8
           go_roundg g'
           case measure=>exact hg'
           case rel=>exact ⟨c',s,ms,wa,wcap,.slice ma ms.length mc,ws,ntn,t2,hwv,by rw [hnt],by rw [hwv];exact hR',by have hq:=(Z HDET).step (by rw [<- Z HMN];exact hlt) (bG5 (Z HR).path.1 (Z HDR) (Z HHD) (Z HCU) (Z HTF) (Z HCH) (Z HTH) (by rw [Z HFR];exact hfn));rw [hws,hnt] at hq;exact hq⟩
         as_aux_lemma =>
          have hfn2:decide (fr<0)=false:=by simpa using hfn
          go_wp2_with fail
          go_quiet ((go_at_call 86;exact Calls.quiet_of (Z HT _)))
          generalize hw2:wc.drewN _=w2
          have HB2:Hid (Below wc.heap.size wc w2):=by rw [<- hw2];exact O (bP _ _)
          clear hw2
          go_wp2_with fail
          go_meet
          case rel=>exact ⟨rfl,(Z HMb).below (Z HB2),(Z HXb).below (Z HB2),fun _=>by rw [Z HFR];omega⟩
       as_aux_lemma =>
        have hk3:(k2 == 3)=false:=by simpa using k3
        have HK3:=O k3
        clear k3 htv
        go_wp2_with fail
        go_quiet ((go_at_call 86;exact Calls.quiet_of (Z HT _)))
        generalize hw2:wc.drewN _=w2
        have HB2:Hid (Below wc.heap.size wc w2):=by rw [<- hw2];exact O (bP _ _)
        clear hw2
        go_wp2_with fail
        go_meet
        case rel=>exact ⟨rfl,(Z HMb).below (Z HB2),(Z HXb).below (Z HB2),fun e=>absurd e (Z HK3)⟩
      case rest =>
       clear HMb HXb q0 q1 q2 q3 q4 q5
       obtain ⟨rfl,hM,hX,hf0⟩:=hcut
       obtain ⟨hmo,hcode⟩:=((Z HH).good (Z HK1) hf0).ok (x:=⟨k2,tk,fn2,ln,tx,.slice va l'.length vcap,l'⟩) (Z HR).okay (by rw [<- Z HMN];omega) hX.tx1 hX.l3 hX.vars.2
       have HG:=O ((Z HH).good (Z HK1) hf0)
       have HMO:=O hmo
       have HCO:Hid (code s k2 tk fn2=0):=O hcode
       have HMb:=O hM
       have HXb:=O hX
       obtain ⟨q0,q1,q2,q3,q4,q5⟩:=hX.cells
       have t1:wc.cell? ⟨w.heap.size+1+1,1,none⟩=some (.slice ma mn mc):=by rw [Z HMN];exact hM.t1
       have HF0:=O hf0
       clear hM hX hf0 hmo hcode
       go_wp2_with fail
       refine (mZ (w.heap.size+3) ps s k2 tk fn2 ln mn tx (.slice va l'.length vcap) _ (Z HMb).spec (by omega) (by omega)).mono ?_
       rintro e wm ⟨rfl,hst,hbm,hkp⟩
       have HMm:=O ((Z HMb).move (hst (Z HCO)) hbm hkp)
       have HXm:=O ((Z HXb).keeps hkp hpsB)
       rw [Z HCO]
       clear hst hbm hkp q0 q1 q2 q3 q4 q5 t1
       obtain ⟨q0,q1,q2,q3,q4,q5⟩:=(Z HXm).cells
       have t1:wm.cell? ⟨w.heap.size+1+1,1,none⟩=some (.slice ma mn mc):=by rw [Z HMN];exact (Z HMm).t1
       have hszm:B2<=wm.heap.size:=(Z HMm).bB
       have hNB:w.heap.size+3<=B2:=(Z HMm).nb
       have HMA:=O ((Z HMm).below (bH wm (.cells #[.int .i64 k2,.int .i64 tk,.int .i64 fn2,.int .i64 ln,.string tx,.slice va l'.length vcap] 108)))
       have HXA:=O ((Z HXm).below (bH wm (.cells #[.int .i64 k2,.int .i64 tk,.int .i64 fn2,.int .i64 ln,.string tx,.slice va l'.length vcap] 108)))
       have HNW:Hid (∀ j u,([.int .i64 k2,.int .i64 tk,.int .i64 fn2,.int .i64 ln,.string tx,.slice va l'.length vcap]:List Value)[j]?=some u->(wm.alloc (.cells #[.int .i64 k2,.int .i64 tk,.int .i64 fn2,.int .i64 ln,.string tx,.slice va l'.length vcap] 108)).cell? ((⟨wm.heap.size,0,none⟩:Addr).add j)=some u) :=
        O (World.news_of_block (cs:=#[.int .i64 k2,.int .i64 tk,.int .i64 fn2,.int .i64 ln,.string tx,.slice va l'.length vcap]) (t:=108) (fr:=(0,0)) (heap_alloc_new wm _))
       have HRW:=O (Z HMA).mom.row
       rw [<- Z HMN] at HRW
       go_wp2_with (at_builtin;refine wpList_append_lies _ (by rfl) _ _ _ (by rfl) B2 108 i1 _ 6 72 Tryz.underlying24 (Z IM).1 (Z IM).2.1 (Z IM).2.2.1 (Z IM).2.2.2 rfl (by omega) (.slice ma mn mc) mn (fD ms) (by rfl) (Z HRW) ⟨wm.heap.size,0,none⟩ 1 1 [.int .i64 k2,.int .i64 tk,.int .i64 fn2,.int .i64 ln,.string tx,.slice va l'.length vcap] (by rfl) (by rfl) (Z HNW) (by simp [Value.oneCell']) (by omega) (by unfold maxLen;omega) (by omega) (by simp;omega) (wm.heap.size+1) (by simp) ?_;intro g2 cp2 w7 hown hgrow _ _;have HW7:=O hown;have HG7:=O hgrow;have hb7:=Below.grown (Below.refl B2 _) hgrow (by simp;omega) (fun k hk=>((Z HRW).lt k hk).1);have t7:w7.cell? ⟨w.heap.size+1+1,1,none⟩=some (.slice ma mn mc):=(by rw [hb7.cell (show w.heap.size+1+1<B2 by omega)];exact bG (bH wm _) t1);have f7:w7.frozen? ⟨w.heap.size+1+1,1,none⟩=false:=(by have hbk:=hb7.block (w.heap.size+2) (by omega);have:=(Z HMA).tbx;rw [<- hbk] at this;simp [World.frozen?,this]);clear hown hgrow hb7)
       have e:=Z HMN
       subst e
       have hn4:=Z HN
       have ho7:w7.ownsRow B2 108 6 (.slice (some ⟨g2,0,none⟩) (ms.length+1) cp2) (ms ++ [(⟨k2,tk,fn2,ln,tx,.slice va l'.length vcap,l'⟩:Mo)]).length (fD (ms ++ [(⟨k2,tk,fn2,ln,tx,.slice va l'.length vcap,l'⟩:Mo)])):=by
        rw [List.length_append,momCells_app,List.length_singleton]
        exact Z HW7
       have hm7:=(Z HMA).moms ⟨k2,tk,fn2,ln,tx,.slice va l'.length vcap,l'⟩ (Z HG7) ho7 (Z HXA).vars (Z HXA).l3 (Z HXA).tx1
       obtain ⟨g',t2,hg',hR'⟩:=(Z HR).next hm7 hlt (bG1.snoc _ (Z HR).path (Z HMO) (Z HCO)) ((Z HG).step (Z HR).okay _) (Z H9) hn4.1 hn4.2.1 hn4.2.2.1 hn4.2.2.2
       go_roundg g'
       case measure=>exact hg'
       case rel=>exact ⟨c',_,ms ++ [(⟨k2,tk,fn2,ln,tx,.slice va l'.length vcap,l'⟩:Mo)],wa',wcap',_,ws',nt',t2,rfl,rfl,hR',(Z HDET).step hlt (round_put (Z HR).path.1 (Z HDR) (Z HHD) (Z HCU) (Z HTF) (Z HCH) (Z HTH) (Z HF0) _)⟩
  have hmn2:mn=n:=by omega
  have hi1:¬ ((mn:Int)<(n:Int)):=by omega
  have hi2:decide ((mn:Int)<(n:Int))=false:=by simpa using hi1
  obtain ⟨ds,dm,dd⟩:=(Z HR).drawn (by rw [<- Z HMN];exact hmn2) hn
  have DS:=O ds
  have DM:=O dm
  have DD:=O dd
  have HBW:=O (Z HM).betw
  have hN:w.heap.size<wr.heap.size:=by have:=fT (Z HM).rbx;omega
  have t0:wr.cell? ⟨w.heap.size+1+1,0,none⟩=some (.slice (some ⟨w.heap.size+1,0,none⟩) 4 4):=by rw [cell_of_row wr (w.heap.size+2) 0 _ _ _ (Z HM).tbx];rfl
  have r0:wr.cell? ⟨w.heap.size,0,none⟩=some (.slice none 0 0):=by rw [cell_of_row wr w.heap.size 0 _ _ _ (Z HM).rbx];rfl
  have r1:wr.cell? ⟨w.heap.size,1,none⟩=some (.slice none 0 0):=by rw [cell_of_row wr w.heap.size 1 _ _ _ (Z HM).rbx];rfl
  have f0:wr.frozen? ⟨w.heap.size,0,none⟩=false:=by simp [World.frozen?,(Z HM).rbx]
  have f1:wr.frozen? ⟨w.heap.size,1,none⟩=false:=by simp [World.frozen?,(Z HM).rbx]
  clear ds dm dd
  go_wp2_with fail
  have hx0:(w.heap.size+1+1)≠w.heap.size:=by omega
  have e:(Value.slice ma ms.length mc)=.slice ma n mc:=by rw [<- Z HMN,hmn2]
  rw [e] at DM
  refine bodyPost_ret (v:=.agg #[.slice (some ⟨w.heap.size+1,0,none⟩) 4 4,.slice ma n mc]) (by simp [results,Tryz.results35,go_sem,r0,r1]) rfl ?_
  refine ⟨⟨.slice (some ⟨w.heap.size+1,0,none⟩) 4 4,.slice ma n mc,rfl,?_,ms,?_,Z DD,by rw [<- Z HMN,hmn2],?_,c,ws,ntn,by rw [<- Z HCI];exact Z HDET⟩,?_,?_⟩
  ·exact (((Z DS).set (q:=⟨w.heap.size,0,none⟩) (by simp)).set (q:=⟨w.heap.size,1,none⟩) (by simp)).low (by omega)
  ·exact (((Z DM).set (q:=⟨w.heap.size,0,none⟩) (by simp)).set (q:=⟨w.heap.size,1,none⟩) (by simp)).low (by omega)
  ·have ht:=vS.drawn (Z HM).fnx (Z HM).mom (by have:=(Z HM).nb;omega)
   rw [e] at ht
   exact (ht.from (fun b hb _=>by rw [heap_setCell_other _ _ _ _ (show b≠w.heap.size by omega),heap_setCell_other _ _ _ _ (show b≠w.heap.size by omega)])).low (by omega)
  ·exact (Z HBW).onw (((Below.refl _ _).setCell (p:=⟨w.heap.size,0,none⟩) (Nat.le_refl _) _).setCell (p:=⟨w.heap.size,1,none⟩) (Nat.le_refl _) _)
  exact ⟨c,(Z HM).cur.below (((Below.refl _ _).setCell (p:=⟨w.heap.size,0,none⟩) (Z HM).kn _).setCell (p:=⟨w.heap.size,1,none⟩) (Z HM).kn _),by have:=(Z HR).att;have:=(Z HR).t48;have:=(Z HR).msn;omega⟩
end Go.Proofs.YtmnmeaeicjhkhaaGreatDoor.Fun
namespace Go.Proofs.YtmnmeaeicjhkhaaGreatDoor.Fun
open Go.RowKit
attribute [local go_sem ↓] Go.wp_at_zero Go.wp_at_succ
def xJ (w:World) (v:Value) (len:Nat) (bs:Nat->Nat):Prop :=
 ∃ a cap,v=.slice a len cap/\∀ i,i<len->∃ b o,a=some ⟨b,o,none⟩/\w.cell? ⟨b,o+i,none⟩=some (.int .u8 (bs i:Int))/\bs i<256
theorem xJ.below {w w':World} {v:Value} {len:Nat} {bs:Nat->Nat} (h:xJ w v len bs) (hb:Below w.heap.size w w'):xJ w' v len bs:=by
 obtain ⟨a,cap,hv,h⟩:=h
 refine ⟨a,cap,hv,fun i hi=>?_⟩
 obtain ⟨b,o,ha,hc,hx⟩:=h i hi
 exact ⟨b,o,ha,bG hb hc,hx⟩
open Classical in
theorem bytes_fn {w:World} {v:Value} {len:Nat} (h:qK w v len):∃ bs,xJ w v len bs:=by
 obtain ⟨a,cap,hv,h⟩:=h
 have h':∀ i,∃ y:Nat,i<len->∃ b o,a=some ⟨b,o,none⟩/\w.cell? ⟨b,o+i,none⟩=some (.int .u8 (y:Int))/\y<256:=fun i=>by
  by_cases hi:i<len
  ·obtain ⟨b,o,x,ha,hc,h0,h1⟩:=h i hi
   exact ⟨x.toNat,fun _=>⟨b,o,ha,by rw [hc,Int.toNat_of_nonneg h0],by omega⟩⟩
  exact ⟨0,fun q=>absurd q hi⟩
 exact ⟨fun i=>(h' i).choose,a,cap,hv,fun i hi=>(h' i).choose_spec hi⟩
def bG6 (len:Nat) (bs:Nat->Nat) (n:Nat) (ms:List Mo):Prop:=n=fW len ⟨0,0,bs⟩ % 90/\ms.length=n/\∃ c' ws nt,Det len n (eF len ⟨0,0,bs⟩) c' ms ws nt
theorem bG6.uniq {len:Nat} {bs:Nat->Nat} {n n':Nat} {ms ms':List Mo} (h:bG6 len bs n ms) (h':bG6 len bs n' ms'):n=n'/\fC ms=fC ms':=by
 obtain ⟨h1,h2,_,_,_,h3⟩:=h
 obtain ⟨h1',h2',_,_,_,h3'⟩:=h'
 have e:n=n':=h1.trans h1'.symm
 subst e
 exact ⟨rfl,by rw [<- xG ms,<- xG ms',h3.uniq h3' h2 h2']⟩
theorem xJ.cur {w:World} {v:Value} {len:Nat} {bs:Nat->Nat} (h:xJ w v len bs) (hl:len<=1048576) (o:Obj) :
  Cur (w.heap.size+2) ((w.alloc o).alloc (.cells #[v,.int .i64 0,.int .u64 0] 73)) (w.heap.size+1) len ⟨0,0,bs⟩:=by
 obtain ⟨a,cap,rfl,h⟩:=h
 have hs:(w.alloc o).heap.size=w.heap.size+1:=by simp
 have hn:=heap_alloc_new (w.alloc o) (.cells #[.slice a len cap,.int .i64 0,.int .u64 0] 73)
 rw [hs] at hn
 have hb:Below w.heap.size w ((w.alloc o).alloc (.cells #[.slice a len cap,.int .i64 0,.int .u64 0] 73)):=((Below.refl _ _).alloc (Nat.le_refl _) _).alloc (by simp) _
 refine ⟨by omega,⟨a,cap,?_,fun i hi=>?_⟩,?_,?_,?_,?_,Nat.zero_lt_succ _,hl⟩
 ·rw [cell_of_row _ _ 0 _ _ _ hn];rfl
 ·obtain ⟨b,off,ha,hc,h1⟩:=h i hi
  have:=bV hc
  simp only at this
  exact ⟨b,off,(bs i:Int),ha,by omega,by omega,bG hb hc,by omega,by omega,rfl⟩
 ·rw [cell_of_row _ _ 1 _ _ _ hn];rfl
 ·rw [cell_of_row _ _ 2 _ _ _ hn];rfl
 ·unfold World.frozen?;rw [hn];rfl
 unfold World.frozen?;rw [hn];rfl
theorem bP8 (v:Value) (len:Nat) (bs:Nat->Nat) (w:World) (h:xJ w v len bs) (hl:len<=1048576) :
  Calls Tryz.prog 8 #[v] w fun e w'=>(∃ v1 v2 n ms,e=.returned (.agg #[v1,v2])/\n<90/\eE w.heap.size w' v1 4 gA/\bQ w.heap.size w' v2 n (fC ms)/\cB 4 gA n (fC ms)/\bG6 len bs n ms)/\Below w.heap.size w w':=by
 have H:=O (h.cur hl (.cells #[.slice none 0 0,.slice none 0 0] 26))
 obtain ⟨a,cap,rfl,_⟩:=h
 have HB0:Hid (Below w.heap.size w ((w.alloc (.cells #[.slice none 0 0,.slice none 0 0] 26)).alloc (.cells #[.slice a len cap,.int .i64 0,.int .u64 0] 73))):=O (((Below.refl _ _).alloc (Nat.le_refl _) _).alloc (by simp) _)
 have HR0:Hid (((w.alloc (.cells #[.slice none 0 0,.slice none 0 0] 26)).alloc (.cells #[.slice a len cap,.int .i64 0,.int .u64 0] 73)).heap[w.heap.size]?=some (.cells #[.slice none 0 0,.slice none 0 0] 26 (0,0))):=by
  rw [Below.heap_alloc _ _ _ (by simp)]
  exact O (heap_alloc_new w _)
 go_enter Tryz.func8,Tryz.ntmps8
 go_wp2_with fail
 refine (bY (w.heap.size+2) (w.heap.size+1) len ⟨0,0,bs⟩ 90 _ (Z H) (Nat.zero_lt_succ _) (by omega) (by omega)).mono ?_
 rintro e w1 ⟨⟨x,c1,rfl,hd,hc⟩,hb1⟩
 obtain ⟨n,hn⟩:∃ n,n=x % 90:=⟨_,rfl⟩
 have hn90:n<90:=by omega
 rw [<- hn]
 have hs1:w.heap.size+2<=w1.heap.size:=by have:=hb1.size;simpa using this
 have hat:c1.at_<=1:=by rw [hd.at1];exact Nat.le_refl _
 have HB1:=O hb1
 have HC:=O hc
 have HNX:Hid (n=fW len ⟨0,0,bs⟩ % 90/\c1=eF len ⟨0,0,bs⟩):=O ⟨by rw [hn,hd.num],hd.nx.1⟩
 clear hd hc hb1 hn
 go_wp2_with fail
 refine (trace_any (w.heap.size+2) (w.heap.size+1) len c1 n _ (Z HC) hs1 hn90 (by omega)).mono ?_
 rintro e w2 ⟨⟨v1,v2,ms,rfl,hs,hm,hso,hml,-,hdt⟩,hb2,-⟩
 have HDT:Hid (bG6 len bs n ms):=O ⟨(Z HNX).1,hml,by rw [<- (Z HNX).2];exact hdt⟩
 clear hml hdt
 have HB2:=O ((Z HB1).trans hb2)
 have hrb:w2.heap[w.heap.size]?=some (.cells #[.slice none 0 0,.slice none 0 0] 26 (0,0)):=by
  rw [(Z HB2).block w.heap.size (by simp;omega) (.inl (by omega))]
  exact Z HR0
 have r0:w2.cell? ⟨w.heap.size,0,none⟩=some (.slice none 0 0):=by rw [cell_of_row w2 w.heap.size 0 _ _ _ hrb];rfl
 have r1:w2.cell? ⟨w.heap.size,1,none⟩=some (.slice none 0 0):=by rw [cell_of_row w2 w.heap.size 1 _ _ _ hrb];rfl
 have f0:w2.frozen? ⟨w.heap.size,0,none⟩=false:=by simp [World.frozen?,hrb]
 have f1:w2.frozen? ⟨w.heap.size,1,none⟩=false:=by simp [World.frozen?,hrb]
 have DS:=O hs
 have DM:=O hm
 have DD:=O hso
 obtain ⟨a1,cap1,rfl,_⟩:=hs
 obtain ⟨a2,cap2,rfl,_⟩:=hm
 clear hso hb2 hrb
 go_wp2_with fail
 refine bodyPost_ret (v:=.agg #[.slice a1 4 cap1,.slice a2 n cap2]) (by simp [results,Tryz.results8,go_sem,r0,r1]) rfl ?_
 refine ⟨⟨.slice a1 4 cap1,.slice a2 n cap2,n,ms,rfl,hn90,?_,?_,Z DD,Z HDT⟩,?_⟩
 ·exact (((Z DS).set (q:=⟨w.heap.size,0,none⟩) (by simp;omega)).set (q:=⟨w.heap.size,1,none⟩) (by simp;omega)).low (by omega)
 ·exact (((Z DM).set (q:=⟨w.heap.size,0,none⟩) (by simp;omega)).set (q:=⟨w.heap.size,1,none⟩) (by simp;omega)).low (by omega)
 exact (((Z HB0).trans (((Z HB2).below (by simp)).mono (by omega))).setCell (p:=⟨w.heap.size,0,none⟩) (Nat.le_refl _) _).setCell (p:=⟨w.heap.size,1,none⟩) (Nat.le_refl _) _
end Go.Proofs.YtmnmeaeicjhkhaaGreatDoor.Fun
