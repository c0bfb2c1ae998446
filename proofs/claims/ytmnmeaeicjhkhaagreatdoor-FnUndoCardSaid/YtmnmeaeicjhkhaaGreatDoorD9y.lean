import Derived.Test.YtmnmeaeicjhkhaaGreatDoorV0y
import Derived.Deep.DeepCutAuto
import Derived.Deep.RegionLaw
import Derived.Deep.LoopGhost
set_option maxRecDepth 100000
set_option maxHeartbeats 16000000
namespace Go.Proofs.YtmnmeaeicjhkhaaGreatDoor
open Go.RowKit
attribute [local go_sem ↓] Go.wp_at_zero Go.wp_at_succ
theorem trace_any (K pc len:Nat) (c:Cu) (n:Nat) (w:World) (h:Cur K w pc len c) (hK:K≤w.heap.size) (hn:n < 90) (hat:c.at_≤2) :
  Calls Tryz.prog 35 #[.pointer (some ⟨pc,0,none⟩),.int .i64 n] w fun e w'=>(∃ v1 v2 ms,e=.returned (.agg #[v1,v2])∧StrsAt w.heap.size w' v1 4 drawnFns∧MomsAt w.heap.size w' v2 n (momOf ms)∧Sound 4 drawnFns n (momOf ms)∧ms.length=n∧TrOwn w.heap.size w' v1 v2 4 ms)∧Betw pc (pc + 1) w w'∧CurLeft K w' pc len:=by
 have H:=hide h
 have hlen:len≤1048576:=h.hl
 have hpcK:pc < K:=h.hk
 clear h
 obtain ⟨i0,hi0,hz0,hz1,hz2⟩:=info_parts info_int
 have II:=hide (And.intro hi0 (And.intro hz0 (And.intro hz1 hz2)));clear hi0 hz0 hz1 hz2
 obtain ⟨i1,hi0,hz0,hz1,hz2⟩:=info_parts info_Moment
 have IM:=hide (And.intro hi0 (And.intro hz0 (And.intro hz1 hz2)));clear hi0 hz0 hz1 hz2
 go_enter Tryz.func35,Tryz.ntmps35
 go_wp2_with fail
 refine (l1begin_any _).mono ?_
 rintro e w1 ⟨⟨ps,rfl,hsp⟩,hb1⟩
 have HM0:Hid (TrMem w K pc len w.heap.size w1.heap.size ps (w1.alloc (.cells #[] 3)) c St.init [] (.slice (some ⟨w1.heap.size,0,none⟩) 0 0) (.slice none 0 0) []):=hide (TrMem.start (uh H) hK (by simpa using hsp) (by unfold fnCells;simpa using hb1))
 obtain ⟨t0,ht0,ht1⟩:=seed_ahead c.seed
 have HR0:Hid (TrRel w K pc len w.heap.size w1.heap.size ps n (n * 1180591620717411303424 + (len - c.at_) * 562949953421312 + t0) (w1.alloc (.cells #[] 3)) c St.init [] (.slice (some ⟨w1.heap.size,0,none⟩) 0 0) (.slice none 0 0) [] 1 t0) :=
  hide ⟨uh HM0,Path.nil,Okay.init,by simp,by simp,by omega,by simp,ht0,fun _=>ht1,by simp;omega,by simp⟩
 clear hsp hb1 ht0 ht1
 obtain ⟨B2,hB2⟩:∃ B2,B2=w1.heap.size:=⟨_,rfl⟩
 go_wp2_with fail
 go_loopg [7,8] (n * 1180591620717411303424 + (len - c.at_) * 562949953421312 + t0) (fun g wv nt wr=>∃ (c:Cu) (s:St) (ms:List Mo) (wa:Option Addr) (wcap:Nat) (mv:Value) (ws:List Int) (ntn t:Nat),wv=.slice wa ws.length wcap∧nt=.int .i64 ntn∧TrRel w K pc len w.heap.size B2 ps n g wr c s ms wv mv ws ntn t)
 case atStart=>rw [hB2];exact ⟨c,St.init,[],_,_,_,[],1,t0,rfl,rfl,uh HR0⟩
 case round =>
  clear HM0 HR0 H hB2 hK hat
  obtain ⟨c,s,ms,wa,wcap,mv,ws,ntn,t,rfl,rfl,hr⟩:=hrel
  have HR:=hide hr
  have HM:=hide hr.mem
  obtain ⟨ma,mc,hmv⟩:=owns_slice hr.mem.mom.row
  subst hmv
  have t1:wr.cell? ⟨w.heap.size + 1 + 1,1,none⟩=some (.slice ma ms.length mc):=hr.mem.t1
  have p1:=hr.mem.c1
  have hmn:=hr.msn
  have hBr:B2≤wr.heap.size:=hr.mem.bB
  have HFAR:Hid (∀ b,wr.heap.size≤b→(Value.slice ma ms.length mc).ownBlock ≠ some b):=hide fun b hb e=>by have:=(hr.mem.mom.row.lt b e).2;omega
  have hpB:pc < B2:=by have:=hr.mem.nb;have:=hr.mem.kn;omega
  have hatt:c.at_ < 4611686018427387000:=by have:=hr.att;have:=hr.t48;omega
  clear hr
  obtain ⟨mn,hmn'⟩:∃ mn,mn=ms.length:=⟨_,rfl⟩
  rw [← hmn'] at t1 hmn
  have HMN:=hide hmn'
  obtain ⟨cu,hcu⟩:∃ cu,cu=s.cur:=⟨_,rfl⟩
  rw [← hcu] at p1
  have HCU:=hide hcu
  obtain ⟨tf,htf⟩:∃ tf,tf=topFn (s.tasks s.cur):=⟨_,rfl⟩
  have HTF:=hide htf
  clear hmn' hcu htf
  by_cases hlt:mn < n
  ·have hi1:(mn:Int) < (n:Int):=by omega
   go_wp2_with fail
   go_cut [9] (fun m9 W=>∃ (mb:Nat) (c1:Cu) (vv:Value) (l:List V) (xl:Nat),m9=.pointer (some ⟨mb,0,none⟩)∧TrMem w K pc len w.heap.size B2 ps W c1 s ms (.slice wa ws.length wcap) (.slice ma ms.length mc) ws∧Bx B2 mb W (.slice ma ms.length mc) vv l 0 cu tf xl ByteArray.empty∧xl < 4∧Draws len (2 + 2 * l.length) c c1)
   case first =>
    refine wp_region_held_drew (S:=fun W=>W.cell? ⟨ps,1,none⟩=some (.int .i64 cu)) (by kernel_rfl) p1 (fun hHeld=>?_)
    replace HM:=hide ((uh HM).below (Below.refl _ _).drew)
    have hszr:wr.heap.size≤wr.drew.heap.size:=Nat.le_refl _
    generalize wr.drew=wd at HM hszr hHeld ⊢
    refine tka 0 19 ?hy0z1 hHeld ?r0z1 (v:=?v0z1)
    case hy0z1=>intro wx hSw;go_simp;with_reducible rfl
    simp only [Act.put,sx1,sx2,sx3]
    refine tka 1 20 ?hy1z2 hHeld ?r1z2 (v:=?v1z2)
    case hy1z2=>intro wx hSw;go_simp;with_reducible rfl
    simp only [Act.put,sx1,sx2,sx3]
    refine tka 2 21 ?hy2z3 hHeld ?r2z3 (v:=?v2z3)
    case hy2z3=>intro wx hSw;go_simp;with_reducible rfl
    simp only [Act.put,sx1,sx2,sx3]
    refine tka 3 22 ?hy3z4 hHeld ?r3z4 (v:=?v3z4)
    case hy3z4=>intro wx hSw;go_simp;with_reducible rfl
    simp only [Act.put,sx1,sx2,sx3]
    refine tka 4 23 ?hy4z5 hHeld ?r4z5 (v:=?v4z5)
    case hy4z5=>intro wx hSw;go_simp;with_reducible rfl
    simp only [Act.put,sx1,sx2,sx3]
    refine tka 6 25 ?hy6z6 hHeld ?r6z6 (v:=?v6z6)
    case hy6z6=>intro wx hSw;go_simp;with_reducible rfl
    simp only [Act.put,sx1,sx2,sx3]
    refine tka 8 27 ?hy8z7 hHeld ?r8z7 (v:=?v8z7)
    case hy8z7=>intro wx hSw;go_simp;with_reducible rfl
    simp only [Act.put,sx1,sx2,sx3]
    refine wpAnyH_ready (rs:=[5,11]) (by kernel_rfl) (by simp) ?_
    refine AllReadyH.cons rfl (fun KK hK=>?_) (AllReadyH.cons rfl (fun KK hK=>?_) AllReadyH.nil)
    ·as_aux_lemma =>
      go_simp
      refine (fn_any (w.heap.size + 3) ps s _ (uh HM).spec).mono ?_
      rintro e wf ⟨rfl,q,hq⟩
      have HBf:=hide (show Below _ _ wf from by rw [hq];exact below_drewN' _ q)
      replace HM:=hide ((uh HM).below (uh HBf))
      have hszf:=(uh HBf).size
      rw [← uh HTF]
      clear hq HBf
      refine hK.out _ _ (by rw [uh HCU];exact (uh HM).c1) (fun hHeld=>?_)
      clear hK KK
      try simp only [Act.put,sx1,sx4,sx5,sx6,sx2,sx3]
      refine wpAnyH_ready (rs:=[7,11]) (by kernel_rfl) (by simp) ?_
      refine AllReadyH.cons rfl (fun KK hK=>?_) (AllReadyH.cons rfl (fun KK hK=>?_) AllReadyH.nil)
      ·as_aux_lemma =>
        go_simp
        refine (pick_any K pc len c 4 _ (uh HM).cur (by omega) (by omega) (by omega)).mono ?_
        rintro e wp ⟨⟨xp,cp,rfl,hdp,hcp⟩,hbp⟩
        obtain ⟨xl,hxl⟩:∃ xl,xl=xp % 4:=⟨_,rfl⟩
        rw [← hxl]
        have hx4:xl < 4:=by omega
        have hatp:cp.at_ < 4611686018427387100:=by rw [hdp.at1];omega
        replace HM:=hide ((uh HM).draw hbp hcp)
        have HDP:=hide hdp
        have hszp:=hbp.size
        clear hbp hcp hdp hxl
        refine hK.out _ _ (by rw [uh HCU];exact (uh HM).c1) (fun hHeld=>?_)
        clear hK KK
        try simp only [Act.put,sx1,sx4,sx5,sx6,sx2,sx3]
        refine wpAnyH_ready (rs:=[9,11]) (by kernel_rfl) (by simp) ?_
        refine AllReadyH.cons rfl (fun KK hK=>?_) (AllReadyH.cons rfl (fun KK hK=>?_) AllReadyH.nil)
        ·as_aux_lemma =>
          go_simp
          refine (vars_any K pc len cp _ (uh HM).cur (by have:=heap_lt (uh HM).rbx;have:=(uh HM).kn;omega) (by omega)).mono ?_
          rintro e wv ⟨⟨vv,l,cv,rfl,hl3,hov,hdv,hcv⟩,hbv⟩
          replace HM:=hide ((uh HM).draw hbv hcv)
          have HDV:=hide ((Draws.refl len c).next (uh HDP) |>.trans hdv)
          have hszv:=hbv.size
          have HOV:=hide (hov.low (B':=B2) (by omega))
          obtain ⟨va,vcap,rfl⟩:=owns_slice hov.1
          clear hbv hcv hdv hov
          refine hK.out _ _ (by rw [uh HCU];exact (uh HM).c1) (fun hHeld=>?_)
          clear hK KK
          try simp only [Act.put,sx1,sx4,sx5,sx6,sx2,sx3]
          refine tka 10 29 ?hy10z8 hHeld ?r10z8 (v:=?v10z8)
          case hy10z8=>intro wx hSw;go_simp;with_reducible rfl
          simp only [Act.put,sx1,sx2,sx3]
          refine wpAnyH_ready (rs:=[11]) (by kernel_rfl) (by simp) ?_
          refine AllReadyH.cons rfl (fun KK hK=>?_) AllReadyH.nil
          have HM0:=HM
          have HOV0:=HOV
          go_simp
          have HBa:=hide (uh HM).bnew
          have HX:=hide ((uh HM).zbox (S0:=wr.heap.size) (by omega))
          have hsza:=Nat.le_trans (show wr.heap.size≤_ by omega) (uh HBa).size
          replace HM:=hide ((uh HM).below (uh HBa))
          replace HOV:=hide ((uh HOV).below (uh HBa))
          refine hK.out _ _ (by rw [uh HCU];exact (uh HM).c1) (fun hHeld=>?_)
          clear hK KK
          try simp only [Act.put,sx1,sx4,sx5,sx6,sx2,sx3]
          refine wpAnyH_ready (rs:=[12]) (by kernel_rfl) (by simp) ?_
          refine AllReadyH.cons rfl (fun KK hK=>?_) AllReadyH.nil
          have HF:=hide ((uh HM0).below (below_new _ (.cells #[.int .i64 0,.int .i64 cu,.int .i64 tf,.int .i64 xl,.string ByteArray.empty,.slice va l.length vcap] 108)))
          have HG:Hid (Bx B2 _ _ (.slice ma ms.length mc) (.slice va l.length vcap) l 0 cu tf xl ByteArray.empty):=hide ⟨(uh HM0).bB,heap_alloc_new _ _,uh HFAR _ (uh HX).hS,(uh HOV0).below (below_new _ (.cells #[.int .i64 0,.int .i64 cu,.int .i64 tf,.int .i64 xl,.string ByteArray.empty,.slice va l.length vcap] 108)),hl3,by decide⟩
          go_simp
          refine hK.out _ _ (by have e:=(uh HF).c1;rw [← uh HCU] at e;exact e) (fun _=>?_)
          clear hK KK
          refine wpAnyH_done (by kernel_rfl) ?_ _
          go_wp2_with fail
          go_meet
          case rel=>exact ⟨_,cv,_,l,xl,rfl,uh HF,uh HG,hx4,by have:=uh HDV;rw [show 2 + 2 * l.length=0 + 1 + (1 + 2 * l.length) by omega];exact this⟩
        ·as_aux_lemma =>
          go_simp
          have HBa:=hide (uh HM).bnew
          have HX:=hide ((uh HM).zbox (S0:=wr.heap.size) (by omega))
          have hsza:=Nat.le_trans (show wr.heap.size≤_ by omega) (uh HBa).size
          replace HM:=hide ((uh HM).below (uh HBa))
          refine hK.out _ _ (by rw [uh HCU];exact (uh HM).c1) (fun hHeld=>?_)
          clear hK KK
          try simp only [Act.put,sx1,sx4,sx5,sx6,sx2,sx3]
          refine wpAnyH_ready (rs:=[9]) (by kernel_rfl) (by simp) ?_
          refine AllReadyH.cons rfl (fun KK hK=>?_) AllReadyH.nil
          go_simp
          refine (vars_any K pc len cp _ (uh HM).cur (by have:=heap_lt (uh HM).rbx;have:=(uh HM).kn;omega) (by omega)).mono ?_
          rintro e wv ⟨⟨vv,l,cv,rfl,hl3,hov,hdv,hcv⟩,hbv⟩
          replace HM:=hide ((uh HM).draw hbv hcv)
          have HDV:=hide ((Draws.refl len c).next (uh HDP) |>.trans hdv)
          have hszv:=hbv.size
          have HOV:=hide (hov.low (B':=B2) (by omega))
          obtain ⟨va,vcap,rfl⟩:=owns_slice hov.1
          replace HX:=hide ((uh HX).draw hbv (by omega))
          clear hbv hcv hdv hov
          refine hK.out _ _ (by rw [uh HCU];exact (uh HM).c1) (fun hHeld=>?_)
          clear hK KK
          try simp only [Act.put,sx1,sx4,sx5,sx6,sx2,sx3]
          refine tka 10 29 ?hy10z9 hHeld ?r10z9 (v:=?v10z9)
          case hy10z9=>intro wx hSw;go_simp;with_reducible rfl
          simp only [Act.put,sx1,sx2,sx3]
          refine wpAnyH_ready (rs:=[12]) (by kernel_rfl) (by simp) ?_
          refine AllReadyH.cons rfl (fun KK hK=>?_) AllReadyH.nil
          have HF:=hide ((uh HM).full (uh HX) hBr (uh HFAR _ (uh HX).hS) (uh HOV) hl3 cu tf xl)
          obtain ⟨y0,y1,y2,y3,y4,y5⟩:=(uh HX).cells
          obtain ⟨x0,x1,x2,x3,x4,x5⟩:=(uh HX).fz
          go_simp
          refine hK.out _ _ (by have e:=(uh HF).1.c1;rw [← uh HCU] at e;exact e) (fun _=>?_)
          clear hK KK
          refine wpAnyH_done (by kernel_rfl) ?_ _
          go_wp2_with fail
          go_meet
          case rel=>exact ⟨_,cv,_,l,xl,rfl,(uh HF).1,(uh HF).2,hx4,by have:=uh HDV;rw [show 2 + 2 * l.length=0 + 1 + (1 + 2 * l.length) by omega];exact this⟩
      ·as_aux_lemma =>
        go_simp
        have HBa:=hide (uh HM).bnew
        have HX:=hide ((uh HM).zbox (S0:=wr.heap.size) (by omega))
        have hsza:=Nat.le_trans (show wr.heap.size≤_ by omega) (uh HBa).size
        replace HM:=hide ((uh HM).below (uh HBa))
        refine hK.out _ _ (by rw [uh HCU];exact (uh HM).c1) (fun hHeld=>?_)
        clear hK KK
        try simp only [Act.put,sx1,sx4,sx5,sx6,sx2,sx3]
        refine wpAnyH_ready (rs:=[7]) (by kernel_rfl) (by simp) ?_
        refine AllReadyH.cons rfl (fun KK hK=>?_) AllReadyH.nil
        go_simp
        refine (pick_any K pc len c 4 _ (uh HM).cur (by omega) (by omega) (by omega)).mono ?_
        rintro e wp ⟨⟨xp,cp,rfl,hdp,hcp⟩,hbp⟩
        obtain ⟨xl,hxl⟩:∃ xl,xl=xp % 4:=⟨_,rfl⟩
        rw [← hxl]
        have hx4:xl < 4:=by omega
        have hatp:cp.at_ < 4611686018427387100:=by rw [hdp.at1];omega
        replace HM:=hide ((uh HM).draw hbp hcp)
        have HDP:=hide hdp
        have hszp:=hbp.size
        replace HX:=hide ((uh HX).draw hbp (by omega))
        clear hbp hcp hdp hxl
        refine hK.out _ _ (by rw [uh HCU];exact (uh HM).c1) (fun hHeld=>?_)
        clear hK KK
        try simp only [Act.put,sx1,sx4,sx5,sx6,sx2,sx3]
        refine wpAnyH_ready (rs:=[9]) (by kernel_rfl) (by simp) ?_
        refine AllReadyH.cons rfl (fun KK hK=>?_) AllReadyH.nil
        go_simp
        refine (vars_any K pc len cp _ (uh HM).cur (by have:=heap_lt (uh HM).rbx;have:=(uh HM).kn;omega) (by omega)).mono ?_
        rintro e wv ⟨⟨vv,l,cv,rfl,hl3,hov,hdv,hcv⟩,hbv⟩
        replace HM:=hide ((uh HM).draw hbv hcv)
        have HDV:=hide ((Draws.refl len c).next (uh HDP) |>.trans hdv)
        have hszv:=hbv.size
        have HOV:=hide (hov.low (B':=B2) (by omega))
        obtain ⟨va,vcap,rfl⟩:=owns_slice hov.1
        replace HX:=hide ((uh HX).draw hbv (by omega))
        clear hbv hcv hdv hov
        refine hK.out _ _ (by rw [uh HCU];exact (uh HM).c1) (fun hHeld=>?_)
        clear hK KK
        try simp only [Act.put,sx1,sx4,sx5,sx6,sx2,sx3]
        refine tka 10 29 ?hy10z10 hHeld ?r10z10 (v:=?v10z10)
        case hy10z10=>intro wx hSw;go_simp;with_reducible rfl
        simp only [Act.put,sx1,sx2,sx3]
        refine wpAnyH_ready (rs:=[12]) (by kernel_rfl) (by simp) ?_
        refine AllReadyH.cons rfl (fun KK hK=>?_) AllReadyH.nil
        have HF:=hide ((uh HM).full (uh HX) hBr (uh HFAR _ (uh HX).hS) (uh HOV) hl3 cu tf xl)
        obtain ⟨y0,y1,y2,y3,y4,y5⟩:=(uh HX).cells
        obtain ⟨x0,x1,x2,x3,x4,x5⟩:=(uh HX).fz
        go_simp
        refine hK.out _ _ (by have e:=(uh HF).1.c1;rw [← uh HCU] at e;exact e) (fun _=>?_)
        clear hK KK
        refine wpAnyH_done (by kernel_rfl) ?_ _
        go_wp2_with fail
        go_meet
        case rel=>exact ⟨_,cv,_,l,xl,rfl,(uh HF).1,(uh HF).2,hx4,by have:=uh HDV;rw [show 2 + 2 * l.length=0 + 1 + (1 + 2 * l.length) by omega];exact this⟩
    ·as_aux_lemma =>
      go_simp
      have HBa:=hide (uh HM).bnew
      have HX:=hide ((uh HM).zbox (S0:=wr.heap.size) (by omega))
      have hsza:=Nat.le_trans (show wr.heap.size≤_ by omega) (uh HBa).size
      replace HM:=hide ((uh HM).below (uh HBa))
      refine hK.out _ _ (by rw [uh HCU];exact (uh HM).c1) (fun hHeld=>?_)
      clear hK KK
      try simp only [Act.put,sx1,sx4,sx5,sx6,sx2,sx3]
      refine wpAnyH_ready (rs:=[5]) (by kernel_rfl) (by simp) ?_
      refine AllReadyH.cons rfl (fun KK hK=>?_) AllReadyH.nil
      go_simp
      refine (fn_any (w.heap.size + 3) ps s _ (uh HM).spec).mono ?_
      rintro e wf ⟨rfl,q,hq⟩
      have HBf:=hide (show Below _ _ wf from by rw [hq];exact below_drewN' _ q)
      replace HM:=hide ((uh HM).below (uh HBf))
      have hszf:=(uh HBf).size
      replace HX:=hide ((uh HX).below (uh HBf))
      rw [← uh HTF]
      clear hq HBf
      refine hK.out _ _ (by rw [uh HCU];exact (uh HM).c1) (fun hHeld=>?_)
      clear hK KK
      try simp only [Act.put,sx1,sx4,sx5,sx6,sx2,sx3]
      refine wpAnyH_ready (rs:=[7]) (by kernel_rfl) (by simp) ?_
      refine AllReadyH.cons rfl (fun KK hK=>?_) AllReadyH.nil
      go_simp
      refine (pick_any K pc len c 4 _ (uh HM).cur (by omega) (by omega) (by omega)).mono ?_
      rintro e wp ⟨⟨xp,cp,rfl,hdp,hcp⟩,hbp⟩
      obtain ⟨xl,hxl⟩:∃ xl,xl=xp % 4:=⟨_,rfl⟩
      rw [← hxl]
      have hx4:xl < 4:=by omega
      have hatp:cp.at_ < 4611686018427387100:=by rw [hdp.at1];omega
      replace HM:=hide ((uh HM).draw hbp hcp)
      have HDP:=hide hdp
      have hszp:=hbp.size
      replace HX:=hide ((uh HX).draw hbp (by omega))
      clear hbp hcp hdp hxl
      refine hK.out _ _ (by rw [uh HCU];exact (uh HM).c1) (fun hHeld=>?_)
      clear hK KK
      try simp only [Act.put,sx1,sx4,sx5,sx6,sx2,sx3]
      refine wpAnyH_ready (rs:=[9]) (by kernel_rfl) (by simp) ?_
      refine AllReadyH.cons rfl (fun KK hK=>?_) AllReadyH.nil
      go_simp
      refine (vars_any K pc len cp _ (uh HM).cur (by have:=heap_lt (uh HM).rbx;have:=(uh HM).kn;omega) (by omega)).mono ?_
      rintro e wv ⟨⟨vv,l,cv,rfl,hl3,hov,hdv,hcv⟩,hbv⟩
      replace HM:=hide ((uh HM).draw hbv hcv)
      have HDV:=hide ((Draws.refl len c).next (uh HDP) |>.trans hdv)
      have hszv:=hbv.size
      have HOV:=hide (hov.low (B':=B2) (by omega))
      obtain ⟨va,vcap,rfl⟩:=owns_slice hov.1
      replace HX:=hide ((uh HX).draw hbv (by omega))
      clear hbv hcv hdv hov
      refine hK.out _ _ (by rw [uh HCU];exact (uh HM).c1) (fun hHeld=>?_)
      clear hK KK
      try simp only [Act.put,sx1,sx4,sx5,sx6,sx2,sx3]
      refine tka 10 29 ?hy10z11 hHeld ?r10z11 (v:=?v10z11)
      case hy10z11=>intro wx hSw;go_simp;with_reducible rfl
      simp only [Act.put,sx1,sx2,sx3]
      refine wpAnyH_ready (rs:=[12]) (by kernel_rfl) (by simp) ?_
      refine AllReadyH.cons rfl (fun KK hK=>?_) AllReadyH.nil
      have HF:=hide ((uh HM).full (uh HX) hBr (uh HFAR _ (uh HX).hS) (uh HOV) hl3 cu tf xl)
      obtain ⟨y0,y1,y2,y3,y4,y5⟩:=(uh HX).cells
      obtain ⟨x0,x1,x2,x3,x4,x5⟩:=(uh HX).fz
      go_simp
      refine hK.out _ _ (by have e:=(uh HF).1.c1;rw [← uh HCU] at e;exact e) (fun _=>?_)
      clear hK KK
      refine wpAnyH_done (by kernel_rfl) ?_ _
      go_wp2_with fail
      go_meet
      case rel=>exact ⟨_,cv,_,l,xl,rfl,(uh HF).1,(uh HF).2,hx4,by have:=uh HDV;rw [show 2 + 2 * l.length=0 + 1 + (1 + 2 * l.length) by omega];exact this⟩
   case rest =>
    obtain ⟨mb,c1,vv,l,xl,rfl,hM,hX,hx4,hD⟩:=hcut
    replace HM:=hide hM
    have HX:=hide hX
    have HD:=hide hD
    have hl3:l.length≤3:=hX.l3
    have hat1:c1.at_ < 4611686018427387100:=by rw [hD.at1];omega
    clear hM hX hD p1 t1
    apply_assumption
    refine wp_seq_k fun KB hKB=>?_
    go_cut [7,8] (fun wv' nv' W=>Chosen w K pc len B2 ps mb s ms c (.slice wa ws.length wcap) (.slice ma ms.length mc) ws ntn wv' nv' W)
    case first =>
     go_wp2_with fail
     refine (pick_any K pc len c1 14 _ (uh HM).cur (by omega) (by omega) (by omega)).mono ?_
     rintro e wp ⟨⟨x,c2,rfl,hd,hc⟩,hb⟩
     obtain ⟨r,hr⟩:∃ r,r=x % 14:=⟨_,rfl⟩
     have HRX:=hide hr
     have hr14:r < 14:=by omega
     rw [← hr]
     replace HM:=hide ((uh HM).draw hb hc)
     replace HX:=hide ((uh HX).draw hb hpB)
     have HD2:=hide ((uh HD).next hd)
     have HDX:=hide hd
     have hat2:c2.at_ < 4611686018427387200:=by rw [hd.at1];omega
     have hc2:c.at_≤c2.at_∧c2.at_≤c.at_ + 9:=by rw [hd.at1,(uh HD).at1];omega
     have HC2:=hide hc2
     obtain ⟨q0,q1,q2,q3,q4,q5⟩:=(uh HX).cells
     obtain ⟨z0,z1,z2,z3,z4⟩:=(uh HX).fz
     clear hb hc hd hr hc2
     have wr1:IntKind.i64.wrap ((xl:Int) + 1)=xl + 1:=by rw [IntKind.wrap_i64];omega
     rcases (show r=0∨r=1∨r=2∨r=3∨r=4∨r=5∨r=6∨r=7∨r=8∨r=9∨r=10∨r=11∨r=12∨r=13 by omega) with rfl | rfl | rfl | rfl | rfl | rfl | rfl | rfl | rfl | rfl | rfl | rfl | rfl | rfl
     ·as_aux_lemma =>
       go_wp2_with fail
       go_meet
       case rel =>
        have h0:=uh HC2
        refine ⟨c2,wa,wcap,ws,ntn,vv,l,1,cu,tf,(xl:Int) + 1,ByteArray.empty,rfl,rfl,((uh HM).setBox (uh HX)).setBox ((uh HX).kind 1),((uh HX).kind 1).line _,(uh HR).w9,(uh HR).n1,(uh HR).n9,h0.1,by omega,by omega,by omega,.inr ⟨by rw [uh HCU],.inr (.inl ⟨rfl,uh HTF,by omega⟩)⟩⟩
     ·as_aux_lemma =>
       go_wp2_with fail
       go_meet
       case rel =>
        have h0:=uh HC2
        refine ⟨c2,wa,wcap,ws,ntn,vv,l,1,cu,tf,(xl:Int) + 1,ByteArray.empty,rfl,rfl,((uh HM).setBox (uh HX)).setBox ((uh HX).kind 1),((uh HX).kind 1).line _,(uh HR).w9,(uh HR).n1,(uh HR).n9,h0.1,by omega,by omega,by omega,.inr ⟨by rw [uh HCU],.inr (.inl ⟨rfl,uh HTF,by omega⟩)⟩⟩
     ·as_aux_lemma =>
       go_wp2_with fail
       go_meet
       case rel =>
        have h0:=uh HC2
        refine ⟨c2,wa,wcap,ws,ntn,vv,l,1,cu,tf,(xl:Int) + 1,ByteArray.empty,rfl,rfl,((uh HM).setBox (uh HX)).setBox ((uh HX).kind 1),((uh HX).kind 1).line _,(uh HR).w9,(uh HR).n1,(uh HR).n9,h0.1,by omega,by omega,by omega,.inr ⟨by rw [uh HCU],.inr (.inl ⟨rfl,uh HTF,by omega⟩)⟩⟩
     ·as_aux_lemma =>
       go_wp2_with fail
       go_meet
       case rel =>
        have h0:=uh HC2
        refine ⟨c2,wa,wcap,ws,ntn,vv,l,1,cu,tf,(xl:Int) + 1,ByteArray.empty,rfl,rfl,((uh HM).setBox (uh HX)).setBox ((uh HX).kind 1),((uh HX).kind 1).line _,(uh HR).w9,(uh HR).n1,(uh HR).n9,h0.1,by omega,by omega,by omega,.inr ⟨by rw [uh HCU],.inr (.inl ⟨rfl,uh HTF,by omega⟩)⟩⟩
     ·as_aux_lemma =>
       go_wp2_with fail
       go_meet
       case rel =>
        have h0:=uh HC2
        refine ⟨c2,wa,wcap,ws,ntn,vv,l,1,cu,tf,(xl:Int) + 1,ByteArray.empty,rfl,rfl,((uh HM).setBox (uh HX)).setBox ((uh HX).kind 1),((uh HX).kind 1).line _,(uh HR).w9,(uh HR).n1,(uh HR).n9,h0.1,by omega,by omega,by omega,.inr ⟨by rw [uh HCU],.inr (.inl ⟨rfl,uh HTF,by omega⟩)⟩⟩
     ·as_aux_lemma =>
       go_wp2_with fail
       have HM2:=hide ((uh HM).setBox (i:=0) (u:=.int .i64 2) (uh HX))
       have HX2:=hide ((uh HX).kind 2)
       refine (pick_any K pc len c2 4 _ (uh HM2).cur (by omega) (by omega) (by omega)).mono ?_
       rintro e wq ⟨⟨y,c3,rfl,hd,hc⟩,hb⟩
       obtain ⟨ry,hry⟩:∃ ry,ry=y % 4:=⟨_,rfl⟩
       have hry4:ry < 4:=by omega
       rw [← hry]
       replace HM2:=hide ((uh HM2).draw hb hc)
       replace HX2:=hide ((uh HX2).draw hb hpB)
       have HC3:=hide (show c.at_≤c3.at_∧c3.at_≤c.at_ + 10 by have:=uh HC2;rw [hd.at1];omega)
       clear q0 q1 q2 q3 q4 q5 z0 z1 z2 z3 z4
       obtain ⟨-,-,q2,-,-,-⟩:=(uh HX2).cells
       obtain ⟨-,-,z2,-,-⟩:=(uh HX2).fz
       clear hb hc hd hry
       go_wp2_with fail
       go_meet
       case rel =>
        have h0:=uh HC3
        refine ⟨c3,wa,wcap,ws,ntn,vv,l,2,cu,ry,xl,ByteArray.empty,rfl,rfl,(uh HM2).setBox (uh HX2),(uh HX2).fn _,(uh HR).w9,(uh HR).n1,(uh HR).n9,h0.1,by omega,by omega,by omega,.inr ⟨by rw [uh HCU],.inl ⟨rfl,by omega,by omega⟩⟩⟩
     ·as_aux_lemma =>
       go_wp2_with fail
       have HM2:=hide ((uh HM).setBox (i:=0) (u:=.int .i64 2) (uh HX))
       have HX2:=hide ((uh HX).kind 2)
       refine (pick_any K pc len c2 4 _ (uh HM2).cur (by omega) (by omega) (by omega)).mono ?_
       rintro e wq ⟨⟨y,c3,rfl,hd,hc⟩,hb⟩
       obtain ⟨ry,hry⟩:∃ ry,ry=y % 4:=⟨_,rfl⟩
       have hry4:ry < 4:=by omega
       rw [← hry]
       replace HM2:=hide ((uh HM2).draw hb hc)
       replace HX2:=hide ((uh HX2).draw hb hpB)
       have HC3:=hide (show c.at_≤c3.at_∧c3.at_≤c.at_ + 10 by have:=uh HC2;rw [hd.at1];omega)
       clear q0 q1 q2 q3 q4 q5 z0 z1 z2 z3 z4
       obtain ⟨-,-,q2,-,-,-⟩:=(uh HX2).cells
       obtain ⟨-,-,z2,-,-⟩:=(uh HX2).fz
       clear hb hc hd hry
       go_wp2_with fail
       go_meet
       case rel =>
        have h0:=uh HC3
        refine ⟨c3,wa,wcap,ws,ntn,vv,l,2,cu,ry,xl,ByteArray.empty,rfl,rfl,(uh HM2).setBox (uh HX2),(uh HX2).fn _,(uh HR).w9,(uh HR).n1,(uh HR).n9,h0.1,by omega,by omega,by omega,.inr ⟨by rw [uh HCU],.inl ⟨rfl,by omega,by omega⟩⟩⟩
     ·as_aux_lemma =>
       go_wp2_with fail
       have HM2:=hide ((uh HM).setBox (i:=0) (u:=.int .i64 2) (uh HX))
       have HX2:=hide ((uh HX).kind 2)
       refine (pick_any K pc len c2 4 _ (uh HM2).cur (by omega) (by omega) (by omega)).mono ?_
       rintro e wq ⟨⟨y,c3,rfl,hd,hc⟩,hb⟩
       obtain ⟨ry,hry⟩:∃ ry,ry=y % 4:=⟨_,rfl⟩
       have hry4:ry < 4:=by omega
       rw [← hry]
       replace HM2:=hide ((uh HM2).draw hb hc)
       replace HX2:=hide ((uh HX2).draw hb hpB)
       have HC3:=hide (show c.at_≤c3.at_∧c3.at_≤c.at_ + 10 by have:=uh HC2;rw [hd.at1];omega)
       clear q0 q1 q2 q3 q4 q5 z0 z1 z2 z3 z4
       obtain ⟨-,-,q2,-,-,-⟩:=(uh HX2).cells
       obtain ⟨-,-,z2,-,-⟩:=(uh HX2).fz
       clear hb hc hd hry
       go_wp2_with fail
       go_meet
       case rel =>
        have h0:=uh HC3
        refine ⟨c3,wa,wcap,ws,ntn,vv,l,2,cu,ry,xl,ByteArray.empty,rfl,rfl,(uh HM2).setBox (uh HX2),(uh HX2).fn _,(uh HR).w9,(uh HR).n1,(uh HR).n9,h0.1,by omega,by omega,by omega,.inr ⟨by rw [uh HCU],.inl ⟨rfl,by omega,by omega⟩⟩⟩
     ·as_aux_lemma =>
       go_wp2_with fail
       go_meet
       case rel =>
        have h0:=uh HC2
        refine ⟨c2,wa,wcap,ws,ntn,vv,l,3,cu,tf,xl,ByteArray.empty,rfl,rfl,(uh HM).setBox (uh HX),(uh HX).kind 3,(uh HR).w9,(uh HR).n1,(uh HR).n9,h0.1,by omega,by omega,by omega,.inr ⟨by rw [uh HCU],.inr (.inr (.inl ⟨rfl,uh HTF,rfl,rfl,rfl,2 + 2 * l.length + 1,x,by omega,by omega,uh HD2,fun hf=>?_,by have:=uh HRX;omega⟩))⟩⟩
        have:=((uh HDX).far (by have:=(uh HD).at1;omega)).2
        omega
     ·as_aux_lemma =>
       go_wp2_with fail
       go_meet
       case rel =>
        have h0:=uh HC2
        refine ⟨c2,wa,wcap,ws,ntn,vv,l,3,cu,tf,xl,ByteArray.empty,rfl,rfl,(uh HM).setBox (uh HX),(uh HX).kind 3,(uh HR).w9,(uh HR).n1,(uh HR).n9,h0.1,by omega,by omega,by omega,.inr ⟨by rw [uh HCU],.inr (.inr (.inl ⟨rfl,uh HTF,rfl,rfl,rfl,2 + 2 * l.length + 1,x,by omega,by omega,uh HD2,fun hf=>?_,by have:=uh HRX;omega⟩))⟩⟩
        have:=((uh HDX).far (by have:=(uh HD).at1;omega)).2
        omega
     ·as_aux_lemma =>
       go_wp2_with fail
       refine (pick_any K pc len c2 3 _ (uh HM).cur (by omega) (by omega) (by omega)).mono ?_
       rintro e wq ⟨⟨y,c3,rfl,hd,hc⟩,hb⟩
       obtain ⟨ry,hry⟩:∃ ry,ry=y % 3:=⟨_,rfl⟩
       have hry4:ry < 3:=by omega
       rw [← hry]
       have HM2:=hide ((uh HM).draw hb hc)
       have HX2:=hide ((uh HX).draw hb hpB)
       have HC3:=hide (show c.at_≤c3.at_∧c3.at_≤c.at_ + 10 by have:=uh HC2;rw [hd.at1];omega)
       clear q0 q1 q2 q3 q4 q5 z0 z1 z2 z3 z4
       obtain ⟨q0,-,-,-,q4,-⟩:=(uh HX2).cells
       obtain ⟨z0,-,-,-,z4⟩:=(uh HX2).fz
       clear hb hc hd hry
       have wr4:IntKind.i64.wrap (4 + (ry:Int))=4 + ry:=by rw [IntKind.wrap_i64];omega
       go_wp2_with fail
       go_meet
       case rel =>
        have h0:=uh HC3
        refine ⟨c3,wa,wcap,ws,ntn,vv,l,4 + (ry:Int),cu,tf,xl,⟨#[55]⟩,rfl,rfl,((uh HM2).setBox (uh HX2)).setBox ((uh HX2).kind _),((uh HX2).kind _).text _ (by decide),(uh HR).w9,(uh HR).n1,(uh HR).n9,h0.1,by omega,by omega,by omega,.inr ⟨by rw [uh HCU],.inr (.inr (.inr ⟨by omega,by omega,uh HTF⟩))⟩⟩
     ·as_aux_lemma =>
       go_wp2_with fail
       have HM2:=hide (((uh HM).setBox (i:=0) (u:=.int .i64 7) (uh HX)).setBox (i:=2) (u:=.int .i64 0) ((uh HX).kind 7))
       have HX2:=hide (((uh HX).kind 7).fn 0)
       refine (pick_any K pc len c2 2 _ (uh HM2).cur (by omega) (by omega) (by omega)).mono ?_
       rintro e wq ⟨⟨y,c3,rfl,hd,hc⟩,hb⟩
       obtain ⟨ry,hry⟩:∃ ry,ry=y % 2:=⟨_,rfl⟩
       rw [← hry]
       replace HM2:=hide ((uh HM2).draw hb hc)
       replace HX2:=hide ((uh HX2).draw hb hpB)
       have hat3:c3.at_ < 4611686018427387300:=by rw [hd.at1];omega
       have HC3:=hide (show c.at_≤c3.at_∧c3.at_≤c.at_ + 10 by have:=uh HC2;rw [hd.at1];omega)
       clear q0 q1 q2 q3 q4 q5 z0 z1 z2 z3 z4
       obtain ⟨-,q1,-,-,-,-⟩:=(uh HX2).cells
       obtain ⟨-,z1,-,-,-⟩:=(uh HX2).fz
       have p1:=(uh HM2).c1
       rw [← uh HCU] at p1
       clear hb hc hd hry
       have hwl:ws.length < ntn:=(uh HR).n1
       have hn9:ntn≤9:=(uh HR).n9
       rcases (show (ry=0∧ntn < 9)∨ry ≠ 0∨(ry=0∧ntn=9) by omega) with ⟨rfl,ha⟩ | ha | ⟨rfl,rfl⟩
       ·have hn9i:(ntn:Int) < 9:=by omega
        have wr9:IntKind.i64.wrap ((ntn:Int) + 1)=ntn + 1:=by rw [IntKind.wrap_i64];omega
        have hszq:B2≤wq.heap.size:=(uh HM2).bB
        have HMA:=hide ((uh HM2).below (below_new wq (.cells #[.int .i64 cu] 3)))
        have HXA:=hide ((uh HX2).below (below_new wq (.cells #[.int .i64 cu] 3)))
        have HNW:Hid (∀ j u,([.int .i64 cu]:List Value)[j]?=some u→(wq.alloc (.cells #[.int .i64 cu] 3)).cell? ((⟨wq.heap.size,0,none⟩:Addr).add j)=some u) :=
         hide (World.news_of_block (cs:=#[.int .i64 cu]) (t:=3) (fr:=(0,0)) (heap_alloc_new wq _))
        go_wp2_with (at_builtin;refine wpList_append_lies _ (by rfl) _ _ _ (by rfl) B2 3 i0 _ 1 8 Tryz.underlying80 (uh II).1 (uh II).2.1 (uh II).2.2.1 (uh II).2.2.2 rfl (by omega) (.slice wa ws.length wcap) ws.length (ws.map (Value.int .i64)) (by rfl) (uh HMA).wai ⟨wq.heap.size,0,none⟩ 1 1 [.int .i64 cu] (by rfl) (by rfl) (uh HNW) (by simp [Value.oneCell']) (by omega) (by unfold maxLen;omega) (by omega) (by simp;omega) (wq.heap.size + 1) (by simp) ?_;intro g2 cp2 w7 hown hgrow _ _;have HM7:=hide ((uh HMA).waits (ws':=ws ++ [(cu:Int)]) hgrow (by rw [List.length_append,List.map_append];exact hown));have HX7:=hide ((uh HXA).waits (uh HMA).wai hgrow);have q7:=(uh HX7).cells.2.1;have z7:=(uh HX7).fz.2.1;clear hown hgrow)
        go_meet
        case rel =>
         have h0:=uh HC3
         refine ⟨c3,_,_,ws ++ [(cu:Int)],ntn + 1,vv,l,7,ntn,0,xl,ByteArray.empty,by rw [List.length_append];rfl,by simp,(uh HM7).setBox (uh HX7),(uh HX7).task _,fun x hx=>?_,by rw [List.length_append];simp;omega,by omega,h0.1,by omega,by omega,by omega,.inl ⟨rfl,by omega,by omega,rfl⟩⟩
         rcases List.mem_append.1 hx with hx | hx
         ·exact (uh HR).w9 x hx
         ·have:=(uh HR).okay.cur9
          rw [List.mem_singleton.1 hx,uh HCU];omega
       ·have hr0:((ry:Int) == 0)=false:=by simpa using ha
        rcases snoc_cases ws with hws | ⟨r0,xw,hws⟩
        ·have hl0:ws.length=0:=by rw [hws];rfl
         rw [hl0]
         have HL0:=hide hl0
         clear hl0
         go_wp2_with fail
         by_cases hnt:ntn≤1
         ·refine (pick_one pc _ _ (by omega)).mono ?_
          rintro e wz ⟨rfl,rfl⟩
          go_wp2_with fail
          go_meet
          case rel =>
           have h0:=uh HC3
           refine ⟨c3,wa,wcap,ws,ntn,vv,l,7,0,0,xl,ByteArray.empty,by rw [uh HL0],rfl,by rw [← uh HL0];exact (uh HM2).setBox (uh HX2),(uh HX2).task _,(uh HR).w9,hwl,by omega,h0.1,by omega,by omega,by omega,.inl ⟨rfl,by omega,by omega,rfl⟩⟩
         ·refine (pick_any K pc len c3 ntn _ (uh HM2).cur (by omega) (by omega) (by omega)).mono ?_
          rintro e wz ⟨⟨y2,c4,rfl,hd,hc⟩,hb⟩
          obtain ⟨rz,hrz⟩:∃ rz,rz=y2 % ntn:=⟨_,rfl⟩
          have hrz9:rz < 9:=by have:=Nat.mod_lt y2 (show 0 < ntn by omega);omega
          rw [← hrz]
          replace HM2:=hide ((uh HM2).draw hb hc)
          replace HX2:=hide ((uh HX2).draw hb hpB)
          have HC4:=hide (show c.at_≤c4.at_∧c4.at_≤c.at_ + 11 by have:=uh HC3;rw [hd.at1];omega)
          clear q1 z1 p1
          obtain ⟨-,q1,-,-,-,-⟩:=(uh HX2).cells
          obtain ⟨-,z1,-,-,-⟩:=(uh HX2).fz
          clear hb hc hd hrz
          go_wp2_with fail
          go_meet
          case rel =>
           have h0:=uh HC4
           refine ⟨c4,wa,wcap,ws,ntn,vv,l,7,rz,0,xl,ByteArray.empty,by rw [uh HL0],rfl,by rw [← uh HL0];exact (uh HM2).setBox (uh HX2),(uh HX2).task _,(uh HR).w9,hwl,by omega,h0.1,by omega,by omega,by omega,.inl ⟨rfl,by omega,by omega,rfl⟩⟩
        ·obtain ⟨g,cap',e,hgB⟩:=owns_at (uh HM2).wai (by rw [hws];simp)
         injection e with e1 e2 e3
         subst e1
         subst e3
         clear e2
         obtain ⟨wn,hwn⟩:∃ wn,wn=r0.length:=⟨_,rfl⟩
         have hlw:ws.length=wn + 1:=by rw [hws,hwn];simp
         have kw:=(owns_cell (uh HM2).wai wn (.int .i64 xw) (by rw [hws,hwn];simp)).1
         have hx9:=(uh HR).w9 xw (by rw [hws];simp)
         have hwn9:wn < 9:=by omega
         have hcapw:wn + 1≤wcap:=by
          have:=(uh HM2).wai
          rw [hlw] at this
          exact owns_cap this
         have HWS:=hide hws
         have HWN:=hide hwn
         have HLW:=hide hlw
         rw [hlw]
         clear hws hwn hlw
         have wrw:IntKind.i64.wrap (((wn + 1:Nat):Int) - 1)=wn:=by rw [IntKind.wrap_i64];omega
         have wrw2:IntKind.i64.wrap ((wn:Int) + 1 - 1)=wn:=by rw [IntKind.wrap_i64];omega
         have hwi:(0:Int) < (wn:Int) + 1:=by omega
         go_wp2_with fail
         go_meet
         case rel =>
          have h0:=uh HC3
          have hM3:=(uh HM2).setBox (i:=1) (u:=.int .i64 xw) (uh HX2)
          rw [uh HLW] at hM3
          have hM4:=hM3
          rw [uh HWS,uh HWN] at hM3
          refine ⟨c3,_,_,r0,ntn,vv,l,7,xw,0,xl,ByteArray.empty,by rw [← uh HWN],rfl,by have:=hM3.pop;rw [← uh HWN] at this;exact this,(uh HX2).task _,fun x hx=>(uh HR).w9 x (by rw [uh HWS];simp [hx]),by have:=uh HWN;have:=uh HLW;omega,by omega,h0.1,by omega,by omega,by omega,.inl ⟨rfl,by omega,by omega,rfl⟩⟩
       ·have h99:decide ((9:Int) < 9)=false:=by decide
        rcases snoc_cases ws with hws | ⟨r0,xw,hws⟩
        ·have hl0:ws.length=0:=by rw [hws];rfl
         rw [hl0]
         have HL0:=hide hl0
         clear hl0
         go_wp2_with fail
         by_cases hnt:9≤1
         ·exact absurd hnt (by decide)
         ·refine (pick_any K pc len c3 9 _ (uh HM2).cur (by omega) (by omega) (by omega)).mono ?_
          rintro e wz ⟨⟨y2,c4,rfl,hd,hc⟩,hb⟩
          obtain ⟨rz,hrz⟩:∃ rz,rz=y2 % 9:=⟨_,rfl⟩
          have hrz9:rz < 9:=by have:=Nat.mod_lt y2 (show 0 < 9 by omega);omega
          rw [← hrz]
          replace HM2:=hide ((uh HM2).draw hb hc)
          replace HX2:=hide ((uh HX2).draw hb hpB)
          have HC4:=hide (show c.at_≤c4.at_∧c4.at_≤c.at_ + 11 by have:=uh HC3;rw [hd.at1];omega)
          clear q1 z1 p1
          obtain ⟨-,q1,-,-,-,-⟩:=(uh HX2).cells
          obtain ⟨-,z1,-,-,-⟩:=(uh HX2).fz
          clear hb hc hd hrz
          go_wp2_with fail
          go_meet
          case rel =>
           have h0:=uh HC4
           refine ⟨c4,wa,wcap,ws,9,vv,l,7,rz,0,xl,ByteArray.empty,by rw [uh HL0],rfl,by rw [← uh HL0];exact (uh HM2).setBox (uh HX2),(uh HX2).task _,(uh HR).w9,hwl,by omega,h0.1,by omega,by omega,by omega,.inl ⟨rfl,by omega,by omega,rfl⟩⟩
        ·obtain ⟨g,cap',e,hgB⟩:=owns_at (uh HM2).wai (by rw [hws];simp)
         injection e with e1 e2 e3
         subst e1
         subst e3
         clear e2
         obtain ⟨wn,hwn⟩:∃ wn,wn=r0.length:=⟨_,rfl⟩
         have hlw:ws.length=wn + 1:=by rw [hws,hwn];simp
         have kw:=(owns_cell (uh HM2).wai wn (.int .i64 xw) (by rw [hws,hwn];simp)).1
         have hx9:=(uh HR).w9 xw (by rw [hws];simp)
         have hwn9:wn < 9:=by omega
         have hcapw:wn + 1≤wcap:=by
          have:=(uh HM2).wai
          rw [hlw] at this
          exact owns_cap this
         have HWS:=hide hws
         have HWN:=hide hwn
         have HLW:=hide hlw
         rw [hlw]
         clear hws hwn hlw
         have wrw:IntKind.i64.wrap (((wn + 1:Nat):Int) - 1)=wn:=by rw [IntKind.wrap_i64];omega
         have wrw2:IntKind.i64.wrap ((wn:Int) + 1 - 1)=wn:=by rw [IntKind.wrap_i64];omega
         have hwi:(0:Int) < (wn:Int) + 1:=by omega
         go_wp2_with fail
         go_meet
         case rel =>
          have h0:=uh HC3
          have hM3:=(uh HM2).setBox (i:=1) (u:=.int .i64 xw) (uh HX2)
          rw [uh HLW] at hM3
          have hM4:=hM3
          rw [uh HWS,uh HWN] at hM3
          refine ⟨c3,_,_,r0,9,vv,l,7,xw,0,xl,ByteArray.empty,by rw [← uh HWN],rfl,by have:=hM3.pop;rw [← uh HWN] at this;exact this,(uh HX2).task _,fun x hx=>(uh HR).w9 x (by rw [uh HWS];simp [hx]),by have:=uh HWN;have:=uh HLW;omega,by omega,h0.1,by omega,by omega,by omega,.inl ⟨rfl,by omega,by omega,rfl⟩⟩
     ·as_aux_lemma =>
       go_wp2_with fail
       have HM2:=hide ((uh HM).setBox (i:=0) (u:=.int .i64 1) (uh HX))
       have HX2:=hide ((uh HX).kind 1)
       refine (pick_any K pc len c2 2 _ (uh HM2).cur (by omega) (by omega) (by omega)).mono ?_
       rintro e wq ⟨⟨y,c3,rfl,hd,hc⟩,hb⟩
       obtain ⟨ry,hry⟩:∃ ry,ry=y % 2:=⟨_,rfl⟩
       have hry4:ry < 2:=by omega
       rw [← hry]
       replace HM2:=hide ((uh HM2).draw hb hc)
       replace HX2:=hide ((uh HX2).draw hb hpB)
       have HC3:=hide (show c.at_≤c3.at_∧c3.at_≤c.at_ + 10 by have:=uh HC2;rw [hd.at1];omega)
       clear q0 q1 q2 q3 q4 q5 z0 z1 z2 z3 z4
       obtain ⟨-,-,-,q3,-,-⟩:=(uh HX2).cells
       obtain ⟨-,-,-,z3,-⟩:=(uh HX2).fz
       clear hb hc hd hry
       have wr4:IntKind.i64.wrap (1 + (ry:Int))=1 + ry:=by rw [IntKind.wrap_i64];omega
       go_wp2_with fail
       go_meet
       case rel =>
        have h0:=uh HC3
        refine ⟨c3,wa,wcap,ws,ntn,vv,l,1,cu,tf,1 + (ry:Int),ByteArray.empty,rfl,rfl,(uh HM2).setBox (uh HX2),(uh HX2).line _,(uh HR).w9,(uh HR).n1,(uh HR).n9,h0.1,by omega,by omega,by omega,.inr ⟨by rw [uh HCU],.inr (.inl ⟨rfl,uh HTF,by omega⟩)⟩⟩
     ·as_aux_lemma =>
       go_wp2_with fail
       have HM2:=hide ((uh HM).setBox (i:=0) (u:=.int .i64 1) (uh HX))
       have HX2:=hide ((uh HX).kind 1)
       refine (pick_any K pc len c2 2 _ (uh HM2).cur (by omega) (by omega) (by omega)).mono ?_
       rintro e wq ⟨⟨y,c3,rfl,hd,hc⟩,hb⟩
       obtain ⟨ry,hry⟩:∃ ry,ry=y % 2:=⟨_,rfl⟩
       have hry4:ry < 2:=by omega
       rw [← hry]
       replace HM2:=hide ((uh HM2).draw hb hc)
       replace HX2:=hide ((uh HX2).draw hb hpB)
       have HC3:=hide (show c.at_≤c3.at_∧c3.at_≤c.at_ + 10 by have:=uh HC2;rw [hd.at1];omega)
       clear q0 q1 q2 q3 q4 q5 z0 z1 z2 z3 z4
       obtain ⟨-,-,-,q3,-,-⟩:=(uh HX2).cells
       obtain ⟨-,-,-,z3,-⟩:=(uh HX2).fz
       clear hb hc hd hry
       have wr4:IntKind.i64.wrap (1 + (ry:Int))=1 + ry:=by rw [IntKind.wrap_i64];omega
       go_wp2_with fail
       go_meet
       case rel =>
        have h0:=uh HC3
        refine ⟨c3,wa,wcap,ws,ntn,vv,l,1,cu,tf,1 + (ry:Int),ByteArray.empty,rfl,rfl,(uh HM2).setBox (uh HX2),(uh HX2).line _,(uh HR).w9,(uh HR).n1,(uh HR).n9,h0.1,by omega,by omega,by omega,.inr ⟨by rw [uh HCU],.inr (.inl ⟨rfl,uh HTF,by omega⟩)⟩⟩
    case rest =>
     obtain ⟨c',wa',wcap',ws',nt',vv',l',k,tk,fn,ln,tx,rfl,rfl,hM,hX,h9,n1,n9,ha1,ha2,hH⟩:=hcut
     obtain ⟨QQ,hQQ,hH⟩:∃ QQ:Prop,(QQ→(Value.slice wa' ws'.length wcap'=.slice wa ws.length wcap∧ws'=ws∧nt'=ntn∧∃ d x,1≤d∧d≤9∧Draws len d c c'∧(len≤c.at_→x=c'.seed / 1099511627776 % 256)∧(x % 14=8∨x % 14=9)))∧Half s k tk fn ln QQ:=⟨_,id,hH⟩
     have HMb:=hide hM
     have HXb:=hide hX
     have HH:=hide hH
     have HQQ:=hide hQQ
     have H9:=hide h9
     have HN:=hide (And.intro n1 (And.intro n9 (And.intro ha1 ha2)))
     clear hM hX hH hQQ h9 n1 n9 ha1 ha2 HM HX HD
     apply_assumption
     refine wp_seq_k fun KC hKC=>?_
     go_cut [9] (fun m9 W=>m9=.pointer (some ⟨mb,0,none⟩)∧TrMem w K pc len w.heap.size B2 ps W c' s ms (.slice wa' ws'.length wcap') (.slice ma ms.length mc) ws'∧∃ (k fn:Int),Bx B2 mb W (.slice ma ms.length mc) vv' l' k tk fn ln tx∧Half s k tk fn ln QQ∧(k=1→(s.tasks s.cur).length ≠ 0))
     case first =>
      go_wp2_with fail
      refine (top_any (w.heap.size + 3) ps s _ (uh HMb).spec).mono ?_
      rintro e wt ⟨rfl,q,hq⟩
      have HBt:=hide (show Below _ _ wt from by rw [hq];exact below_drewN' _ q)
      clear hq
      replace HMb:=hide ((uh HMb).below (uh HBt))
      replace HXb:=hide ((uh HXb).below (uh HBt))
      obtain ⟨q0,-,q2,-,-,-⟩:=(uh HXb).cells
      obtain ⟨z0,-,z2,-,-⟩:=(uh HXb).fz
      clear HBt
      obtain ⟨tl,htl⟩:∃ tl,tl=(s.tasks s.cur).length:=⟨_,rfl⟩
      rw [← htl]
      have HTL:=hide htl
      clear htl
      by_cases h0:tl=0
      ·as_aux_lemma =>
       have ht:decide ((tl:Int) - 1 < 0)=true:=by simp;omega
       have ht2:(tl:Int) - 1 < 0:=by omega
       by_cases k1:k=1
       ·subst k1
        go_wp2_with fail
        go_meet
        case rel=>exact ⟨rfl,((uh HMb).setBox (uh HXb)).setBox ((uh HXb).kind 2),2,1,((uh HXb).kind 2).fn 1,(uh HH).call,fun e=>by omega⟩
       ·have hk:(k == 1)=false:=by simpa using k1
        have HK1:=hide k1
        clear k1
        go_wp2_with fail
        go_meet
        case rel=>exact ⟨rfl,uh HMb,k,fn,uh HXb,uh HH,fun e=>absurd e (uh HK1)⟩
      ·have ht:decide ((tl:Int) - 1 < 0)=false:=by simp;omega
       have ht2:¬ ((tl:Int) - 1 < 0):=by omega
       go_wp2_with fail
       go_meet
       case rel=>exact ⟨rfl,uh HMb,k,fn,uh HXb,uh HH,fun _=>by rw [← uh HTL];exact h0⟩
     case rest =>
      clear HMb HXb HH
      obtain ⟨rfl,hM,k2,fn2,hX,hH,hk1⟩:=hcut
      obtain ⟨va,vcap,rfl⟩:=owns_slice hX.vars.1
      have HMb:=hide hM
      have HXb:=hide hX
      have HH:=hide hH
      have HK1:=hide hk1
      have hcu9:s.cur < 9:=(uh HR).okay.cur9
      have ht9:=hH.task hcu9
      have hdeep:(s.tasks s.cur).length≤mn + 1:=by rw [uh HMN];exact (uh HR).okay.deep _
      have hpsB:ps < B2:=hM.psB
      obtain ⟨q0,q1,q2,q3,q4,q5⟩:=hX.cells
      clear hM hX hH hk1
      apply_assumption
      refine wp_seq_k fun KD hKD=>?_
      go_cut [9] (fun m9 W=>m9=.pointer (some ⟨mb,0,none⟩)∧TrMem w K pc len w.heap.size B2 ps W c' s ms (.slice wa' ws'.length wcap') (.slice ma ms.length mc) ws'∧Bx B2 mb W (.slice ma ms.length mc) (.slice va l'.length vcap) l' k2 tk fn2 ln tx∧(k2=3→0≤topFrom (s.tasks s.cur)))
      case first =>
       obtain ⟨tv,htv⟩:∃ tv:Int,tv=((s.tasks s.cur).length:Int) - 1:=⟨_,rfl⟩
       have HT:Hid (∀ m,Calls Tryz.prog 86 #[.pointer (some ⟨ps,0,none⟩)] (wc.drewN m) fun e w'=>e=.returned (.int .i64 tv)∧∃ q',w'=(wc.drewN m).drewN q'):=by
        rw [htv]
        exact hide fun m=>top_any (w.heap.size + 3) ps s _ (((uh HMb).below (below_drewN' wc m)).spec)
       have wr200:IntKind.i64.wrap (tv + 1)=tv + 1:=by rw [IntKind.wrap_i64];omega
       have n200:(tv + 1 == 200)=false:=by simp;omega
       by_cases k3:k2=3
       ·subst k3
        obtain ⟨bt,V,hh⟩:=(uh HMb).spec
        have h0:=hh.c0
        have hc1:=hh.c1
        have hi2:=hh.cur
        have hc:=hh.row.cell hi2
        have ho:=hh.own _ hi2
        clear hh
        cases hs:s.tasks s.cur with
        | nil =>
         as_aux_lemma =>
          have hneg:tv < 0:=by rw [htv,hs];decide
          have hneg2:decide (tv < 0)=true:=by simpa using hneg
          clear htv hc ho h0 hc1
          have HS:=hide hs
          clear hs
          go_wp2_with fail
          go_quiet ((go_at_call 86;exact Calls.quiet_of (uh HT _)))
          generalize hw2:wc.drewN _=w2
          have HB2:Hid (Below wc.heap.size wc w2):=by rw [← hw2];exact hide (below_drewN' _ _)
          clear hw2
          go_wp2_with fail
          obtain ⟨hwv,hws,hnt,d,x,d1,d9,hd,hx,h8⟩:=uh HQQ (uh HH).leave
          have hm2:TrMem w K pc len w.heap.size B2 ps w2 c' s ms (.slice wa ws.length wcap) (.slice ma ms.length mc) ws:=by
           have:=(uh HMb).below (uh HB2)
           rw [hwv,hws] at this
           exact this
          obtain ⟨g',t2,hg',hR'⟩:=(uh HR).again hm2 d1 d9 hd hx h8
          go_roundg g'
          case measure=>exact hg'
          case rel=>exact ⟨c',s,ms,wa,wcap,.slice ma ms.length mc,ws,ntn,t2,hwv,by rw [hnt],by rw [hwv];exact hR'⟩
        | cons f r =>
         rw [hs] at ho
         obtain ⟨g,cap,hV,hgB,hgl,e0,e1,e2,kf⟩:=owns_top ho
         rw [hV] at hc
         obtain ⟨tn,htn⟩:∃ tn,tn=r.length:=⟨_,rfl⟩
         rw [← htn] at e0 e1 e2 hc kf
         have htv2:tv=(tn:Int):=by rw [htv,hs,htn];simp
         subst htv2
         have hpos:¬ ((tn:Int) < 0):=by omega
         have hpos2:decide ((tn:Int) < 0)=false:=by simp
         have HFR:Hid (topFrom (s.tasks s.cur)=f.frm):=by rw [hs];rfl
         obtain ⟨cq,hcq⟩:∃ cq,cq=s.cur:=⟨_,rfl⟩
         rw [← hcq] at hc1 hc hi2
         have hlr:∃ x,x=f.frm:=⟨_,rfl⟩
         obtain ⟨fr,hfr⟩:=hlr
         rw [← hfr] at e2 HFR
         have hr200:tn < 200:=by rw [hs] at hdeep;simp at hdeep;omega
         clear htv ho hs hV hcq hfr htn
         have hj1:(0:Int)≤(cq:Int):=by omega
         have hj2:(cq:Int) < 101:=by omega
         clear hi2
         obtain ⟨tm,htm⟩:∃ tm,tm=tn + 1:=⟨_,rfl⟩
         rw [← htm] at hc
         have hj3:(0:Int)≤(tn:Int):=by omega
         have hj4:(tn:Int) < (tm:Int):=by omega
         clear htm
         by_cases hfn:fr < 0
         ·as_aux_lemma =>
           have hfn2:decide (fr < 0)=true:=by simpa using hfn
           go_wp2_with fail
           go_quiet ((go_at_call 86;exact Calls.quiet_of (uh HT _)))
           generalize hw2:wc.drewN _=w2
           have HB2:Hid (Below wc.heap.size wc w2):=by rw [← hw2];exact hide (below_drewN' _ _)
           clear hw2
           go_wp2_with fail
           obtain ⟨hwv,hws,hnt,d,x,d1,d9,hd,hx,h8⟩:=uh HQQ (uh HH).leave
           have hm2:TrMem w K pc len w.heap.size B2 ps w2 c' s ms (.slice wa ws.length wcap) (.slice ma ms.length mc) ws:=by
            have:=(uh HMb).below (uh HB2)
            rw [hwv,hws] at this
            exact this
           obtain ⟨g',t2,hg',hR'⟩:=(uh HR).again hm2 d1 d9 hd hx h8
           go_roundg g'
           case measure=>exact hg'
           case rel=>exact ⟨c',s,ms,wa,wcap,.slice ma ms.length mc,ws,ntn,t2,hwv,by rw [hnt],by rw [hwv];exact hR'⟩
         ·as_aux_lemma =>
           have hfn2:decide (fr < 0)=false:=by simpa using hfn
           go_wp2_with fail
           go_quiet ((go_at_call 86;exact Calls.quiet_of (uh HT _)))
           generalize hw2:wc.drewN _=w2
           have HB2:Hid (Below wc.heap.size wc w2):=by rw [← hw2];exact hide (below_drewN' _ _)
           clear hw2
           go_wp2_with fail
           go_meet
           case rel=>exact ⟨rfl,(uh HMb).below (uh HB2),(uh HXb).below (uh HB2),fun _=>by rw [uh HFR];omega⟩
       ·as_aux_lemma =>
         have hk3:(k2 == 3)=false:=by simpa using k3
         have HK3:=hide k3
         clear k3 htv
         go_wp2_with fail
         go_quiet ((go_at_call 86;exact Calls.quiet_of (uh HT _)))
         generalize hw2:wc.drewN _=w2
         have HB2:Hid (Below wc.heap.size wc w2):=by rw [← hw2];exact hide (below_drewN' _ _)
         clear hw2
         go_wp2_with fail
         go_meet
         case rel=>exact ⟨rfl,(uh HMb).below (uh HB2),(uh HXb).below (uh HB2),fun e=>absurd e (uh HK3)⟩
      case rest =>
       clear HMb HXb q0 q1 q2 q3 q4 q5
       obtain ⟨rfl,hM,hX,hf0⟩:=hcut
       obtain ⟨hmo,hcode⟩:=((uh HH).good (uh HK1) hf0).ok (x:=⟨k2,tk,fn2,ln,tx,.slice va l'.length vcap,l'⟩) (uh HR).okay (by rw [← uh HMN];omega) hX.tx1 hX.l3 hX.vars.2
       have HG:=hide ((uh HH).good (uh HK1) hf0)
       have HMO:=hide hmo
       have HCO:Hid (code s k2 tk fn2=0):=hide hcode
       have HMb:=hide hM
       have HXb:=hide hX
       obtain ⟨q0,q1,q2,q3,q4,q5⟩:=hX.cells
       have t1:wc.cell? ⟨w.heap.size + 1 + 1,1,none⟩=some (.slice ma mn mc):=by rw [uh HMN];exact hM.t1
       clear hM hX hf0 hmo hcode
       go_wp2_with fail
       refine (move_any (w.heap.size + 3) ps s k2 tk fn2 ln mn tx (.slice va l'.length vcap) _ (uh HMb).spec (by omega) (by omega)).mono ?_
       rintro e wm ⟨rfl,hst,hbm,hkp⟩
       have HMm:=hide ((uh HMb).move (hst (uh HCO)) hbm hkp)
       have HXm:=hide ((uh HXb).keeps hkp hpsB)
       rw [uh HCO]
       clear hst hbm hkp q0 q1 q2 q3 q4 q5 t1
       obtain ⟨q0,q1,q2,q3,q4,q5⟩:=(uh HXm).cells
       have t1:wm.cell? ⟨w.heap.size + 1 + 1,1,none⟩=some (.slice ma mn mc):=by rw [uh HMN];exact (uh HMm).t1
       have hszm:B2≤wm.heap.size:=(uh HMm).bB
       have hNB:w.heap.size + 3≤B2:=(uh HMm).nb
       have HMA:=hide ((uh HMm).below (below_new wm (.cells #[.int .i64 k2,.int .i64 tk,.int .i64 fn2,.int .i64 ln,.string tx,.slice va l'.length vcap] 108)))
       have HXA:=hide ((uh HXm).below (below_new wm (.cells #[.int .i64 k2,.int .i64 tk,.int .i64 fn2,.int .i64 ln,.string tx,.slice va l'.length vcap] 108)))
       have HNW:Hid (∀ j u,([.int .i64 k2,.int .i64 tk,.int .i64 fn2,.int .i64 ln,.string tx,.slice va l'.length vcap]:List Value)[j]?=some u→(wm.alloc (.cells #[.int .i64 k2,.int .i64 tk,.int .i64 fn2,.int .i64 ln,.string tx,.slice va l'.length vcap] 108)).cell? ((⟨wm.heap.size,0,none⟩:Addr).add j)=some u) :=
        hide (World.news_of_block (cs:=#[.int .i64 k2,.int .i64 tk,.int .i64 fn2,.int .i64 ln,.string tx,.slice va l'.length vcap]) (t:=108) (fr:=(0,0)) (heap_alloc_new wm _))
       have HRW:=hide (uh HMA).mom.row
       rw [← uh HMN] at HRW
       go_wp2_with (at_builtin;refine wpList_append_lies _ (by rfl) _ _ _ (by rfl) B2 108 i1 _ 6 72 Tryz.underlying24 (uh IM).1 (uh IM).2.1 (uh IM).2.2.1 (uh IM).2.2.2 rfl (by omega) (.slice ma mn mc) mn (momCells ms) (by rfl) (uh HRW) ⟨wm.heap.size,0,none⟩ 1 1 [.int .i64 k2,.int .i64 tk,.int .i64 fn2,.int .i64 ln,.string tx,.slice va l'.length vcap] (by rfl) (by rfl) (uh HNW) (by simp [Value.oneCell']) (by omega) (by unfold maxLen;omega) (by omega) (by simp;omega) (wm.heap.size + 1) (by simp) ?_;intro g2 cp2 w7 hown hgrow _ _;have HW7:=hide hown;have HG7:=hide hgrow;have hb7:=Below.grown (Below.refl B2 _) hgrow (by simp;omega) (fun k hk=>((uh HRW).lt k hk).1);have t7:w7.cell? ⟨w.heap.size + 1 + 1,1,none⟩=some (.slice ma mn mc):=(by rw [hb7.cell (show w.heap.size + 1 + 1 < B2 by omega)];exact cell_below (below_new wm _) t1);have f7:w7.frozen? ⟨w.heap.size + 1 + 1,1,none⟩=false:=(by have hbk:=hb7.block (w.heap.size + 2) (by omega);have:=(uh HMA).tbx;rw [← hbk] at this;simp [World.frozen?,this]);clear hown hgrow hb7)
       have e:=uh HMN
       subst e
       have hn4:=uh HN
       have ho7:w7.ownsRow B2 108 6 (.slice (some ⟨g2,0,none⟩) (ms.length + 1) cp2) (ms ++ [(⟨k2,tk,fn2,ln,tx,.slice va l'.length vcap,l'⟩:Mo)]).length (momCells (ms ++ [(⟨k2,tk,fn2,ln,tx,.slice va l'.length vcap,l'⟩:Mo)])):=by
        rw [List.length_append,momCells_app,List.length_singleton]
        exact uh HW7
       have hm7:=(uh HMA).moms ⟨k2,tk,fn2,ln,tx,.slice va l'.length vcap,l'⟩ (uh HG7) ho7 (uh HXA).vars (uh HXA).l3 (uh HXA).tx1
       obtain ⟨g',t2,hg',hR'⟩:=(uh HR).next hm7 hlt (Path.snoc _ (uh HR).path (uh HMO) (uh HCO)) ((uh HG).step (uh HR).okay _) (uh H9) hn4.1 hn4.2.1 hn4.2.2.1 hn4.2.2.2
       go_roundg g'
       case measure=>exact hg'
       case rel=>exact ⟨c',_,ms ++ [(⟨k2,tk,fn2,ln,tx,.slice va l'.length vcap,l'⟩:Mo)],wa',wcap',_,ws',nt',t2,rfl,rfl,hR'⟩
  ·have hmn2:mn=n:=by omega
   have hi1:¬ ((mn:Int) < (n:Int)):=by omega
   have hi2:decide ((mn:Int) < (n:Int))=false:=by simpa using hi1
   obtain ⟨ds,dm,dd⟩:=(uh HR).drawn (by rw [← uh HMN];exact hmn2) hn
   have DS:=hide ds
   have DM:=hide dm
   have DD:=hide dd
   have HBW:=hide (uh HM).betw
   have hN:w.heap.size < wr.heap.size:=by have:=heap_lt (uh HM).rbx;omega
   have t0:wr.cell? ⟨w.heap.size + 1 + 1,0,none⟩=some (.slice (some ⟨w.heap.size + 1,0,none⟩) 4 4):=by rw [cell_of_row wr (w.heap.size + 2) 0 _ _ _ (uh HM).tbx];rfl
   have r0:wr.cell? ⟨w.heap.size,0,none⟩=some (.slice none 0 0):=by rw [cell_of_row wr w.heap.size 0 _ _ _ (uh HM).rbx];rfl
   have r1:wr.cell? ⟨w.heap.size,1,none⟩=some (.slice none 0 0):=by rw [cell_of_row wr w.heap.size 1 _ _ _ (uh HM).rbx];rfl
   have f0:wr.frozen? ⟨w.heap.size,0,none⟩=false:=by simp [World.frozen?,(uh HM).rbx]
   have f1:wr.frozen? ⟨w.heap.size,1,none⟩=false:=by simp [World.frozen?,(uh HM).rbx]
   clear ds dm dd
   go_wp2_with fail
   have hx0:(w.heap.size + 1 + 1) ≠ w.heap.size:=by omega
   have e:(Value.slice ma ms.length mc)=.slice ma n mc:=by rw [← uh HMN,hmn2]
   rw [e] at DM
   refine bodyPost_ret (v:=.agg #[.slice (some ⟨w.heap.size + 1,0,none⟩) 4 4,.slice ma n mc]) (by simp [results,Tryz.results35,go_sem,r0,r1]) rfl ?_
   refine ⟨⟨.slice (some ⟨w.heap.size + 1,0,none⟩) 4 4,.slice ma n mc,rfl,?_,ms,?_,uh DD,by rw [← uh HMN,hmn2],?_⟩,?_,?_⟩
   ·exact (((uh DS).set (q:=⟨w.heap.size,0,none⟩) (by simp)).set (q:=⟨w.heap.size,1,none⟩) (by simp)).low (by omega)
   ·exact (((uh DM).set (q:=⟨w.heap.size,0,none⟩) (by simp)).set (q:=⟨w.heap.size,1,none⟩) (by simp)).low (by omega)
   ·have ht:=TrOwn.drawn (uh HM).fnx (uh HM).mom (by have:=(uh HM).nb;omega)
    rw [e] at ht
    exact (ht.from (fun b hb _=>by rw [heap_setCell_other _ _ _ _ (show b ≠ w.heap.size by omega),heap_setCell_other _ _ _ _ (show b ≠ w.heap.size by omega)])).low (by omega)
   ·exact (uh HBW).onw (((Below.refl _ _).setCell (p:=⟨w.heap.size,0,none⟩) (Nat.le_refl _) _).setCell (p:=⟨w.heap.size,1,none⟩) (Nat.le_refl _) _)
   ·exact ⟨c,(uh HM).cur.below (((Below.refl _ _).setCell (p:=⟨w.heap.size,0,none⟩) (uh HM).kn _).setCell (p:=⟨w.heap.size,1,none⟩) (uh HM).kn _),by have:=(uh HR).att;have:=(uh HR).t48;have:=(uh HR).msn;omega⟩
end Go.Proofs.YtmnmeaeicjhkhaaGreatDoor
