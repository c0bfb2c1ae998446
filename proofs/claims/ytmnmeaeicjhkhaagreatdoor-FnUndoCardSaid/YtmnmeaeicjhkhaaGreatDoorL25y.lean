import Derived.Test.YtmnmeaeicjhkhaaGreatDoorGNy
import Derived.Test.YtmnmeaeicjhkhaaGreatDoorGYey
import Derived.Test.YtmnmeaeicjhkhaaGreatDoorGZay
import Derived.Deep.LoopGhost
set_option maxRecDepth 100000
set_option maxHeartbeats 16000000
namespace Go.Proofs.YtmnmeaeicjhkhaaGreatDoor
open Go.RowKit Go.Lib
theorem fnUndo_any (hdr:DrawsWell) (v v':Value) (len len':Nat) (w:World) (h:BytesAt w v len) (h':BytesAt w v' len') (hg:w.cell? ⟨0,0,none⟩=some (.iface 298 (.agg #[.pointer (some ⟨4,99,none⟩)]))) :
  Calls Tryz.prog 4 #[v,v'] w fun e w'=>e=.returned (.bool true)∧Below w.heap.size w w':=by
 have H:=hide h
 have H':=hide h'
 have HDR:=hide hdr
 have HG:=hide hg
 obtain ⟨i0,hi0,hz0,hz1,hz2⟩:=info_parts info_Ask
 have II:=hide (And.intro hi0 (And.intro hz0 (And.intro hz1 hz2)));clear hi0 hz0 hz1 hz2
 obtain ⟨a,cap,rfl,_⟩:=h
 obtain ⟨a',cap',rfl,_⟩:=h'
 clear hdr hg
 by_cases hlen:len≤1048576
 ·have hle2:decide ((1048576:Int) < (len:Int))=false:=by simp;omega
  by_cases hlen':len'≤1048576
  ·have hle2':decide ((1048576:Int) < (len':Int))=false:=by simp;omega
   go_enter Tryz.func4,Tryz.ntmps4
   go_wp2_with fail
   refine (uh HDR _ len _ (uh H) hlen).mono ?_
   rintro e wd ⟨⟨v1,v2,n,ms,rfl,hn,hs,hm,hso⟩,hb⟩
   obtain ⟨f,hf⟩:∃ f,f=momOf ms:=⟨_,rfl⟩
   rw [← hf] at hm hso
   clear hf
   have DS:=hide hs
   have DM:=hide hm
   have DD:=hide hso
   have HB:=hide hb
   have HV:=hide (bytes_below (uh H') hb)
   obtain ⟨a1,cap1,rfl,_⟩:=hs
   obtain ⟨a2,cap2,rfl,_⟩:=hm
   clear hso hb hle2 hle2' H H' HDR hlen
   have X0:=hide (heap_alloc_new wd (.cells #[.slice a1 4 cap1,.slice a2 n cap2] 26))
   have B0:=hide (below_new wd (.cells #[.slice a1 4 cap1,.slice a2 n cap2] 26))
   go_wp2_with fail
   refine (asks_any w.heap.size _ _ _ len' n f _ (bytes_below (uh HV) (uh B0)) hlen' ((uh DM).below (uh B0)) hn).mono ?_
   rintro e w1 ⟨⟨av,l,rfl,hl23,hrow,hz⟩,hb1⟩
   have B1:=hide ((uh B0).trans (hb1.mono (uh B0).size))
   have X1:=hide ((hb1.block _ (heap_ltx (uh X0))).trans (uh X0))
   have HROW:Hid (w1.ownsRow (wd.heap.size + 1) 47 7 av l.length (akCells l)):=hide (by simpa using hrow)
   have HZ:=hide hz
   obtain ⟨aa,ac,rfl⟩:=owns_slice hrow
   clear hrow hz hb1 X0 B0 HV
   obtain ⟨na,hna⟩:∃ na,na=l.length:=⟨_,rfl⟩
   rw [← hna] at hl23 HROW ⊢
   have HNA:=hide hna
   have x0:w1.cell? ⟨wd.heap.size,0,none⟩=some (.slice a1 4 cap1):=by rw [cell_of_row w1 wd.heap.size 0 _ _ _ (uh X1)];rfl
   have x1:w1.cell? ⟨wd.heap.size,1,none⟩=some (.slice a2 n cap2):=by rw [cell_of_row w1 wd.heap.size 1 _ _ _ (uh X1)];rfl
   have HAK:Hid (AksAt (wd.heap.size + 1) w1 (.slice aa na ac) na (fun i=>l.getD i Ak.nul)):=hide (by
    have:=aks_of_row (B:=wd.heap.size + 1) (w:=w1) (v:=.slice aa na ac) (l:=l) (by rw [← hna];exact uh HROW) (by omega) (uh HZ)
    rw [← hna] at this
    exact this)
   clear hna
   go_wp2_with fail
   refine (specLook_any _ _ _ _ _ 4 drawnFns n f na _ _ ((uh DS).below (uh B1)) ((uh DM).below (uh B1)) (uh HAK)).mono ?_
   rintro e w2 ⟨⟨vw,tw,rfl,haw,htw⟩,hb2⟩
   have hask:∃ s',Asked n f ⟨-1,[],[]⟩ l s' (tw.map fun x=>(x.at_,x.d)):=by
    rcases haw with ⟨_,s',h⟩ | ⟨h,_⟩
    ·rw [uh HNA,range_getD] at h;exact ⟨s',h⟩
    ·exact absurd ⟨uh DD,by omega⟩ h
   obtain ⟨s',hask⟩:=hask
   have hlt:tw.length=na:=by have:=hask.len;rw [List.length_map,← uh HNA] at this;exact this
   obtain ⟨p,hp⟩:∃ p,p=s'.past.length:=⟨_,rfl⟩
   obtain ⟨g,hg⟩:∃ g,g=mvAt l (tw.map fun x=>(x.at_,x.d)):=⟨_,rfl⟩
   have hmv:=hask.moves rfl rfl
   rw [← hp,← hg,← uh HNA] at hmv
   have HASK:=hide hask
   have HHM:=hide hmv.2
   have HP:=hide hp
   have HGD:=hide hg
   have hpn:(p:Int)=sumTo g na:=hmv.1
   have hp23:p≤na:=by have:=(sumTo_le l (tw.map fun x=>(x.at_,x.d)) na).2;rw [← hg] at this;omega
   have HPN:=hide hpn
   have hbnd:∀ i:Nat,-(i:Int)≤sumTo g i∧sumTo g i≤i:=by rw [hg];exact sumTo_le l _
   have HBND:=hide hbnd
   have HTW:=hide htw
   obtain ⟨wa,wcp,rfl⟩:=owns_slice htw.row
   rw [hlt] at HTW ⊢
   have HRW:Hid (w2.ownsRow w1.heap.size 38 6 (.slice wa na wcp) na (tlCells tw)):=hide (by have:=(uh HTW).row;rw [hlt] at this;exact this)
   have B2:=hide ((uh B1).trans (hb2.mono (uh B1).size))
   have X2:=hide ((hb2.block _ (heap_ltx (uh X1))).trans (uh X1))
   have HROW2:=hide (owns_below (uh HROW) hb2)
   have HLT:=hide hlt
   clear hbnd hb2 haw htw hask hmv hp hg hpn hlt x0 x1 B1 X1 HROW HAK
   go_wp2
   go_loopw [7,31] (fun mvv iv wr=>∃ (i:Nat),i≤na∧iv=.int .i64 i∧mvv=.int .i64 (sumTo g i)∧Below w2.heap.size w2 wr) (fun _ iv _=>na - (intOf iv).toNat)
   case atStart=>exact ⟨0,by omega,rfl,rfl,Below.refl _ _⟩
   case round =>
    obtain ⟨i,hi,rfl,rfl,hb⟩:=hrel
    have HBR:=hide hb
    by_cases hlt:i < na
    ·obtain ⟨x,hx⟩:∃ x,tw[i]?=some x:=⟨_,List.getElem?_eq_getElem (by rw [uh HLT];exact hlt)⟩
     obtain ⟨y,hy⟩:∃ y,l[i]?=some y:=⟨_,List.getElem?_eq_getElem (by rw [← uh HNA];exact hlt)⟩
     have hgi:g i=mv y x.d:=by
      rw [uh HGD]
      unfold mvAt
      rw [List.getD_eq_getElem?_getD,List.getD_eq_getElem?_getD,hy,List.getElem?_map,hx]
      rfl
     have HGI:=hide hgi
     obtain ⟨gb,hgb⟩:∃ gb,wa=some ⟨gb,0,none⟩:=by
      rcases (uh HRW).2 with ⟨_,h0⟩ | ⟨g,cap,cur,hv,_⟩
      ·omega
      ·cases hv;exact ⟨g,rfl⟩
     obtain ⟨ga,hga⟩:∃ ga,aa=some ⟨ga,0,none⟩:=by
      rcases (uh HROW2).2 with ⟨_,h0⟩ | ⟨g,cap,cur,hv,_⟩
      ·omega
      ·cases hv;exact ⟨g,rfl⟩
     subst hgb
     subst hga
     obtain ⟨e0,e1,e2,e3,e4,e5⟩:=tlCells_get _ i _ hx
     obtain ⟨k0,-⟩:=akCells_get _ i _ hy
     have HO:=owns_below (uh HRW) hb
     have HO':=owns_below (uh HROW2) hb
     obtain ⟨c0,-⟩:=owns_cell HO _ _ e0
     obtain ⟨c1,-⟩:=owns_cell HO _ _ e1
     obtain ⟨c2,-⟩:=owns_cell HO _ _ e2
     obtain ⟨c3,-⟩:=owns_cell HO _ _ e3
     obtain ⟨c4,-⟩:=owns_cell HO _ _ e4
     obtain ⟨c5,-⟩:=owns_cell HO _ _ e5
     obtain ⟨d0,-⟩:=owns_cell HO' _ _ k0
     have hi1:(0:Int)≤(i:Int):=by omega
     have hi2:(i:Int) < (na:Int):=by omega
     have hb1:=(uh HBND i).1
     have hb2:=(uh HBND i).2
     obtain ⟨S,hS⟩:∃ S,S=sumTo g i:=⟨_,rfl⟩
     rw [← hS] at hb1 hb2 ⊢
     have HS:=hide hS
     obtain ⟨cd,hcd⟩:∃ cd,cd=x.d.code:=⟨_,rfl⟩
     obtain ⟨op,hop⟩:∃ op,op=y.op:=⟨_,rfl⟩
     rw [← hcd] at c1
     rw [← hop] at d0
     have HCD:=hide hcd
     have HOP:=hide hop
     generalize x.at_=q0 at c0
     generalize x.d.num=q2 at c2
     generalize x.d.text=q3 at c3
     obtain ⟨a5,p5,h5⟩:=owns_slice ((uh HTW).fr x (List.mem_iff_getElem?.2 ⟨i,hx⟩))
     obtain ⟨a6,p6,h6⟩:=owns_slice ((uh HTW).vs x (List.mem_iff_getElem?.2 ⟨i,hx⟩)).row
     rw [h5] at c4
     rw [h6] at c5
     generalize x.d.fr.length=n5 at c4
     generalize x.d.vs.length=n6 at c5
     have HBX:Hid (Below w2.heap.size w2 (wr.alloc (.cells #[.int .i64 q0,.int .i64 cd,.int .i64 q2,.string q3,.slice a5 n5 p5,.slice a6 n6 p6] 38))):=hide (hb.alloc (uh HBR).size _)
     have d0':(wr.alloc (.cells #[.int .i64 q0,.int .i64 cd,.int .i64 q2,.string q3,.slice a5 n5 p5,.slice a6 n6 p6] 38)).cell? ⟨ga,i * 7,none⟩=some (.int .i64 op):=cell_below (below_new wr _) d0
     have hfin:∀ m:Int,mv y x.d=m→sumTo g (i + 1)=S + m:=fun m hm=>by
      show sumTo g i + g i=S + m
      rw [uh HGI,hm,← uh HS]
     have HFIN:=hide hfin
     clear hb h5 h6 HO HO' e0 e1 e2 e3 e4 e5 k0 hx hy hgi hS hcd hop hfin
     clear HG II DS DM DD HB HASK HHM HP HPN HTW HRW B2 X2 HROW2 HZ HLT HBND HGD HGI HS
     by_cases hc:cd=0
     ·subst hc
      rcases (by omega:(3≤op∧op≤7)∨op=8∨op=9∨op < 3∨9 < op) with ⟨h3,h7⟩ | rfl | rfl | h3 | h9
      ·have e8:(op == 8)=false:=by simp;omega
       go_wp2
       go_roundw
       case rel=>exact ⟨i + 1,by omega,by go_num,by rw [uh HFIN 1 (mv_one (uh HCD).symm (by rw [← uh HOP];exact .inl ⟨h3,h7⟩))],uh HBX⟩
       case measure=>simp [intOf];omega
      ·go_wp2
       go_roundw
       case rel=>exact ⟨i + 1,by omega,by go_num,by rw [uh HFIN (-1) (mv_undo (uh HCD).symm (uh HOP).symm)];rfl,uh HBX⟩
       case measure=>simp [intOf];omega
      ·go_wp2
       go_roundw
       case rel=>exact ⟨i + 1,by omega,by go_num,by rw [uh HFIN 1 (mv_one (uh HCD).symm (.inr (uh HOP).symm))],uh HBX⟩
       case measure=>simp [intOf];omega
      ·have h3':¬ 3≤op:=by omega
       have e9:(op == 9)=false:=by simp;omega
       have e8:(op == 8)=false:=by simp;omega
       go_wp2
       go_roundw
       case rel=>exact ⟨i + 1,by omega,by go_num,by rw [uh HFIN 0 (mv_zero (by rw [← uh HOP];omega) (by rw [← uh HOP];omega)),Int.add_zero],uh HBX⟩
       case measure=>simp [intOf];omega
      ·have h3:3≤op:=by omega
       have h7:¬ op≤7:=by omega
       have e9:(op == 9)=false:=by simp;omega
       have e8:(op == 8)=false:=by simp;omega
       go_wp2
       go_roundw
       case rel=>exact ⟨i + 1,by omega,by go_num,by rw [uh HFIN 0 (mv_zero (by rw [← uh HOP];omega) (by rw [← uh HOP];omega)),Int.add_zero],uh HBX⟩
       case measure=>simp [intOf];omega
     ·have ec:(cd == 0)=false:=by simpa using hc
      go_wp2
      go_roundw
      case rel=>exact ⟨i + 1,by omega,by go_num,by rw [uh HFIN 0 (mv_bad (by rw [← uh HCD];exact hc)),Int.add_zero],uh HBX⟩
      case measure=>simp [intOf];omega
    ·have e:i=na:=by omega
     subst e
     rw [← uh HPN]
     have hbw:Below (wd.heap.size + 1) w2 wr:=(uh HBR).mono (heap_ltx (uh X2))
     have HROW3:=hide (owns_below (uh HROW2) (uh HBR))
     have B3:=hide ((uh B2).trans (hbw.mono (by omega)))
     have X3:=hide ((hbw.block _ (by omega)).trans (uh X2))
     have hszr:wd.heap.size + 1≤wr.heap.size:=heap_ltx (uh X3)
     clear hbw HBR HRW HROW2 B2 X2 HTW HBND HGD HPN
     go_wp2
     go_loopw [6,11] (fun av iv wx=>∃ (j:Nat) (oa:Option Addr) (oc:Nat),j≤p + 1∧iv=.int .i64 j∧av=.slice oa (i + j) oc∧wx.ownsRow (wd.heap.size + 1) 47 7 av (i + j) (akCells (l ++ List.replicate j undoA))∧Below (wd.heap.size + 1) wr wx) (fun _ iv _=>p + 1 - (intOf iv).toNat)
     case atStart=>exact ⟨0,aa,ac,by omega,rfl,rfl,by simpa using uh HROW3,Below.refl _ _⟩
     case round =>
      obtain ⟨j,oa,oc,hj,rfl,rfl,hro,hbb⟩:=hrel
      have HRO:=hide hro
      have HBB:=hide hbb
      have hszw:wd.heap.size + 1≤wr.heap.size:=Nat.le_trans hszr hbb.size
      clear hro hbb
      by_cases hjp:j≤p
      ·have hjp':(j:Int)≤(p:Int):=by omega
       have BL:=hide (below_new wr (.cells #[.int .i64 8,.int .i64 0,.string ⟨#[]⟩,.int .i64 0,.int .i64 0,.int .i64 0,.string ⟨#[]⟩] 47))
       have HOW:=hide (owns_below (uh HRO) (uh BL))
       have HNW:=hide (World.news_of_block (cs:=#[.int .i64 8,.int .i64 0,.string ⟨#[]⟩,.int .i64 0,.int .i64 0,.int .i64 0,.string ⟨#[]⟩]) (t:=47) (fr:=(0,0)) (heap_alloc_new wr (.cells #[.int .i64 8,.int .i64 0,.string ⟨#[]⟩,.int .i64 0,.int .i64 0,.int .i64 0,.string ⟨#[]⟩] 47)))
       go_wp2_with (at_builtin;refine wpList_append_lies _ (by rfl) _ _ _ (by rfl) (wd.heap.size + 1) 47 i0 _ 7 72 Tryz.underlying28 (uh II).1 (uh II).2.1 (uh II).2.2.1 (uh II).2.2.2 rfl (by omega) (.slice oa (i + j) oc) (i + j) (akCells (l ++ List.replicate j undoA)) (by rfl) (uh HOW) ⟨wr.heap.size,0,none⟩ 1 1 [.int .i64 8,.int .i64 0,.string ⟨#[]⟩,.int .i64 0,.int .i64 0,.int .i64 0,.string ⟨#[]⟩] (by rfl) (by rfl) (uh HNW) (by simp [Value.oneCell']) (by omega) (by unfold maxLen;omega) (by omega) (by simp;omega) (wr.heap.size + 1) (by simp) ?_;intro g2 cp2 w7 hown7 hgrow _ _;have HO7:=hide hown7;have HG7:=hide hgrow;clear hown7 hgrow)
       have HBG:Hid (Below (wd.heap.size + 1) wr w7):=hide (Below.grown ((uh BL).mono hszw) (uh HG7) (by simp;omega) (fun k hk=>((uh HRO).lt k hk).1))
       go_roundw
       case rel =>
        refine ⟨j + 1,some ⟨g2,0,none⟩,cp2,by omega,by go_num,rfl,?_,(uh HBB).trans (uh HBG)⟩
        rw [List.replicate_succ',← List.append_assoc,akCells_app]
        exact uh HO7
       case measure=>simp [intOf];omega
      ·have e:j=p + 1:=by omega
       subst e
       have hjp':¬ ((p + 1:Nat):Int)≤(p:Int):=by omega
       have B4:=hide ((uh B3).trans ((uh HBB).mono (by omega)))
       have X4:=hide (((uh HBB).block _ (by omega)).trans (uh X3))
       have x0:wr.cell? ⟨wd.heap.size,0,none⟩=some (.slice a1 4 cap1):=by rw [cell_of_row wr wd.heap.size 0 _ _ _ (uh X4)];rfl
       have x1:wr.cell? ⟨wd.heap.size,1,none⟩=some (.slice a2 n cap2):=by rw [cell_of_row wr wd.heap.size 1 _ _ _ (uh X4)];rfl
       have hll:(l ++ List.replicate (p + 1) undoA).length=i + (p + 1):=by rw [List.length_append,List.length_replicate,← uh HNA]
       have HAK:Hid (AksAt (wd.heap.size + 1) wr (.slice oa (i + (p + 1)) oc) (i + (p + 1)) (fun k=>(l ++ List.replicate (p + 1) undoA).getD k Ak.nul)):=hide (by
        have:=aks_of_row (B:=wd.heap.size + 1) (w:=wr) (v:=.slice oa (i + (p + 1)) oc) (l:=l ++ List.replicate (p + 1) undoA) (by rw [hll];exact uh HRO) (by omega) (fun x hx=>by
         rcases List.mem_append.1 hx with hx | hx
         ·exact uh HZ x hx
         ·rw [List.eq_of_mem_replicate hx];exact ⟨Nat.zero_le _,Nat.zero_le _⟩)
        rw [hll] at this
        exact this)
       have HLL:=hide hll
       obtain ⟨q,hq⟩:∃ q,q=i + (p + 1):=⟨_,rfl⟩
       rw [← hq] at HAK ⊢
       have HQ:=hide hq
       clear hll HRO HBB hq
       go_wp2_with fail
       refine (implLook_any _ _ _ _ _ 4 drawnFns n f q _ _ ((uh DS).below (uh B4)) ((uh DM).below (uh B4)) (uh HAK) (cell_below ((uh HB).trans ((uh B4).mono (uh HB).size)) (uh HG))).mono ?_
       rintro e w5 ⟨⟨vt,ts,rfl,hat,hts⟩,hb5⟩
       obtain ⟨sU,es,hU,hU2⟩:=undone_all (uh HASK) (uh HHM)
       rw [← uh HP] at hU hU2
       have hmap:ts.map (fun x=>(x.at_,x.d))=es ++ [(-1,Td.bad 4)]:=by
        rcases hat with ⟨_,s2,h⟩ | ⟨h,_⟩
        ·have hr:(List.range q).map (fun k=>(l ++ List.replicate (p + 1) undoA).getD k Ak.nul)=l ++ List.replicate (p + 1) undoA:=by
          rw [uh HQ,← uh HLL];exact range_getD _
         rw [hr] at h
         exact (h.uniq hU).2
        ·exact absurd ⟨uh DD,by have:=uh HQ;omega⟩ h
       have hlen2:ts.length=q:=by
        have h1:=congrArg List.length hmap
        have h2:=hU.len
        rw [List.length_map] at h1
        rw [h1,h2,uh HLL,uh HQ]
       obtain ⟨m,hm⟩:∃ m,q=m + 1:=⟨i + p,by have:=uh HQ;omega⟩
       have hel:es.length=m:=by
        have h1:=congrArg List.length hmap
        rw [List.length_map,List.length_append,List.length_singleton,hlen2] at h1
        omega
       obtain ⟨xl,hxl,hxa,hxd⟩:∃ xl,ts[m]?=some xl∧xl.at_=-1∧xl.d=Td.bad 4:=by
        have h:=congrArg (fun L:List (Int × Td)=>L[m]?) hmap
        simp only [List.getElem?_map] at h
        rw [List.getElem?_append_right (by omega),hel,Nat.sub_self] at h
        cases hx:ts[m]? with
        | none=>rw [hx] at h;cases h
        | some xl=>rw [hx] at h;simp at h;exact ⟨xl,rfl,h.1,h.2⟩
       have hmid:∀ k,m=k + 1→0 < p→∃ xm,ts[k]?=some xm∧xm.at_=-1∧xm.d=Td.nul:=fun k hk hp0=>by
        have h:=congrArg (fun L:List (Int × Td)=>L[k]?) hmap
        have hg:=hU2 hp0
        rw [List.getLast?_eq_getElem?,hel,hk,Nat.add_sub_cancel] at hg
        simp only [List.getElem?_map] at h
        rw [List.getElem?_append_left (by omega),hg] at h
        cases hx:ts[k]? with
        | none=>rw [hx] at h;cases h
        | some xl=>rw [hx] at h;simp at h;exact ⟨xl,rfl,h.1,h.2⟩
       obtain ⟨ta,tc,rfl⟩:=owns_slice hts.row
       have hrt:w5.ownsRow wr.heap.size 38 6 (.slice ta (m + 1) tc) (m + 1) (tlCells ts):=by have:=hts.row;rw [hlen2,hm] at this;exact this
       obtain ⟨gt,hgt⟩:∃ gt,ta=some ⟨gt,0,none⟩:=by
        rcases hrt.2 with ⟨_,h0⟩ | ⟨g,cap,cur,hv,_⟩
        ·omega
        ·cases hv;exact ⟨g,rfl⟩
       subst hgt
       obtain ⟨e0,e1,-⟩:=tlCells_get _ m _ hxl
       rw [hxa] at e0
       rw [hxd] at e1
       have cA:=(owns_cell hrt _ _ e0).1
       have cB:w5.cell? ⟨gt,m * 6 + 1,none⟩=some (.int .i64 4):=(owns_cell hrt _ _ e1).1
       have HBE:Hid (Below w.heap.size w w5):=hide (((uh HB).trans ((uh B4).mono (uh HB).size)).trans (hb5.mono (Nat.le_trans (uh HB).size (uh B4).size)))
       have hm2:=uh HQ
       rw [hlen2,hm]
       rw [hm] at hm2
       have hi1:(0:Int)≤(m:Int):=by omega
       have hi2:(m:Int) < ((m + 1:Nat):Int):=by omega
       have hmb:m≤100:=by omega
       by_cases hp0:p=0
       ·have hp1:¬ (0:Int) < (p:Int):=by omega
        have hp2:decide ((0:Int) < (p:Int))=false:=by simpa using hp1
        clear hmid hmap hU hU2 hel e0 e1 hxl hxa hxd hts hb5 hat x0 x1 hlen2 hm2 hrt
        subst hm
        go_wp2
        go_ret
        exact ⟨rfl,uh HBE⟩
       ·obtain ⟨k,hk⟩:∃ k,m=k + 1:=⟨m - 1,by omega⟩
        obtain ⟨xm,hxm,hya,hyd⟩:=hmid k hk (by omega)
        obtain ⟨f0,f1,-⟩:=tlCells_get _ k _ hxm
        rw [hya] at f0
        rw [hyd] at f1
        have cC:=(owns_cell hrt _ _ f0).1
        have cD:w5.cell? ⟨gt,k * 6 + 1,none⟩=some (.int .i64 0):=(owns_cell hrt _ _ f1).1
        have hp1:(0:Int) < (p:Int):=by omega
        clear hmid hmap hU hU2 hel e0 e1 hxl hxa hxd hts hb5 hat x0 x1 hlen2 hm2 hrt f0 f1 hxm hya hyd
        subst hm
        subst hk
        have hk1:(0:Int)≤(k:Int):=by omega
        have hk2:(k:Int) < ((k + 1 + 1:Nat):Int):=by omega
        have hk3:((k + 1 + 1:Nat):Int) - 2=(k:Int):=by omega
        go_wp2
        go_ret
        exact ⟨rfl,uh HBE⟩
  ·have hlt:¬ (len':Int)≤1048576:=by omega
   have hle2':decide ((1048576:Int) < (len':Int))=true:=by simp;omega
   go_enter Tryz.func4,Tryz.ntmps4
   go_wp2
   go_ret
   exact ⟨rfl,Below.refl _ _⟩
 ·have hle2:decide ((1048576:Int) < (len:Int))=true:=by simp;omega
  go_enter Tryz.func4,Tryz.ntmps4
  go_wp2
  go_ret
  exact ⟨rfl,Below.refl _ _⟩
end Go.Proofs.YtmnmeaeicjhkhaaGreatDoor
