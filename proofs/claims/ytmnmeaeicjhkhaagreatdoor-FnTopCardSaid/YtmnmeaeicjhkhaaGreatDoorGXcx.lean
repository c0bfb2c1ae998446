import Derived.Test.YtmnmeaeicjhkhaaGreatDoorGXbx
set_option maxRecDepth 100000
set_option maxHeartbeats 16000000
namespace Go.Proofs.YtmnmeaeicjhkhaaGreatDoor
open Go.RowKit
def past (j i:Nat):Nat:=if i<j then i else i+1
theorem ss_erase {s:LS} {j i:Nat}:LS.ss ⟨s.at_,s.stops.eraseIdx j,s.past⟩ i=s.ss (past j i):=by
 unfold LS.ss past
 dsimp only
 rw [List.getD_eq_getElem?_getD,List.getD_eq_getElem?_getD,List.getElem?_eraseIdx]
 by_cases h:i<j
 ·rw [if_pos h,if_pos h]
 rw [if_neg h,if_neg h]
theorem bN3 (B lb lo:Nat) (v1 v2 hv pv:Value) (nf:Nat) (fns:Nat->ByteArray) (n:Nat) (f:Nat->M) (s:LS) (nn:Int) (name:ByteArray) (kd fn line:Int) (sn:ByteArray) (w:World) (h:SL B w lb v1 v2 n f s hv pv) (h2:∀ W,Below B w W->bQ lo W v2 n f) (hs:cB nf fns n f) (hok:gF n s) (hp:s.past.length<=10000) (hB:B<=w.heap.size) (hz:name.size<=maxLen) (hz2:sn.size<=maxLen) (ho:cL (⟨2,nn,name,⟨kd,fn,line,sn⟩⟩:Ak)) :
  Calls Tryz.prog 38 #[.pointer (some ⟨lb,0,none⟩),.agg #[.int .i64 2,.int .i64 nn,.string name,.int .i64 kd,.int .i64 fn,.int .i64 line,.string sn]] w fun e w'=>tX B lb v1 v2 n f s (⟨2,nn,name,⟨kd,fn,line,sn⟩⟩:Ak) w e w':=by
 have H:=O h
 have H2:=O h2
 have HS:=O hs
 have HOK:=O hok
 have HP:=O hp
 clear hp
 have A0:=O (AB.new w (⟨2,nn,name,⟨kd,fn,line,sn⟩⟩:Ak))
 have HBW:=O (((bH w (.cells #[.int .i64 2,.int .i64 nn,.string name,.int .i64 kd,.int .i64 fn,.int .i64 line,.string sn] 47)).alloc (by simp) tz0).alloc (by simp;omega) tz0)
 clear h h2 hs hok
 go_enter Tryz.func38,Tryz.ntmps38
 go_wp2_with fail
 refine (dT 2 nn name kd fn line sn _ hz hz2).mono ?_
 rintro e w1 ⟨⟨b,rfl,hbb⟩,hbl⟩
 have A1:=O ((Z A0).go hbl)
 have HB1:=hT HBW hbl
 have H1:=O ((Z H).below (Z HB1))
 obtain rfl:b=true:=hbb.2 ho
 clear hbb hbl
 have HO:=O ho
 have hn0:0<=nn:=((gN (.inl rfl)).1 ho).1.1
 have hn49:nn<=49:=((gN (.inl rfl)).1 ho).1.2
 clear ho
 have a0:w1.cell? ⟨w.heap.size,0,none⟩=some (.int .i64 2):=(Z A1).a0
 have a1:w1.cell? ⟨w.heap.size,1,none⟩=some (.int .i64 nn):=(Z A1).a1
 obtain ⟨ha,hc,hve⟩:=(Z H1).hslice
 obtain ⟨ns,hns⟩:∃ ns,ns=s.stops.length:=⟨_,rfl⟩
 rw [<- hns] at hve
 subst hve
 have HNS:=O hns
 have hn50:ns<=50:=by rw [hns];exact (Z HOK).st
 have c3:=(Z H1).c3
 clear hns
 by_cases hge:(ns:Int)<=nn
 ·have HGE:Hid ((s.stops.length:Int)<=nn):=O (by rw [<- Z HNS];exact hge)
  go_upto_region 13 with fail
  go_quiet (fail)
  generalize hW2:w1.drewN _=w2
  have hb2:Below w1.heap.size w1 w2:=by rw [<- hW2];exact bP _ _
  have A2:=O ((Z A1).go hb2)
  have HL2:=O ((Z H1).below hb2)
  have HB2:=hT HB1 hb2
  clear hb2 hW2 c3 a0 a1
  obtain ⟨⟨r0,r1,r2,r3,r4,r5⟩,x0,x1,x2,x3,x4,x5⟩:=(Z A2).rc
  obtain ⟨⟨o0,o1,o2,o3,o4,o5⟩,ofz⟩:=(Z A2).oc
  have y1:=ofz 1
  have y2:=ofz 2
  have y3:=ofz 3
  have y4:=ofz 4
  have y5:=ofz 5
  clear ofz
  have hne:w.heap.size+1+1≠w.heap.size+1:=by omega
  have hne':w.heap.size+1≠w.heap.size+1+1:=by omega
  go_wp2
  refine bodyPost_ret (v:=.agg #[.int .i64 0,.int .i64 2,.int .i64 0,.string ⟨#[]⟩,.slice none 0 0,.slice none 0 0]) (by simp [results,Tryz.results38,go_sem,r0,r1,r2,r3,r4,r5]) rfl ?_
  exact dR (bU.clear2 (Z HO) rfl (Z HGE)) rfl rfl rfl ((Z HL2).told (Z A2) 1 (.int .i64 2)) ((Z A2).set1 2) (cD _ _) (dD.nil _ _) (((Z HB2).mono hB).setCell (p:=⟨w.heap.size+1+1,1,none⟩) (show B<=w.heap.size+1+1 by omega) _) ((bM.of_below (Z HB2)).far (by omega)) hB
 have hge':decide ((ns:Int)<=nn)=false:=by simpa using hge
 go_upto_region 13 with fail
 go_quiet (fail)
 generalize hW2:w1.drewN _=w2
 have hb2:Below w1.heap.size w1 w2:=by rw [<- hW2];exact bP _ _
 have A2:=O ((Z A1).go hb2)
 have HL2:=O ((Z H1).below hb2)
 have HB2:=hT HB1 hb2
 clear hb2 hW2 c3 a0 a1 H1 A1
 obtain ⟨j,hj⟩:∃ j:Nat,nn=(j:Int):=⟨nn.toNat,by omega⟩
 subst hj
 have hjn:j<ns:=by omega
 obtain ⟨bs,hrow,hbo⟩:=(Z HL2).hits
 rw [<- Z HNS] at hrow hbo
 obtain ⟨g,cap,eg,hBg,_⟩:=pE hrow (by omega)
 cases eg
 have HROW:=O hrow
 have HBO:=O hbo
 clear hrow hbo hge hge'
 obtain ⟨i0,hi0,hz0,hz1,hz2'⟩:=info_parts bH1
 have II:=O (And.intro hi0 (And.intro hz0 (And.intro hz1 hz2')));clear hi0 hz0 hz1 hz2'
 have c3:=(Z HL2).c3
 go_wp2_with fail
 clear c3
 go_loopg [6,72] ns (fun g0 ov i W=>∃ (q c:Nat) (oa:Option Addr) (oc:Nat),q+g0=ns/\c=(if q<=j then q else q - 1)/\ov=.slice oa c oc/\i=.int .i64 q/\W.ownsRow w2.heap.size 157 1 (.slice oa c oc) c ((List.range c).map fun i=>Value.slice (some ⟨bs (past j i),0,none⟩) n n)/\Below w2.heap.size w2 W)
 case atStart=>exact ⟨0,0,none,0,by omega,rfl,rfl,rfl,World.ownsRow_nil _ _ _ _,Below.refl _ _⟩
 case round =>
  obtain ⟨q,c,oa,oc,hq,hcq,rfl,rfl,hrow,hb⟩:=hrel
  have HR:=O hrow
  have HB:=O hb
  have HCQ:=O hcq
  have hws:w2.heap.size<=wr.heap.size:=hb.size
  have hcn:c<=50:=by rw [hcq];split<;>omega
  clear hrow hb hcq
  have a1:wr.cell? ⟨w.heap.size,1,none⟩=some (.int .i64 (j:Int)):=bG (Z HB) (Z A2).a1
  by_cases hlt:q<ns
  ·have hq1:(q:Int)<(ns:Int):=by omega
   have hq0:(0:Int)<=(q:Int):=by omega
   have wq:IntKind.i64.wrap ((q:Int)+1)=((q+1:Nat):Int):=by rw [IntKind.wrap_i64];omega
   have d0:wr.cell? ⟨g,q,none⟩=some (.slice (some ⟨bs q,0,none⟩) n n):=bG (Z HB) (bL (Z HROW) q _ (by rw [List.getElem?_map,List.getElem?_range hlt];rfl)).1
   by_cases he:q=j
   ·have hqe:((q:Int) == (j:Int))=true:=by rw [he];simp
    have HE:=O he
    clear he
    go_wp2_with fail
    go_roundg (ns - (q+1))
    case measure=>omega
    case rel=>exact ⟨q+1,c,oa,oc,by omega,by have:=Z HE;rw [Z HCQ,if_pos (by omega),if_neg (by omega)];omega,rfl,by go_num,Z HR,Z HB⟩
   have hqe:((q:Int) == (j:Int))=false:=by rw [beq_eq_false_iff_ne];omega
   have hqp:bs q=bs (past j c)/\c+1=(if q+1<=j then q+1 else q+1 - 1):=by
    have:=Z HCQ
    unfold past
    by_cases hqj:q<=j
    ·rw [if_pos hqj] at this
     subst this
     rw [if_pos (by omega),if_pos (by omega)]
     exact ⟨rfl,rfl⟩
    rw [if_neg hqj] at this
    rw [if_neg (by omega),if_neg (by omega),show c+1=q by omega]
    exact ⟨rfl,by omega⟩
   have HQP:=O hqp
   clear hqp he
   have HRW:=O (bN (Z HR) (bH wr (.cells #[.slice (some ⟨bs q,0,none⟩) n n] 157)))
   have HLW:=O ((Z HB).trans ((bH wr (.cells #[.slice (some ⟨bs q,0,none⟩) n n] 157)).mono hws))
   have HNW:Hid (∀ j u,([.slice (some ⟨bs q,0,none⟩) n n]:List Value)[j]?=some u->(wr.alloc (.cells #[.slice (some ⟨bs q,0,none⟩) n n] 157)).cell? ((⟨wr.heap.size,0,none⟩:Addr).add j)=some u):=O (World.news_of_block (cs:=#[.slice (some ⟨bs q,0,none⟩) n n]) (t:=157) (fr:=(0,0)) (heap_alloc_new wr _))
   go_wp2_with (at_builtin;refine wpList_append_lies _ (by rfl) _ _ _ (by rfl) w2.heap.size 157 i0 _ 1 24 Tryz.underlying79 (Z II).1 (Z II).2.1 (Z II).2.2.1 (Z II).2.2.2 rfl (by omega) (.slice oa c oc) c ((List.range c).map fun i=>Value.slice (some ⟨bs (past j i),0,none⟩) n n) (by rfl) (Z HRW) ⟨wr.heap.size,0,none⟩ 1 1 [.slice (some ⟨bs q,0,none⟩) n n] (by rfl) (by rfl) (Z HNW) (by simp [Value.oneCell']) (by omega) (by unfold maxLen;omega) (by omega) (by simp;omega) (wr.heap.size+1) (by simp) ?_;intro g2 cp2 w7 hown hgrow _ _;have HO7:=O hown;have hb7:Below w2.heap.size w2 w7:=(Z HLW).grown hgrow (by simp;omega) (fun b e=>(eM (Z HRW) b e).1);have HB7:=O hb7;clear hown hgrow hb7)
   go_roundg (ns - (q+1))
   case measure=>omega
   case rel=>exact ⟨q+1,c+1,some ⟨g2,0,none⟩,cp2,by omega,(Z HQP).2,rfl,by go_num,by rw [List.range_succ,List.map_append,List.map_singleton,<- (Z HQP).1];exact Z HO7,Z HB7⟩
  have hq1:¬ (q:Int)<(ns:Int):=by omega
  have hce:c+1=ns:=by have:=Z HCQ;rw [if_neg (by omega)] at this;omega
  have HLR:=O ((Z HL2).below (Z HB))
  have AR:=O ((Z A2).go (Z HB))
  have HBR:=O ((Z HB2).trans ((Z HB).mono (Z HB2).size))
  have HL4:=O ((Z HLR).setHits (hv':=.slice oa c oc) (q:=s.stops.eraseIdx j) (by
   have el:(s.stops.eraseIdx j).length=c:=by rw [List.length_eraseIdx,if_pos (by rw [<- Z HNS];omega),<- Z HNS];omega
   rw [el]
   refine ⟨fun i=>bs (past j i),eD (Z HR) (Nat.le_trans hB (Z HB2).size),fun i hi=>?_⟩
   rw [ss_erase]
   exact ((Z HBO) (past j i) (by unfold past;split<;>omega)).below (Z HB)))
  have k3:=(Z HLR).c3
  have f3:=(Z HLR).fz 3
  have SK:Hid (bM dX wr (wr.setCell ⟨lb,3,none⟩ (.slice oa c oc))):=O (bM.set (Z HLR).box dX.no)
  have A4:=O ((Z AR).same (Z SK))
  have hl1:lb≠w.heap.size+1:=by have h1:=(Z HLR).box;have h2:=(Z AR).rb;intro e;rw [e,h2] at h1;simp at h1
  have hl2:lb≠w.heap.size+1+1:=by have h1:=(Z HLR).box;have h2:=(Z AR).ob;intro e;rw [e,h2] at h1;simp at h1
  have hl3:w.heap.size+1≠lb:=fun e=>hl1 e.symm
  have hl4:w.heap.size+1+1≠lb:=fun e=>hl2 e.symm
  obtain ⟨⟨r0,r1,r2,r3,r4,r5⟩,x0,x1,x2,x3,x4,x5⟩:=(Z AR).rc
  obtain ⟨⟨o0,o1,o2,o3,o4,o5⟩,ofz⟩:=(Z AR).oc
  have y1:=ofz 1
  have y2:=ofz 2
  have y3:=ofz 3
  have y4:=ofz 4
  have y5:=ofz 5
  clear ofz
  have hne:w.heap.size+1+1≠w.heap.size+1:=by omega
  have hne':w.heap.size+1≠w.heap.size+1+1:=by omega
  go_wp2
  refine bodyPost_ret (v:=.agg #[.int .i64 0,.int .i64 0,.int .i64 0,.string ⟨#[]⟩,.slice none 0 0,.slice none 0 0]) (by simp [results,Tryz.results38,go_sem,r0,r1,r2,r3,r4,r5]) rfl ?_
  exact dR (bU.clear (Z HO) rfl (by show ¬ (s.stops.length:Int)<=(j:Int);rw [<- Z HNS];omega)) rfl rfl rfl (by have:=Z HL4;rw [show (j:Int).toNat=j from Int.toNat_natCast j];exact this) (Z A4) (cD _ _) (dD.nil _ _) (((Z HBR).mono hB).setCell (p:=⟨lb,3,none⟩) (Z H).lbB _) ((bM.of_below (Z HBR)).trans (Z SK)) hB
theorem tY {f g:Nat->V} {nm:ByteArray}:∀ {k:Nat},(∀ i,i<k->f i=g i)->cP f nm k=cP g nm k
 | 0,_=>rfl
 | k+1,h=>by
  have ih:=tY (nm:=nm) (k:=k) (fun i hi=>h i (by omega))
  show (if (f k).name=nm then some (f k).text else cP f nm k)=(if (g k).name=nm then some (g k).text else cP g nm k)
  rw [h k (by omega),ih]
theorem varsOf_get (n:Nat) (f:Nat->M) (k:Int) (d:V) (i:Nat) (hi:i<jW n f k):(eZ n f k).getD i d=gS f k i:=by
 unfold eZ
 rw [List.getD_eq_getElem?_getD,List.getElem?_map,List.getElem?_range hi]
 rfl
theorem varsOf_len (n:Nat) (f:Nat->M) (k:Int):(eZ n f k).length=jW n f k:=by simp [eZ]
theorem bN4 (B lb lo:Nat) (v1 v2 hv pv:Value) (nf:Nat) (fns:Nat->ByteArray) (n:Nat) (f:Nat->M) (s:LS) (nn:Int) (name:ByteArray) (kd fn line:Int) (sn:ByteArray) (w:World) (h:SL B w lb v1 v2 n f s hv pv) (h2:∀ W,Below B w W->bQ lo W v2 n f) (hs:cB nf fns n f) (hok:gF n s) (hp:s.past.length<=10000) (hB:B<=w.heap.size) (hz:name.size<=maxLen) (hz2:sn.size<=maxLen) (ho:cL (⟨10,nn,name,⟨kd,fn,line,sn⟩⟩:Ak)) :
  Calls Tryz.prog 38 #[.pointer (some ⟨lb,0,none⟩),.agg #[.int .i64 10,.int .i64 nn,.string name,.int .i64 kd,.int .i64 fn,.int .i64 line,.string sn]] w fun e w'=>tX B lb v1 v2 n f s (⟨10,nn,name,⟨kd,fn,line,sn⟩⟩:Ak) w e w':=by
 have H:=O h
 have H2:=O h2
 have HS:=O hs
 have HOK:=O hok
 have HP:=O hp
 clear hp
 have A0:=O (AB.new w (⟨10,nn,name,⟨kd,fn,line,sn⟩⟩:Ak))
 have HBW:=O (((bH w (.cells #[.int .i64 10,.int .i64 nn,.string name,.int .i64 kd,.int .i64 fn,.int .i64 line,.string sn] 47)).alloc (by simp) tz0).alloc (by simp;omega) tz0)
 clear h h2 hs hok
 go_enter Tryz.func38,Tryz.ntmps38
 go_wp2_with fail
 refine (dT 10 nn name kd fn line sn _ hz hz2).mono ?_
 rintro e w1 ⟨⟨b,rfl,hbb⟩,hbl⟩
 have A1:=O ((Z A0).go hbl)
 have HB1:=hT HBW hbl
 have H1:=O ((Z H).below (Z HB1))
 obtain rfl:b=true:=hbb.2 ho
 clear hbb hbl
 have HO:=O ho
 have hn0:0<=nn:=(mX.1 ho).1.1
 have hn1:nn<=100:=(mX.1 ho).1.2
 clear ho
 obtain ⟨u,rfl⟩:∃ u:Nat,nn=(u:Int):=⟨nn.toNat,by omega⟩
 have hu:u<101:=by omega
 have a0:w1.cell? ⟨w.heap.size,0,none⟩=some (.int .i64 10):=(Z A1).a0
 obtain ⟨a2,cap2,e2,hn2,-⟩:=Z H2 _ ((Z HB1).mono hB)
 subst e2
 clear hn2
 have hk0:=(Z HOK).lo
 have hk1:=(Z HOK).hi
 obtain ⟨k,hk⟩:∃ k,k=s.at_:=⟨_,rfl⟩
 rw [<- hk] at hk0 hk1
 have HK:=O hk
 clear hk
 have HSS:Hid (∀ W,Below w1.heap.size w1 W->W.cell? ⟨lb,0,none⟩=some v1/\W.cell? ⟨lb,1,none⟩=some (.slice a2 n cap2)/\W.cell? ⟨lb,2,none⟩=some (.int .i64 k)):=O (fun W hb=>⟨bG hb (Z H1).c0,bG hb (Z H1).c1,by rw [Z HK];exact bG hb (Z H1).c2⟩)
 go_upto_region 47 with fail
 refine wp_region_held_drew (S:=fun W=>W.cell? ⟨lb,0,none⟩=some v1/\W.cell? ⟨lb,1,none⟩=some (.slice a2 n cap2)/\W.cell? ⟨lb,2,none⟩=some (.int .i64 k)) (by kernel_rfl) (Z HSS _ (Below.refl _ _).drew) (fun hHeld=>?_)
 refine tka 0 212 hHeld ?_
 refine tka 1 213 hHeld ?_
 refine tka 2 214 hHeld ?_
 refine tka 3 215 hHeld ?_
 refine tka 4 216 hHeld ?_
 refine tka 5 217 hHeld ?_
 refine tka 6 218 hHeld ?_
 refine tka 7 219 hHeld ?_
 refine rdy 8 fun KK hK=>?_
 have hdr:=(Below.refl w1.heap.size w1).drew
 go_simp
 refine (tH lo _ _ nf fns n f k _ ((Z H2 _ ((Z HB1).mono hB)).below hdr) (Z HS) hk0 hk1).mono ?_
 rintro e w2 ⟨⟨ps,rfl,hsp⟩,hbx⟩
 have hb2:Below w1.heap.size w1 w2:=hdr.trans hbx
 have HL2:=O ((Z H1).below hb2)
 have A2:=O ((Z A1).go hb2)
 have HB2:=hT HB1 hb2
 obtain ⟨bt,V,hcc⟩:=hsp
 have c0:=hcc.c0
 have c1:=hcc.c1
 have hps:w1.heap.size+1<=ps:=hcc.hp
 have hbt:w1.heap.size+1<=bt:=hcc.hbt
 have hsz:=(Z A1).size
 have cr:=hcc.row.cell hu
 have HOW:=O (hcc.own u hu)
 have HLE:=O (hcc.len u hu)
 obtain ⟨oa,oc,hV⟩:=bR (Z HOW)
 rw [hV] at cr HOW
 obtain ⟨ln,hln⟩:∃ ln,ln=((St.after f (cQ n k)).tasks u).length:=⟨_,rfl⟩
 rw [<- hln] at cr
 have HLN:=O hln
 obtain ⟨cu,hcu⟩:∃ cu,cu=(St.after f (cQ n k)).cur:=⟨_,rfl⟩
 rw [<- hcu] at c1
 have HCU:=O hcu
 refine hK.out _ _ (Z HSS _ hb2) (fun hHeld=>?_)
 clear hK KK hb2 hbx hdr hcc hV hln hcu
 try simp only [Act.put,sy]
 refine tka 9 10 hHeld ?_
 refine wpAnyH_done (by kernel_rfl) ?_ _
 clear hHeld a0
 obtain ⟨⟨o0,o1,o2,o3,o4,o5⟩,ofz⟩:=(Z A2).oc
 have y1:=ofz 1
 have y2:=ofz 2
 have y3:=ofz 3
 have y4:=ofz 4
 have y5:=ofz 5
 clear ofz
 have A3:=O ((Z A2).set2 (cu:Int))
 have HL3:=O ((Z HL2).told (Z A2) 2 (.int .i64 (cu:Int)))
 have ST3:Hid (bM (fun q=>q≠38) w2 (w2.setCell ⟨w.heap.size+1+1,2,none⟩ (.int .i64 (cu:Int)))):=O (bM.set (Z A2).ob (fun q=>q rfl))
 have SK3:Hid (bM dX w (w2.setCell ⟨w.heap.size+1+1,2,none⟩ (.int .i64 (cu:Int)))):=O ((bM.of_below (Z HB2)).far (by omega))
 have HB3:Hid (Below w.heap.size w (w2.setCell ⟨w.heap.size+1+1,2,none⟩ (.int .i64 (cu:Int)))):=O ((Z HB2).setCell (p:=⟨w.heap.size+1+1,2,none⟩) (show w.heap.size<=w.heap.size+1+1 by omega) _)
 have d0:(w2.setCell ⟨w.heap.size+1+1,2,none⟩ (.int .i64 (cu:Int))).cell? ⟨ps,0,none⟩=some (.slice (some ⟨bt,0,none⟩) 101 101):=by rw [World.cell?_setCell_far _ _ _ _ (by show w.heap.size+1+1≠ps;omega)];exact c0
 have dr:(w2.setCell ⟨w.heap.size+1+1,2,none⟩ (.int .i64 (cu:Int))).cell? ⟨bt,u,none⟩=some (.slice oa ln oc):=by rw [World.cell?_setCell_far _ _ _ _ (by show w.heap.size+1+1≠bt;omega)];exact cr
 go_upto_region 49 with fail
 obtain ⟨w3,hw3⟩:∃ w3,w3=w2.setCell ⟨w.heap.size+1+1,2,none⟩ (.int .i64 (cu:Int)):=⟨_,rfl⟩
 rw [<- hw3] at A3 HL3 ST3 SK3 HB3 d0 dr ⊢
 clear hw3 c0 c1 cr o0 o1 o2 o3 o4 o5 y1 y2 y3 y4 y5
 have HOW3:=O (cK (Z HOW) (Z ST3) (by decide))
 have i0':(0:Int)<=(u:Int):=by omega
 have i1':(u:Int)<101:=by omega
 have HSB:Hid (∀ W,Below w3.heap.size w3 W->W.cell? ⟨ps,0,none⟩=some (.slice (some ⟨bt,0,none⟩) 101 101)/\W.cell? ⟨w.heap.size,1,none⟩=some (.int .i64 (u:Int))/\W.cell? ⟨bt,u,none⟩=some (.slice oa ln oc)):=O (fun W hb=>⟨bG hb d0,bG hb (Z A3).a1,bG hb dr⟩)
 clear d0 dr
 refine wp_region_held_drew (S:=fun W=>W.cell? ⟨ps,0,none⟩=some (.slice (some ⟨bt,0,none⟩) 101 101)/\W.cell? ⟨w.heap.size,1,none⟩=some (.int .i64 (u:Int))/\W.cell? ⟨bt,u,none⟩=some (.slice oa ln oc)) (by kernel_rfl) (Z HSB _ (Below.refl _ _).drew) (fun hHeld=>?_)
 refine tka 0 226 hHeld ?_
 refine tka 1 227 hHeld ?_
 refine tka 2 228 hHeld ?_
 refine tka 3 229 hHeld ?_
 refine tka 4 230 hHeld ?_
 refine tka 5 231 hHeld ?_
 refine tka 6 232 hHeld ?_
 refine tka 7 233 hHeld ?_
 refine rdy 8 fun KK hK=>?_
 go_simp
 rw [Z HLN]
 have hdr:=(Below.refl w3.heap.size w3).drew
 refine (l1inner_any _ _ _ _ (bN (Z HOW3) hdr) (Z HLE)).mono ?_
 rintro e w4 ⟨⟨v,rfl,hfr⟩,hbx⟩
 have hb4:Below w3.heap.size w3 w4:=hdr.trans hbx
 have hszd:w3.heap.size<=(w3.drew).heap.size:=hdr.size
 have HFR:Hid (eA w.heap.size w4 v ((St.after f (cQ n k)).tasks u)):=O (eD hfr (Nat.le_trans (Z HB3).size hszd))
 obtain ⟨va,vc,rfl⟩:=bR hfr
 have HL4:=O ((Z HL3).below hb4)
 have A4:=O ((Z A3).go hb4)
 have HB4:=hT HB3 hb4
 have SK4:=O ((Z SK3).trans (bM.of_below hb4))
 rw [<- Z HLN] at HFR ⊢
 obtain ⟨⟨o0,o1,o2,o3,o4,o5⟩,ofz⟩:=(Z A4).oc
 have y1:=ofz 1
 have y2:=ofz 2
 have y3:=ofz 3
 have y4:=ofz 4
 have y5:=ofz 5
 clear ofz
 refine hK.out _ _ (Z HSB _ hb4) (fun hHeld=>?_)
 clear hK KK hb4 hbx hdr hfr hszd
 try simp only [Act.put,sy]
 refine tka 9 235 hHeld ?_
 refine rdy 10 fun KK hK=>?_
 go_simp
 have A5:=O ((Z A4).set4 (.slice va ln vc))
 have HL5:=O ((Z HL4).told (Z A4) 4 (.slice va ln vc))
 have ST5:Hid (bM (fun q=>q≠38) w4 (w4.setCell ⟨w.heap.size+1+1,4,none⟩ (.slice va ln vc))):=O (bM.set (Z A4).ob (fun q=>q rfl))
 have SK5:Hid (bM dX w (w4.setCell ⟨w.heap.size+1+1,4,none⟩ (.slice va ln vc))):=O ((Z SK4).far (by omega))
 have HB5:Hid (Below w.heap.size w (w4.setCell ⟨w.heap.size+1+1,4,none⟩ (.slice va ln vc))):=O ((Z HB4).setCell (p:=⟨w.heap.size+1+1,4,none⟩) (show w.heap.size<=w.heap.size+1+1 by omega) _)
 have HFR5:=O (cK (Z HFR) (Z ST5) (by decide))
 obtain ⟨t0,t1,t2⟩:=hHeld
 refine hK.out _ _ ⟨by rw [World.cell?_setCell_far _ _ _ _ (by show w.heap.size+1+1≠ps;omega)];exact t0,(Z A5).a1,by rw [World.cell?_setCell_far _ _ _ _ (by show w.heap.size+1+1≠bt;omega)];exact t2⟩ (fun hHeld=>?_)
 clear hK KK hHeld t0 t1 t2 o0 o1 o2 o3 o4 o5 y1 y2 y3 y4 y5
 try simp only [Act.put,sy]
 refine wpAnyH_done (by kernel_rfl) ?_ _
 obtain ⟨w5,hw5⟩:∃ w5,w5=w4.setCell ⟨w.heap.size+1+1,4,none⟩ (.slice va ln vc):=⟨_,rfl⟩
 rw [<- hw5] at A5 HL5 ST5 SK5 HB5 HFR5 ⊢
 clear hw5
 obtain ⟨⟨r0,r1,r2,r3,r4,r5⟩,x0,x1,x2,x3,x4,x5⟩:=(Z A5).rc
 obtain ⟨⟨o0,o1,o2,o3,o4,o5⟩,ofz⟩:=(Z A5).oc
 have y1:=ofz 1
 have y2:=ofz 2
 have y3:=ofz 3
 have y4:=ofz 4
 have y5:=ofz 5
 clear ofz
 have hne:w.heap.size+1+1≠w.heap.size+1:=by omega
 have hne':w.heap.size+1≠w.heap.size+1+1:=by omega
 go_wp2
 refine bodyPost_ret (v:=.agg #[.int .i64 0,.int .i64 0,.int .i64 (cu:Int),.string ⟨#[]⟩,.slice va ln vc,.slice none 0 0]) (by simp [results,Tryz.results38,go_sem,r0,r1,r2,r3,r4,r5]) rfl ?_
 exact dR (bU.where_ (Z HO) rfl) rfl (by rw [Z HCU,Z HK]) rfl (Z HL5) (Z A5) (by show eA _ _ _ ((St.after f (cQ n s.at_)).tasks (u:Int).toNat);rw [Int.toNat_natCast,<- Z HK];have:=Z HFR5;rw [Z HLN] at this ⊢;exact this) (dD.nil _ _) ((Z HB5).mono hB) (Z SK5) hB
theorem bN5 (B lb lo:Nat) (v1 v2 hv pv:Value) (nf:Nat) (fns:Nat->ByteArray) (n:Nat) (f:Nat->M) (s:LS) (nn:Int) (name:ByteArray) (kd fn line:Int) (sn:ByteArray) (w:World) (h:SL B w lb v1 v2 n f s hv pv) (h2:∀ W,Below B w W->bQ lo W v2 n f) (hs:cB nf fns n f) (hok:gF n s) (hp:s.past.length<=10000) (hB:B<=w.heap.size) (hz:name.size<=maxLen) (hz2:sn.size<=maxLen) (ho:cL (⟨12,nn,name,⟨kd,fn,line,sn⟩⟩:Ak)) :
  Calls Tryz.prog 38 #[.pointer (some ⟨lb,0,none⟩),.agg #[.int .i64 12,.int .i64 nn,.string name,.int .i64 kd,.int .i64 fn,.int .i64 line,.string sn]] w fun e w'=>tX B lb v1 v2 n f s (⟨12,nn,name,⟨kd,fn,line,sn⟩⟩:Ak) w e w':=by
 have H:=O h
 have H2:=O h2
 have HS:=O hs
 have HOK:=O hok
 have HP:=O hp
 clear hp
 have A0:=O (AB.new w (⟨12,nn,name,⟨kd,fn,line,sn⟩⟩:Ak))
 have HBW:=O (((bH w (.cells #[.int .i64 12,.int .i64 nn,.string name,.int .i64 kd,.int .i64 fn,.int .i64 line,.string sn] 47)).alloc (by simp) tz0).alloc (by simp;omega) tz0)
 clear h h2 hs hok
 go_enter Tryz.func38,Tryz.ntmps38
 go_wp2_with fail
 refine (dT 12 nn name kd fn line sn _ hz hz2).mono ?_
 rintro e w1 ⟨⟨b,rfl,hbb⟩,hbl⟩
 have A1:=O ((Z A0).go hbl)
 have HB1:=hT HBW hbl
 have H1:=O ((Z H).below (Z HB1))
 obtain rfl:b=true:=hbb.2 ho
 clear hbb hbl
 have HO:=O ho
 clear ho
 have a0:w1.cell? ⟨w.heap.size,0,none⟩=some (.int .i64 12):=(Z A1).a0
 have HSS:Hid (∀ W,Below w1.heap.size w1 W->W.cell? ⟨w.heap.size,2,none⟩=some (.string name)):=O (fun W hb=>bG hb (Z A1).a2)
 go_upto_region 53 with fail
 refine wp_region_held_drew (S:=fun W=>W.cell? ⟨w.heap.size,2,none⟩=some (.string name)) (by kernel_rfl) (Z HSS _ (Below.refl _ _).drew) (fun hHeld=>?_)
 refine tka 0 244 hHeld ?_
 refine tka 2 246 hHeld ?_
 refine tka 3 247 hHeld ?_
 refine rdy 1 fun KK hK=>?_
 have hdr:=(Below.refl w1.heap.size w1).drew
 go_simp
 refine (bH3 B lb lo v1 v2 hv pv n f s _ ((Z H1).below hdr) ((Z H2 _ ((Z HB1).mono hB)).below hdr) (fun i hi=>by have:=((Z HS).2.1 i hi).2.1;omega) (Z HOK).lo (Z HOK).hi).mono ?_
 rintro e w2 ⟨⟨v,rfl,hvs⟩,hbx⟩
 have hb2:Below w1.heap.size w1 w2:=hdr.trans hbx
 have HB2:=O hb2
 have HVV:=O hvs.vars
 refine hK.out _ _ (Z HSS _ hb2) (fun hHeld=>?_)
 clear hK KK hb2 hbx hdr hvs
 try simp only [Act.put,sy]
 refine rdy 4 fun KK hK=>?_
 go_simp
 refine (tM _ _ _ _ name _ (Z HVV)).mono ?_
 rintro e w3 ⟨rfl,hbx⟩
 have hb3:Below w1.heap.size w1 w3:=(Z HB2).trans (hbx.mono (Z HB2).size)
 have HL3:=O ((Z H1).below hb3)
 have A3:=O ((Z A1).go hb3)
 have HB3:=hT HB1 hb3
 have el:cP (fun i=>(eZ n f s.at_).getD i ⟨ByteArray.empty,ByteArray.empty⟩) name (eZ n f s.at_).length=cP (gS f s.at_) name (jW n f s.at_):=by
  rw [varsOf_len]
  exact tY (fun i hi=>varsOf_get n f s.at_ _ i hi)
 rw [el]
 obtain ⟨r,hr⟩:∃ r,r=cP (gS f s.at_) name (jW n f s.at_):=⟨_,rfl⟩
 rw [<- hr]
 have HR:=O hr
 refine hK.out _ _ (Z HSS _ hb3) (fun hHeld=>?_)
 clear hK KK hb3 hbx el hr
 try simp only [Act.put,sy]
 refine tka 5 243 hHeld ?_
 refine tka 6 249 hHeld ?_
 refine tka 7 250 hHeld ?_
 refine tka 8 11 hHeld ?_
 refine tka 9 12 hHeld ?_
 refine wpAnyH_done (by kernel_rfl) ?_ _
 clear hHeld a0
 cases r with
 | none =>
  have e1:zM none=ByteArray.empty:=rfl
  have e2:(none:Option ByteArray).isSome=false:=rfl
  rw [e1,e2]
  clear e1 e2
  obtain ⟨⟨r0,r1,r2,r3,r4,r5⟩,x0,x1,x2,x3,x4,x5⟩:=(Z A3).rc
  obtain ⟨⟨o0,o1,o2,o3,o4,o5⟩,ofz⟩:=(Z A3).oc
  have y1:=ofz 1
  have y2:=ofz 2
  have y3:=ofz 3
  have y4:=ofz 4
  have y5:=ofz 5
  clear ofz
  have hne:w.heap.size+1+1≠w.heap.size+1:=by omega
  have hne':w.heap.size+1≠w.heap.size+1+1:=by omega
  go_wp2
  refine bodyPost_ret (v:=.agg #[.int .i64 0,.int .i64 3,.int .i64 0,.string ⟨#[]⟩,.slice none 0 0,.slice none 0 0]) (by simp [results,Tryz.results38,go_sem,r0,r1,r2,r3,r4,r5]) rfl ?_
  exact dR (bU.value3 (Z HO) rfl (Z HR).symm) rfl rfl rfl ((Z HL3).told (Z A3) 1 (.int .i64 3)) ((Z A3).set1 3) (cD _ _) (dD.nil _ _) (((Z HB3).mono hB).setCell (p:=⟨w.heap.size+1+1,1,none⟩) (show B<=w.heap.size+1+1 by omega) _) ((bM.of_below (Z HB3)).far (by omega)) hB
 | some tx =>
  have e1:zM (some tx)=tx:=rfl
  have e2:(some tx:Option ByteArray).isSome=true:=rfl
  rw [e1,e2]
  clear e1 e2
  obtain ⟨⟨r0,r1,r2,r3,r4,r5⟩,x0,x1,x2,x3,x4,x5⟩:=(Z A3).rc
  obtain ⟨⟨o0,o1,o2,o3,o4,o5⟩,ofz⟩:=(Z A3).oc
  have y1:=ofz 1
  have y2:=ofz 2
  have y3:=ofz 3
  have y4:=ofz 4
  have y5:=ofz 5
  clear ofz
  have hne:w.heap.size+1+1≠w.heap.size+1:=by omega
  have hne':w.heap.size+1≠w.heap.size+1+1:=by omega
  go_wp2
  refine bodyPost_ret (v:=.agg #[.int .i64 0,.int .i64 0,.int .i64 0,.string tx,.slice none 0 0,.slice none 0 0]) (by simp [results,Tryz.results38,go_sem,r0,r1,r2,r3,r4,r5]) rfl ?_
  exact dR (bU.value (Z HO) rfl (Z HR).symm) rfl rfl rfl ((Z HL3).told (Z A3) 3 (.string tx)) ((Z A3).set3 tx) (cD _ _) (dD.nil _ _) (((Z HB3).mono hB).setCell (p:=⟨w.heap.size+1+1,3,none⟩) (show B<=w.heap.size+1+1 by omega) _) ((bM.of_below (Z HB3)).far (by omega)) hB
theorem bN6 (B lb lo:Nat) (v1 v2 hv pv:Value) (nf:Nat) (fns:Nat->ByteArray) (n:Nat) (f:Nat->M) (s:LS) (nn:Int) (name:ByteArray) (kd fn line:Int) (sn:ByteArray) (w:World) (h:SL B w lb v1 v2 n f s hv pv) (h2:∀ W,Below B w W->bQ lo W v2 n f) (hs:cB nf fns n f) (hok:gF n s) (hp:s.past.length<=10000) (hB:B<=w.heap.size) (hz:name.size<=maxLen) (hz2:sn.size<=maxLen) (ho:cL (⟨13,nn,name,⟨kd,fn,line,sn⟩⟩:Ak)) :
  Calls Tryz.prog 38 #[.pointer (some ⟨lb,0,none⟩),.agg #[.int .i64 13,.int .i64 nn,.string name,.int .i64 kd,.int .i64 fn,.int .i64 line,.string sn]] w fun e w'=>tX B lb v1 v2 n f s (⟨13,nn,name,⟨kd,fn,line,sn⟩⟩:Ak) w e w':=by
 have H:=O h
 have H2:=O h2
 have HS:=O hs
 have HOK:=O hok
 have HP:=O hp
 clear hp
 have A0:=O (AB.new w (⟨13,nn,name,⟨kd,fn,line,sn⟩⟩:Ak))
 have HBW:=O (((bH w (.cells #[.int .i64 13,.int .i64 nn,.string name,.int .i64 kd,.int .i64 fn,.int .i64 line,.string sn] 47)).alloc (by simp) tz0).alloc (by simp;omega) tz0)
 clear h h2 hs hok
 go_enter Tryz.func38,Tryz.ntmps38
 go_wp2_with fail
 refine (dT 13 nn name kd fn line sn _ hz hz2).mono ?_
 rintro e w1 ⟨⟨b,rfl,hbb⟩,hbl⟩
 have A1:=O ((Z A0).go hbl)
 have HB1:=hT HBW hbl
 have H1:=O ((Z H).below (Z HB1))
 obtain rfl:b=true:=hbb.2 ho
 clear hbb hbl
 have HO:=O ho
 have hn0:0<=nn:=((gN (.inr rfl)).1 ho).1.1
 have hn49:nn<=49:=((gN (.inr rfl)).1 ho).1.2
 clear ho
 have a0:w1.cell? ⟨w.heap.size,0,none⟩=some (.int .i64 13):=(Z A1).a0
 have a1:w1.cell? ⟨w.heap.size,1,none⟩=some (.int .i64 nn):=(Z A1).a1
 obtain ⟨a2,cap2,e2,hn2,-⟩:=Z H2 _ ((Z HB1).mono hB)
 subst e2
 clear hn2
 obtain ⟨ha,hc,hve⟩:=(Z H1).hslice
 obtain ⟨ns,hns⟩:∃ ns,ns=s.stops.length:=⟨_,rfl⟩
 rw [<- hns] at hve
 subst hve
 have HNS:=O hns
 have c3:=(Z H1).c3
 clear hns
 by_cases hge:(ns:Int)<=nn
 ·have HGE:Hid ((s.stops.length:Int)<=nn):=O (by rw [<- Z HNS];exact hge)
  go_upto_region 59 with fail
  go_quiet (fail)
  generalize hW2:w1.drewN _=w2
  have hb2:Below w1.heap.size w1 w2:=by rw [<- hW2];exact bP _ _
  have A2:=O ((Z A1).go hb2)
  have HL2:=O ((Z H1).below hb2)
  have HB2:=hT HB1 hb2
  clear hb2 hW2 c3 a0 a1
  obtain ⟨⟨r0,r1,r2,r3,r4,r5⟩,x0,x1,x2,x3,x4,x5⟩:=(Z A2).rc
  obtain ⟨⟨o0,o1,o2,o3,o4,o5⟩,ofz⟩:=(Z A2).oc
  have y1:=ofz 1
  have y2:=ofz 2
  have y3:=ofz 3
  have y4:=ofz 4
  have y5:=ofz 5
  clear ofz
  have hne:w.heap.size+1+1≠w.heap.size+1:=by omega
  have hne':w.heap.size+1≠w.heap.size+1+1:=by omega
  go_wp2
  refine bodyPost_ret (v:=.agg #[.int .i64 0,.int .i64 2,.int .i64 0,.string ⟨#[]⟩,.slice none 0 0,.slice none 0 0]) (by simp [results,Tryz.results38,go_sem,r0,r1,r2,r3,r4,r5]) rfl ?_
  exact dR (bU.count2 (Z HO) rfl (Z HGE)) rfl rfl rfl ((Z HL2).told (Z A2) 1 (.int .i64 2)) ((Z A2).set1 2) (cD _ _) (dD.nil _ _) (((Z HB2).mono hB).setCell (p:=⟨w.heap.size+1+1,1,none⟩) (show B<=w.heap.size+1+1 by omega) _) ((bM.of_below (Z HB2)).far (by omega)) hB
 have hge':decide ((ns:Int)<=nn)=false:=by simpa using hge
 go_upto_region 59 with fail
 go_quiet (fail)
 generalize hW2:w1.drewN _=w2
 have hb2:Below w1.heap.size w1 w2:=by rw [<- hW2];exact bP _ _
 have A2:=O ((Z A1).go hb2)
 have HL2:=O ((Z H1).below hb2)
 have HB2:=hT HB1 hb2
 clear hb2 hW2 c3 a0 a1 H1 A1
 obtain ⟨j,hj⟩:∃ j:Nat,nn=(j:Int):=⟨nn.toNat,by omega⟩
 subst hj
 have hjn:j<ns:=by omega
 have hn3:n<=3000:=(Z HS).1.2.2.1
 have hk0:=(Z HOK).lo
 have hk1:=(Z HOK).hi
 obtain ⟨k,hk⟩:∃ k,k=s.at_:=⟨_,rfl⟩
 rw [<- hk] at hk0 hk1
 have HK:=O hk
 clear hk hge hge'
 obtain ⟨U,hU⟩:∃ U,U=cQ n k:=⟨_,rfl⟩
 have hUn:U<=n:=by rw [hU];unfold cQ;omega
 have HU1:Hid (∀ q:Nat,q<U->(q:Int)<=k/\q<n):=O (fun q hq=>by rw [hU] at hq;unfold cQ at hq;omega)
 have HU2:Hid ((U:Int)<=k->n<=U):=O (fun hq=>by rw [hU] at hq ⊢;unfold cQ at hq ⊢;omega)
 have HU:=O hU
 clear hU
 obtain ⟨P,hP⟩:∃ P,P=hit f (s.ss j):=⟨_,rfl⟩
 have HPP:=O hP
 clear hP
 have HC0:Hid (dK P 0=0):=O rfl
 go_wp2_with fail
 go_loopg [13] U (fun g0 i W=>∃ q:Nat,q+g0=U/\i=.int .i64 q/\AB w ⟨13,(j:Int),name,⟨kd,fn,line,sn⟩⟩ 0 (dK P q) ⟨#[]⟩ (.slice none 0 0) (.slice none 0 0) W/\SL B W lb v1 (.slice a2 n cap2) n f s (.slice ha ns hc) pv/\Below w.heap.size w W)
 case atStart=>exact ⟨0,by omega,rfl,Z A2,Z HL2,Z HB2⟩
 case round =>
  clear A2 HL2 HB2
  obtain ⟨q,hq,rfl,hA,hL,hb⟩:=hrel
  have AR:=O hA
  have LR:=O hL
  have BR:=O hb
  have c1:=hL.c1
  have c2:=hL.c2
  have c3:=hL.c3
  rw [<- Z HK] at c2
  have a1:wr.cell? ⟨w.heap.size,1,none⟩=some (.int .i64 (j:Int)):=hA.a1
  clear hA hL hb
  by_cases hlt:q<U
  ·obtain ⟨hq1,hq2⟩:=Z HU1 q hlt
   have hq3:(q:Int)<(n:Int):=by omega
   have hq0:(0:Int)<=(q:Int):=by omega
   have hj0:(0:Int)<=(j:Int):=by omega
   have hj1:(j:Int)<(ns:Int):=by omega
   have wq:IntKind.i64.wrap ((q:Int)+1)=((q+1:Nat):Int):=by rw [IntKind.wrap_i64];omega
   obtain ⟨bs,hrow,hbo⟩:=(Z LR).hits
   rw [<- Z HNS] at hrow hbo
   obtain ⟨g,cap,eg,hBg,_⟩:=pE hrow (by omega)
   cases eg
   have d0:wr.cell? ⟨g,j,none⟩=some (.slice (some ⟨bs j,0,none⟩) n n):=(bL hrow j _ (by rw [List.getElem?_map,List.getElem?_range hjn];rfl)).1
   have d1:wr.cell? ⟨bs j,q,none⟩=some (.bool (P q)):=by rw [Z HPP];exact (hbo j hjn).2 q hq2
   obtain ⟨cn,hcn⟩:∃ cn,cn=dK P q:=⟨_,rfl⟩
   have hcl:cn<=q:=by
    rw [hcn]
    clear hcn
    have:∀ q,dK P q<=q:=fun q=>by
     induction q with
     | zero=>exact Nat.le_refl 0
     | succ q ih=>show dK P q+(if P q then 1 else 0)<=q+1;split<;>omega
    exact this q
   rw [<- hcn] at AR
   have HCN:=O hcn
   clear hrow hbo hcn
   obtain ⟨⟨o0,o1,o2,o3,o4,o5⟩,ofz⟩:=(Z AR).oc
   have y2:=ofz 2
   clear ofz
   have wc:IntKind.i64.wrap ((cn:Int)+1)=((cn+1:Nat):Int):=by rw [IntKind.wrap_i64];omega
   go_upto_region 65 with fail
   go_quiet (fail)
   generalize hW3:wr.drewN _=w3
   have hb3:Below wr.heap.size wr w3:=by rw [<- hW3];exact bP _ _
   have A3:=O ((Z AR).go hb3)
   have L3:=O ((Z LR).below hb3)
   have B3:=hT BR hb3
   clear hb3 hW3 d0 d1 c1 c2 c3 a1 o0 o1 o2 o3 o4 o5 y2
   cases hpq:P q with
   | false =>
    have HPQ:=O hpq
    clear hpq
    go_wp2_with fail
    go_roundg (U - (q+1))
    case measure=>omega
    case rel=>exact ⟨q+1,by omega,by go_num,by have e:dK P (q+1)=cn:=(by show dK P q+(if P q then 1 else 0)=cn;rw [Z HPQ,<- Z HCN];rfl);rw [e];exact Z A3,Z L3,Z B3⟩
   | true =>
    have HPQ:=O hpq
    clear hpq
    obtain ⟨⟨o0,o1,o2,o3,o4,o5⟩,ofz⟩:=(Z A3).oc
    have y2:=ofz 2
    clear ofz
    go_wp2_with fail
    go_roundg (U - (q+1))
    case measure=>omega
    case rel=>exact ⟨q+1,by omega,by go_num,by have e:dK P (q+1)=cn+1:=(by show dK P q+(if P q then 1 else 0)=cn+1;rw [Z HPQ,<- Z HCN];rfl);rw [e];have:=(Z A3).set2 ((cn+1:Nat):Int);exact this,(Z L3).told (Z A3) 2 _,(Z B3).setCell (p:=⟨w.heap.size+1+1,2,none⟩) (show w.heap.size<=w.heap.size+1+1 by omega) _⟩
  obtain rfl:q=U:=by omega
  obtain ⟨cn,hcn⟩:∃ cn,cn=dK P q:=⟨_,rfl⟩
  rw [<- hcn] at AR
  have HCN:=O hcn
  clear hcn
  obtain ⟨⟨r0,r1,r2,r3,r4,r5⟩,x0,x1,x2,x3,x4,x5⟩:=(Z AR).rc
  obtain ⟨⟨o0,o1,o2,o3,o4,o5⟩,ofz⟩:=(Z AR).oc
  have y1:=ofz 1
  have y2:=ofz 2
  have y3:=ofz 3
  have y4:=ofz 4
  have y5:=ofz 5
  clear ofz
  have hne:w.heap.size+1+1≠w.heap.size+1:=by omega
  have hne':w.heap.size+1≠w.heap.size+1+1:=by omega
  have HEND:Hid (tX B lb v1 (.slice a2 n cap2) n f s ⟨13,(j:Int),name,⟨kd,fn,line,sn⟩⟩ w (.returned (.agg #[.int .i64 0,.int .i64 0,.int .i64 (cn:Int),.string ⟨#[]⟩,.slice none 0 0,.slice none 0 0])) (dA wr (w.heap.size+1) 0 (cn:Int) ⟨#[]⟩ (.slice none 0 0) (.slice none 0 0))):=O (dR (bU.count (Z HO) rfl (by show ¬ (s.stops.length:Int)<=(j:Int);rw [<- Z HNS];omega)) rfl (by show (cn:Int)=((dK (hit f (s.ss (j:Int).toNat)) (cQ n s.at_):Nat):Int);rw [Int.toNat_natCast,<- Z HPP,<- Z HK,<- Z HU,Z HCN]) rfl (Z LR) (Z AR) (cD _ _) (dD.nil _ _) ((Z BR).mono hB) (bM.of_below (Z BR)) hB)
  by_cases hqk:(q:Int)<=k
  ·have hqn:¬ (q:Int)<(n:Int):=by have:=Z HU2 hqk;omega
   go_wp2
   refine bodyPost_ret (v:=.agg #[.int .i64 0,.int .i64 0,.int .i64 (cn:Int),.string ⟨#[]⟩,.slice none 0 0,.slice none 0 0]) (by simp [results,Tryz.results38,go_sem,r0,r1,r2,r3,r4,r5]) rfl ?_
   exact Z HEND
  have hqk':¬ (q:Int)<=k:=hqk
  go_wp2
  refine bodyPost_ret (v:=.agg #[.int .i64 0,.int .i64 0,.int .i64 (cn:Int),.string ⟨#[]⟩,.slice none 0 0,.slice none 0 0]) (by simp [results,Tryz.results38,go_sem,r0,r1,r2,r3,r4,r5]) rfl ?_
  exact Z HEND
theorem specAsk_any (B lb lo:Nat) (v1 v2 hv pv:Value) (nf:Nat) (fns:Nat->ByteArray) (n:Nat) (f:Nat->M) (s:LS) (a:Ak) (w:World) (h:SL B w lb v1 v2 n f s hv pv) (h2:∀ W,Below B w W->bQ lo W v2 n f) (hs:cB nf fns n f) (hok:gF n s) (hp:s.past.length<=10000) (hB:B<=w.heap.size) (hz:a.name.size<=maxLen) (hz2:a.stop.name.size<=maxLen) :
  Calls Tryz.prog 38 #[.pointer (some ⟨lb,0,none⟩),.agg #[.int .i64 a.op,.int .i64 a.n,.string a.name,.int .i64 a.stop.kind,.int .i64 a.stop.fn,.int .i64 a.stop.line,.string a.stop.name]] w fun e w'=>tX B lb v1 v2 n f s a w e w':=by
 obtain ⟨op,nn,name,kd,fn,line,sn⟩:=a
 by_cases ho:cL ⟨op,nn,name,⟨kd,fn,line,sn⟩⟩
 ·have hop:op=1∨op=2∨op=3∨op=4∨op=5∨op=6∨op=7∨op=8∨op=9∨op=10∨op=11∨op=12∨op=13:=by
   rcases ho with x | x | x | x | x | x<;>(have:=x.1;dsimp only at this;omega)
  rcases hop with rfl | rfl | rfl | rfl | rfl | rfl | rfl | rfl | rfl | rfl | rfl | rfl | rfl
  ·exact specAsk_stop B lb lo v1 v2 hv pv nf fns n f s nn name kd fn line sn w h h2 hs hok hp hB hz hz2 ho
  ·exact bN3 B lb lo v1 v2 hv pv nf fns n f s nn name kd fn line sn w h h2 hs hok hp hB hz hz2 ho
  ·exact specAsk_go B lb lo v1 v2 hv pv nf fns n f s nn name kd fn line sn w h h2 hs hok hp hB hz hz2 ho
  ·exact specAsk_back B lb lo v1 v2 hv pv nf fns n f s nn name kd fn line sn w h h2 hs hok hp hB hz hz2 ho
  ·exact specAsk_into B lb lo v1 v2 hv pv nf fns n f s nn name kd fn line sn w h h2 hs hok hp hB hz hz2 ho
  ·exact specAsk_over B lb lo v1 v2 hv pv nf fns n f s nn name kd fn line sn w h h2 hs hok hp hB hz hz2 ho
  ·exact specAsk_out B lb lo v1 v2 hv pv nf fns n f s nn name kd fn line sn w h h2 hs hok hp hB hz hz2 ho
  ·exact specAsk_undo B lb lo v1 v2 hv pv nf fns n f s nn name kd fn line sn w h h2 hs hok hp hB hz hz2 ho
  ·exact specAsk_to B lb lo v1 v2 hv pv nf fns n f s nn name kd fn line sn w h h2 hs hok hp hB hz hz2 ho
  ·exact bN4 B lb lo v1 v2 hv pv nf fns n f s nn name kd fn line sn w h h2 hs hok hp hB hz hz2 ho
  ·exact specAsk_vars B lb lo v1 v2 hv pv nf fns n f s nn name kd fn line sn w h h2 hs hok hp hB hz hz2 ho
  ·exact bN5 B lb lo v1 v2 hv pv nf fns n f s nn name kd fn line sn w h h2 hs hok hp hB hz hz2 ho
  exact bN6 B lb lo v1 v2 hv pv nf fns n f s nn name kd fn line sn w h h2 hs hok hp hB hz hz2 ho
 exact specAsk_bad B lb lo v1 v2 hv pv nf fns n f s op nn name kd fn line sn w h h2 hs hok hp hB hz hz2 ho
def bH6 (lo:Nat) (w:World) (v:Value) (n:Nat) (A:Nat->Ak):Prop :=
 ∃ a cap,v=.slice a n cap/\n<=maxLen/\∀ i,i<n->∃ b o,a=some ⟨b,o,none⟩/\w.cell? ⟨b,o+i*7,none⟩=some (.int .i64 (A i).op)/\w.cell? ⟨b,o+i*7+1,none⟩=some (.int .i64 (A i).n)/\w.cell? ⟨b,o+i*7+2,none⟩=some (.string (A i).name) /\
  w.cell? ⟨b,o+i*7+3,none⟩=some (.int .i64 (A i).stop.kind)/\w.cell? ⟨b,o+i*7+4,none⟩=some (.int .i64 (A i).stop.fn)/\w.cell? ⟨b,o+i*7+5,none⟩=some (.int .i64 (A i).stop.line)/\w.cell? ⟨b,o+i*7+6,none⟩=some (.string (A i).stop.name) /\
  (A i).name.size<=maxLen/\(A i).stop.name.size<=maxLen/\(∀ j,j<7->xU lo w ⟨b,o+i*7+j,none⟩)
theorem bH6.below {lo:Nat} {w w':World} {v:Value} {n:Nat} {A:Nat->Ak} (h:bH6 lo w v n A) (hb:Below w.heap.size w w'):bH6 lo w' v n A:=by
 obtain ⟨a,cap,rfl,hn,h⟩:=h
 refine ⟨a,cap,rfl,hn,fun i hi=>?_⟩
 obtain ⟨b,o,rfl,c0,c1,c2,c3,c4,c5,c6,z1,z2,m⟩:=h i hi
 exact ⟨b,o,rfl,bG hb c0,bG hb c1,bG hb c2,bG hb c3,bG hb c4,bG hb c5,bG hb c6,z1,z2,fun j hj=>(m j hj).below hb (by have:=bV c0;exact this)⟩
structure Tl where
 at_:Int
 d:Td
 v5:Value
 v6:Value
def dP (l:List Tl):List Value:=l.flatMap fun x=>[.int .i64 x.at_,.int .i64 x.d.code,.int .i64 x.d.num,.string x.d.text,x.v5,x.v6]
theorem bB9 (l:List Tl) (x:Tl):dP (l ++ [x])=dP l ++ [.int .i64 x.at_,.int .i64 x.d.code,.int .i64 x.d.num,.string x.d.text,x.v5,x.v6]:=by simp [dP]
structure dM (B:Nat) (w:World) (v:Value) (ts:List Tl):Prop where
 row:w.ownsRow B 38 6 v ts.length (dP ts)
 fr:∀ x,x∈ts->eA B w x.v5 x.d.fr
 vs:∀ x,x∈ts->dD B w x.v6 x.d.vs
 dis:ts.Pairwise (fun x y=>(∀ b,x.v5.ownBlock=some b->y.v5.ownBlock≠some b)/\∀ b,x.v6.ownBlock=some b->y.v6.ownBlock≠some b)
theorem dM.nil (B:Nat) (w:World):dM B w (.slice none 0 0) []:=⟨World.ownsRow_nil _ _ _ _,(fun x h=>by cases h),(fun x h=>by cases h),List.Pairwise.nil⟩
theorem dM.below {B:Nat} {w w':World} {v:Value} {ts:List Tl} (h:dM B w v ts) (hb:Below w.heap.size w w'):dM B w' v ts :=
 ⟨bN h.row hb,fun x hx=>(h.fr x hx).below hb,fun x hx=>(h.vs x hx).below hb,h.dis⟩
theorem dM.same {P:TypeId->Prop} {B:Nat} {w w':World} {v:Value} {ts:List Tl} (h:dM B w v ts) (hs:bM P w w') (p1:P 38) (p2:P 42) (p3:P 40):dM B w' v ts :=
 ⟨cK h.row hs p1,fun x hx=>cK (h.fr x hx) hs p2,fun x hx=>(h.vs x hx).same hs p3,h.dis⟩
theorem dM.snoc {B:Nat} {w w2 W1 W':World} {v v':Value} {ts:List Tl} {x:Tl} (h:dM B w v ts) (hs:bM dX w w2) (hb:Below w2.heap.size w2 W1) (hg:W1.grownBy W' v.ownBlock) (ho:W'.ownsRow B 38 6 v' (ts.length+1) (dP ts ++ [.int .i64 x.at_,.int .i64 x.d.code,.int .i64 x.d.num,.string x.d.text,x.v5,x.v6]))
  (hf:eA w.heap.size w2 x.v5 x.d.fr) (hv:dD w.heap.size w2 x.v6 x.d.vs) (hB:B<=w.heap.size):dM B W' v' (ts ++ [x]):=by
 have h2:=h.same hs (by unfold dX;decide) (by unfold dX;decide) (by unfold dX;decide)
 have r1:=bN h2.row hb
 have s1:bM (fun t=>t≠38) W1 W':=bM.grown r1 hg (fun q=>q rfl)
 refine ⟨by rw [List.length_append,bB9];exact ho,fun y hy=>?_,fun y hy=>?_,?_⟩
 ·rcases List.mem_append.1 hy with hy | hy
  ·exact cK ((h2.fr y hy).below hb) s1 (by decide)
  rw [List.mem_singleton.1 hy]
  exact eD (cK (eA.below hf hb) s1 (by decide)) hB
 ·rcases List.mem_append.1 hy with hy | hy
  ·exact ((h2.vs y hy).below hb).same s1 (by decide)
  rw [List.mem_singleton.1 hy]
  exact ((hv.below hb).same s1 (by decide)).low hB
 refine List.pairwise_append.2 ⟨h.dis,List.pairwise_singleton _ _,fun y hy z hz=>?_⟩
 rw [List.mem_singleton.1 hz]
 constructor
 ·intro b e e'
  have h1:=cJ (eM (h.fr y hy) b e).2.choose_spec
  have h3:=(eM hf b e').1
  omega
 intro b e e'
 have h1:=cJ (eM (h.vs y hy).row b e).2.choose_spec
 have h3:=(eM hv.row b e').1
 omega
def pR (nf:Nat) (fns:Nat->ByteArray) (n:Nat) (f:Nat->M) (na:Nat) (A:Nat->Ak) (ts:List Tl):Prop :=
 ((cB nf fns n f/\na<=500)/\∃ s',pD n f ⟨-1,[],[]⟩ ((List.range na).map A) s' (ts.map fun x=>(x.at_,x.d)))∨(¬ (cB nf fns n f/\na<=500)/\ts=[])
theorem bQ2:(Tryz.prog.info? 38).map (fun i=>(i.zero,i.size,i.bytes))=some (some (.agg #[.int .i64 0,.int .i64 0,.int .i64 0,.string ByteArray.empty,.slice none 0 0,.slice none 0 0]),6,88):=by kernel_rfl
theorem past_len {n:Nat} {f:Nat->M} {s:LS} {a:Ak} {s':LS} {d:Td} (hi:bU n f s a s' d):s'.past.length<=s.past.length+1:=by
 unfold bU at hi
 by_cases hok:¬ cL a
 ·rw [if_neg hok] at hi;rw [hi.1];omega
 have hok:=Classical.not_not.1 hok
 rw [if_pos hok] at hi
 by_cases e1:a.op=1
 ·rw [if_pos e1] at hi
  by_cases q:s.stops.length=50
  ·rw [if_pos q] at hi;rw [hi.1];omega
  rw [if_neg q] at hi;rw [hi.1];exact Nat.le_succ _
 rw [if_neg e1] at hi
 by_cases e2:a.op=2
 ·rw [if_pos e2] at hi
  by_cases q:(s.stops.length:Int)<=a.n
  ·rw [if_pos q] at hi;rw [hi.1];omega
  rw [if_neg q] at hi;rw [hi.1];exact Nat.le_succ _
 rw [if_neg e2] at hi
 by_cases e8:a.op=8
 ·rw [if_pos e8] at hi
  cases hg:s.past.getLast? with
  | none=>rw [hg] at hi;rw [hi.1];omega
  | some x =>
   rw [hg] at hi
   rw [hi.1]
   show s.past.dropLast.length<=_
   rw [List.length_dropLast];omega
 rw [if_neg e8] at hi
 by_cases e9:a.op=9/\(n:Int)<a.n
 ·rw [if_pos e9] at hi;rw [hi.1];omega
 rw [if_neg e9] at hi
 by_cases e10:a.op=10
 ·rw [if_pos e10] at hi;rw [hi.1];omega
 rw [if_neg e10] at hi
 by_cases e11:a.op=11
 ·rw [if_pos e11] at hi;rw [hi.1];omega
 rw [if_neg e11] at hi
 by_cases e12:a.op=12
 ·rw [if_pos e12] at hi
  cases hg:cP (gS f s.at_) a.name (jW n f s.at_) with
  | none=>rw [hg] at hi;rw [hi.1];omega
  | some x=>rw [hg] at hi;rw [hi.1];omega
 rw [if_neg e12] at hi
 by_cases e13:a.op=13
 ·rw [if_pos e13] at hi
  by_cases q:(s.stops.length:Int)<=a.n
  ·rw [if_pos q] at hi;rw [hi.1];omega
  rw [if_neg q] at hi;rw [hi.1];omega
 rw [if_neg e13] at hi
 obtain ⟨z,m,rfl,-⟩:=hi
 show (s.past ++ [s.at_]).length<=_
 rw [List.length_append]
 exact Nat.le_refl _
theorem specLook_any (lo la:Nat) (v1 v2 av:Value) (nf:Nat) (fns:Nat->ByteArray) (n:Nat) (f:Nat->M) (na:Nat) (A:Nat->Ak) (w:World) (h1:eE lo w v1 nf fns) (h2:bQ lo w v2 n f) (h3:bH6 la w av na A) :
  Calls Tryz.prog 10 #[.agg #[v1,v2],av] w fun e w'=>(∃ v ts,e=.returned v/\pR nf fns n f na A ts/\dM w.heap.size w' v ts)/\Below w.heap.size w w':=by
 have H1:=O h1;clear h1
 have H2:=O h2;clear h2
 have H3:=O h3
 obtain ⟨aa,ac,rfl,hna,-⟩:=h3
 unfold maxLen at hna
 have T0:=O (cS.new w v1 v2)
 go_enter Tryz.func10,Tryz.ntmps10
 go_wp2_with fail
 refine (xV lo _ _ nf fns n f _ ((Z H1).below (Z T0).below) ((Z H2).below (Z T0).below)).mono ?_
 rintro e w1 ⟨⟨b,rfl,hb⟩,hb1⟩
 have T1:=O ((Z T0).go hb1);clear hb1 T0
 cases b with
 | false =>
  have HS:Hid (¬ cB nf fns n f):=O (fun h=>by simp [h] at hb)
  clear hb
  go_wp2
  go_ret
  exact ⟨⟨_,[],rfl,.inr ⟨fun h=>Z HS h.1,rfl⟩,dM.nil _ _⟩,(Z T1).below⟩
 | true =>
 have HS:Hid (cB nf fns n f):=O (by simpa using hb)
 clear hb
 by_cases h5:¬ na<=500
 ·have hd5:decide ((500:Int)<(na:Int))=true:=by simp;omega
  go_wp2
  go_ret
  exact ⟨⟨_,[],rfl,.inr ⟨fun h=>h5 h.2,rfl⟩,dM.nil _ _⟩,(Z T1).below⟩
 have h5:na<=500:=Classical.not_not.1 h5
 have hd5:decide ((500:Int)<(na:Int))=false:=by simp;omega
 have g0:=(Z T1).b0
 have g1:=(Z T1).b1
 obtain ⟨i1,hi0,hz0,hz1,hz2⟩:=info_parts bQ2
 have IT:=O (And.intro hi0 (And.intro hz0 (And.intro hz1 hz2)));clear hi0 hz0 hz1 hz2
 have BA:=O (bH w1 (.cells #[v1,v2,.int .i64 (-1),.slice none 0 0,.slice none 0 0] 82))
 have HL0:Hid (SL w.heap.size (w1.alloc (.cells #[v1,v2,.int .i64 (-1),.slice none 0 0,.slice none 0 0] 82)) w1.heap.size v1 v2 n f ⟨-1,[],[]⟩ (.slice none 0 0) (.slice none 0 0)):=O ⟨heap_alloc_new w1 _,⟨fun _=>0,World.ownsRow_nil _ _ _ _,fun i hi=>absurd hi (Nat.not_lt_zero _)⟩,World.ownsRow_nil _ _ _ _,(Z T1).below.size⟩
 have HB0:=O ((Z T1).below.trans ((Z BA).mono (Z T1).below.size))
 go_wp2_with fail
 clear g0 g1
 go_loopg [6,23] na (fun g0 ov i W=>∃ (q:Nat) (s:LS) (ts:List Tl) (oa:Option Addr) (oc:Nat) (hv pv:Value),q+g0=na/\i=.int .i64 q/\ov=.slice oa q oc/\ts.length=q/\pD n f ⟨-1,[],[]⟩ ((List.range q).map A) s (ts.map fun x=>(x.at_,x.d))/\dM w.heap.size W (.slice oa q oc) ts/\SL w.heap.size W w1.heap.size v1 v2 n f s hv pv/\gF n s/\s.past.length<=q/\Below w.heap.size w W)
 case atStart=>exact ⟨0,⟨-1,[],[]⟩,[],none,0,_,_,by omega,rfl,rfl,rfl,pD.nil _,dM.nil _ _,Z HL0,gF.start n,Nat.le_refl _,Z HB0⟩
 case round =>
  clear HL0 HB0 BA
  obtain ⟨q,s,ts,oa,oc,hv,pv,hq,rfl,rfl,htl,hask,htd,hsl,hok,hpl,hb⟩:=hrel
  have HASK:=O hask
  have HTD:=O htd
  have HSL:=O hsl
  have HOK:=O hok
  have HPL:=O hpl
  have HBB:=O hb
  have HTL:=O htl
  have hws:w.heap.size<=wr.heap.size:=hb.size
  clear hask htd hsl hok hpl htl
  by_cases hlt:q<na
  ·have hq1:(q:Int)<(na:Int):=by omega
   have hq0:(0:Int)<=(q:Int):=by omega
   have wq:IntKind.i64.wrap ((q:Int)+1)=((q+1:Nat):Int):=by rw [IntKind.wrap_i64];omega
   obtain ⟨_,_,e,_,hak⟩:=(Z H3).below hb
   cases e
   obtain ⟨ab,ao,rfl,c0,c1,c2,c3,c4,c5,c6,z1,z2,-⟩:=hak q hlt
   clear hak hb
   have BW:=O (bH wr (.cells #[.int .i64 (A q).op,.int .i64 (A q).n,.string (A q).name,.int .i64 (A q).stop.kind,.int .i64 (A q).stop.fn,.int .i64 (A q).stop.line,.string (A q).stop.name] 47))
   have HBW:=O ((Z HBB).trans ((Z BW).mono hws))
   go_wp2_with fail
   refine (specAsk_any w.heap.size w1.heap.size lo v1 v2 hv pv nf fns n f s (A q) _ ((Z HSL).below (Z BW)) (fun W hW=>(Z H2).below ((Z HBW).trans hW)) (Z HS) (Z HOK) (by have:=Z HPL;omega) (Z HBW).size z1 z2).mono ?_
   rintro e w2 ⟨s',d,v5,v6,rfl,hai,⟨hv',pv',hl2⟩,hf5,hv6,hb2,hk2⟩
   have HAI:=O hai
   have HL2:=O hl2
   have HF5:=O hf5
   have HV6:=O hv6
   have HK2:=O hk2
   have HB2:=O ((Z HBW).trans hb2)
   have hl2lt:=hl2.lt
   have t2:=hl2.c2
   obtain ⟨a5,cp5,rfl⟩:=bR hf5
   obtain ⟨a6,cp6,rfl⟩:=bR hv6.row
   obtain ⟨ln5,hln5⟩:∃ l,l=d.fr.length:=⟨_,rfl⟩
   obtain ⟨ln6,hln6⟩:∃ l,l=d.vs.length:=⟨_,rfl⟩
   rw [<- hln5] at HF5
   rw [<- hln6] at HV6
   rw [<- hln5,<- hln6]
   clear hai hl2 hf5 hv6 hb2 hk2 c0 c1 c2 c3 c4 c5 c6 hln5 hln6
   obtain ⟨zz,hzz⟩:∃ zz,zz=s'.at_:=⟨_,rfl⟩
   rw [<- hzz] at t2
   have HZZ:=O hzz
   clear hzz
   have X1:=O (bH w2 (.cells #[.int .i64 zz,.int .i64 d.code,.int .i64 d.num,.string d.text,.slice a5 ln5 cp5,.slice a6 ln6 cp6] 38))
   have X2:Hid (Below w2.heap.size w2 ((w2.alloc (.cells #[.int .i64 zz,.int .i64 d.code,.int .i64 d.num,.string d.text,.slice a5 ln5 cp5,.slice a6 ln6 cp6] 38)).alloc (.cells #[.int .i64 zz,.int .i64 d.code,.int .i64 d.num,.string d.text,.slice a5 ln5 cp5,.slice a6 ln6 cp6] 38))):=O ((Z X1).trans ((bH (w2.alloc (.cells #[.int .i64 zz,.int .i64 d.code,.int .i64 d.num,.string d.text,.slice a5 ln5 cp5,.slice a6 ln6 cp6] 38)) (.cells #[.int .i64 zz,.int .i64 d.code,.int .i64 d.num,.string d.text,.slice a5 ln5 cp5,.slice a6 ln6 cp6] 38)).mono (by simp)))
   have HTK:=O ((((Z HTD).below (Z BW)).same (Z HK2) (by unfold dX;decide) (by unfold dX;decide) (by unfold dX;decide)).below (Z X2))
   have HRW:=O (Z HTK).row
   rw [Z HTL] at HRW
   have HNW:Hid (∀ j u,([.int .i64 zz,.int .i64 d.code,.int .i64 d.num,.string d.text,.slice a5 ln5 cp5,.slice a6 ln6 cp6]:List Value)[j]?=some u->((w2.alloc (.cells #[.int .i64 zz,.int .i64 d.code,.int .i64 d.num,.string d.text,.slice a5 ln5 cp5,.slice a6 ln6 cp6] 38)).alloc (.cells #[.int .i64 zz,.int .i64 d.code,.int .i64 d.num,.string d.text,.slice a5 ln5 cp5,.slice a6 ln6 cp6] 38)).cell? ((⟨w2.heap.size+1,0,none⟩:Addr).add j)=some u):=O (World.news_of_block (cs:=#[.int .i64 zz,.int .i64 d.code,.int .i64 d.num,.string d.text,.slice a5 ln5 cp5,.slice a6 ln6 cp6]) (t:=38) (fr:=(0,0)) (by have:=heap_alloc_new (w2.alloc (.cells #[.int .i64 zz,.int .i64 d.code,.int .i64 d.num,.string d.text,.slice a5 ln5 cp5,.slice a6 ln6 cp6] 38)) (.cells #[.int .i64 zz,.int .i64 d.code,.int .i64 d.num,.string d.text,.slice a5 ln5 cp5,.slice a6 ln6 cp6] 38);rw [World.size_alloc] at this;exact this))
   have hw2:w.heap.size<=w2.heap.size:=(Z HB2).size
   go_wp2_with (at_builtin;refine wpList_append_lies _ (by rfl) _ _ _ (by rfl) w.heap.size 38 i1 _ 6 88 Tryz.underlying30 (Z IT).1 (Z IT).2.1 (Z IT).2.2.1 (Z IT).2.2.2 rfl (by omega) (.slice oa q oc) q (dP ts) (by rfl) (Z HRW) ⟨w2.heap.size+1,0,none⟩ 1 1 [.int .i64 zz,.int .i64 d.code,.int .i64 d.num,.string d.text,.slice a5 ln5 cp5,.slice a6 ln6 cp6] (by rfl) (by rfl) (Z HNW) (by simp [Value.oneCell']) (by omega) (by unfold maxLen;omega) (by omega) (by simp;omega) (w2.heap.size+1+1) (by simp) ?_;intro g2 cp2 w7 hown hgrow _ _;have HO7:=O hown;have HG7:=O hgrow;clear hown hgrow)
   have HL7:Hid (SL w.heap.size w7 w1.heap.size v1 v2 n f s' hv' pv'):=O (((Z HL2).below (Z X2)).same (bM.grown (P:=fun t=>t≠38) (Z HRW) (Z HG7) (fun q=>q rfl)) (by decide) (by decide) (by decide) (by decide))
   have HT7:Hid (dM w.heap.size w7 (.slice (some ⟨g2,0,none⟩) (q+1) cp2) (ts ++ [⟨zz,d,.slice a5 ln5 cp5,.slice a6 ln6 cp6⟩])):=O (((Z HTD).below (Z BW)).snoc (x:=⟨zz,d,.slice a5 ln5 cp5,.slice a6 ln6 cp6⟩) (Z HK2) (Z X2) (Z HG7) (by rw [Z HTL];exact Z HO7) (Z HF5) (Z HV6) (Z HBW).size)
   have HB7:Hid (Below w.heap.size w w7):=O (((Z HB2).trans ((Z X2).mono hw2)).grown (Z HG7) (by simp;omega) (fun b e=>(eM (Z HRW) b e).1))
   go_roundg (na - (q+1))
   case measure=>omega
   case rel=>exact ⟨q+1,s',ts ++ [⟨zz,d,.slice a5 ln5 cp5,.slice a6 ln6 cp6⟩],some ⟨g2,0,none⟩,cp2,hv',pv',by omega,by go_num,rfl,by rw [List.length_append,Z HTL];rfl,by rw [List.range_succ,List.map_append,List.map_append,List.map_singleton,List.map_singleton];dsimp only;rw [Z HZZ];exact pD.snoc (Z HASK) (Z HAI),Z HT7,Z HL7,(Z HOK).next (Z HAI),by have:=past_len (Z HAI);have:=Z HPL;omega,Z HB7⟩
  have hq1:¬ (q:Int)<(na:Int):=by omega
  obtain rfl:q=na:=by omega
  go_wp2_with fail
  go_ret
  exact ⟨⟨_,rfl,ts,.inl ⟨⟨Z HS,h5⟩,s,Z HASK⟩,Z HTD⟩,Z HBB⟩
end Go.Proofs.YtmnmeaeicjhkhaaGreatDoor
