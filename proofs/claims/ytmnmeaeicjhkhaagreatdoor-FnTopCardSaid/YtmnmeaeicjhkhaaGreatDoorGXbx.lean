import Derived.Test.YtmnmeaeicjhkhaaGreatDoorGXax
import Derived.Test.YtmnmeaeicjhkhaaGreatDoorGFbx
set_option maxRecDepth 100000
set_option maxHeartbeats 16000000
namespace Go.Proofs.YtmnmeaeicjhkhaaGreatDoor
open Go.RowKit
theorem bH5 {w:World} {B:Nat} {e:TypeId} {v:Value} {n m:Nat} {xs:List Value} {g cap:Nat} (h:w.ownsRow B e 1 (.slice (some ⟨g,0,none⟩) n cap) n xs) (hm:m<=n):w.ownsRow B e 1 (.slice (some ⟨g,0,none⟩) m cap) m (xs.take m)/\v=v:=by
 obtain ⟨h1,h2⟩:=h
 refine ⟨⟨by rw [List.length_take];omega,?_⟩,rfl⟩
 rcases h2 with ⟨e,_⟩ | ⟨g',cap',cur,e,hB,hh,hc,hx,hs,ht⟩
 ·cases e
 cases e
 refine .inr ⟨g,cap,cur,rfl,hB,hh,by omega,hx,hs,?_⟩
 rw [<- ht,List.take_take]
 congr 1
 omega
theorem getLast_at {l:List Int} (h:l ≠ []):l.getLast?=some (l.getD (l.length - 1) 0):=by
 rw [List.getLast?_eq_getElem?,List.getD_eq_getElem?_getD]
 have:l.length - 1<l.length:=by have:=List.length_pos_iff.2 h;omega
 rw [List.getElem?_eq_getElem this];rfl
theorem specAsk_undo (B lb lo:Nat) (v1 v2 hv pv:Value) (nf:Nat) (fns:Nat->ByteArray) (n:Nat) (f:Nat->M) (s:LS) (nn:Int) (name:ByteArray) (kd fn line:Int) (sn:ByteArray) (w:World) (h:SL B w lb v1 v2 n f s hv pv) (h2:∀ W,Below B w W->bQ lo W v2 n f) (hs:cB nf fns n f) (hok:gF n s) (hp:s.past.length<=10000) (hB:B<=w.heap.size) (hz:name.size<=maxLen) (hz2:sn.size<=maxLen) (ho:cL (⟨8,nn,name,⟨kd,fn,line,sn⟩⟩:Ak)) :
  Calls Tryz.prog 38 #[.pointer (some ⟨lb,0,none⟩),.agg #[.int .i64 8,.int .i64 nn,.string name,.int .i64 kd,.int .i64 fn,.int .i64 line,.string sn]] w fun e w'=>tX B lb v1 v2 n f s (⟨8,nn,name,⟨kd,fn,line,sn⟩⟩:Ak) w e w':=by
 have H:=O h
 have H2:=O h2
 have HS:=O hs
 have HOK:=O hok
 have HP:=O hp
 clear hp
 have A0:=O (AB.new w (⟨8,nn,name,⟨kd,fn,line,sn⟩⟩:Ak))
 have HBW:=O (((bH w (.cells #[.int .i64 8,.int .i64 nn,.string name,.int .i64 kd,.int .i64 fn,.int .i64 line,.string sn] 47)).alloc (by simp) tz0).alloc (by simp;omega) tz0)
 clear h h2 hs hok
 go_enter Tryz.func38,Tryz.ntmps38
 go_wp2_with fail
 refine (dT 8 nn name kd fn line sn _ hz hz2).mono ?_
 rintro e w1 ⟨⟨b,rfl,hbb⟩,hbl⟩
 have A1:=O ((Z A0).go hbl)
 have HB1:=hT HBW hbl
 have H1:=O ((Z H).below (Z HB1))
 obtain rfl:b=true:=hbb.2 ho
 clear hbb hbl
 have HO:=O ho
 clear ho
 have c4:=(Z H1).c4
 obtain ⟨pa,pc,hpv⟩:=(Z H1).pslice
 obtain ⟨m,hm⟩:∃ m,m=s.past.length:=⟨_,rfl⟩
 rw [<- hm] at hpv
 subst hpv
 have HM:=O hm
 clear hm
 have hm1:m<=10000:=by rw [Z HM];exact Z HP
 have a0:w1.cell? ⟨w.heap.size,0,none⟩=some (.int .i64 8):=(Z A1).a0
 by_cases h0:m=0
 ·have hb0:((m:Int) == 0)=true:=by rw [h0];rfl
  have HE:Hid (s.past=[]):=O (List.length_eq_zero_iff.1 (by rw [<- Z HM];exact h0))
  clear h0
  obtain ⟨⟨r0,r1,r2,r3,r4,r5⟩,x0,x1,x2,x3,x4,x5⟩:=(Z A1).rc
  obtain ⟨⟨o0,o1,o2,o3,o4,o5⟩,ofz⟩:=(Z A1).oc
  have y1:=ofz 1
  have y2:=ofz 2
  have y3:=ofz 3
  have y4:=ofz 4
  have y5:=ofz 5
  clear ofz
  have hne:w.heap.size+1+1≠w.heap.size+1:=by omega
  have hne':w.heap.size+1≠w.heap.size+1+1:=by omega
  go_wp2
  refine bodyPost_ret (v:=.agg #[.int .i64 0,.int .i64 4,.int .i64 0,.string ⟨#[]⟩,.slice none 0 0,.slice none 0 0]) (by simp [results,Tryz.results38,go_sem,r0,r1,r2,r3,r4,r5]) rfl ?_
  exact dR (bU.undo4 (Z HO) rfl (Z HE)) rfl rfl rfl ((Z H1).told (Z A1) 1 (.int .i64 4)) ((Z A1).set1 4) (cD _ _) (dD.nil _ _) (((Z HB1).mono hB).setCell (p:=⟨w.heap.size+1+1,1,none⟩) (show B<=w.heap.size+1+1 by omega) _) ((bM.of_below (Z HB1)).far (by omega)) hB
 have hb0:((m:Int) == 0)=false:=by simp;omega
 have hrow:=(Z H1).past
 rw [<- Z HM] at hrow
 obtain ⟨g,cap,eg,hBg,_⟩:=pE hrow h0
 cases eg
 obtain ⟨j,rfl⟩:∃ j,m=j+1:=⟨m - 1,by omega⟩
 have hjl:j<s.past.length:=by rw [<- Z HM];omega
 obtain ⟨x,hx⟩:∃ x,x=s.past.getD j 0:=⟨_,rfl⟩
 have hxe:s.past[j]?=some x:=by rw [hx,List.getD_eq_getElem?_getD,List.getElem?_eq_getElem hjl];rfl
 have q0:w1.cell? ⟨g,j,none⟩=some (.int .i64 x):=(bL hrow j (.int .i64 x) (by rw [List.getElem?_map,hxe];rfl)).1
 have HROW:=O hrow
 have HX:Hid (s.past.getLast?=some x):=O (by rw [getLast_at (by intro e;rw [e] at hjl;simp at hjl),<- Z HM,hx];rfl)
 have f2:=(Z H1).fz 2
 have f4:=(Z H1).fz 4
 have c2:=(Z H1).c2
 have wj:IntKind.i64.wrap (((j+1:Nat):Int) - 1)=(j:Int):=by rw [IntKind.wrap_i64];omega
 have j0:(0:Int)<=(j:Int):=by omega
 have j1:(j:Int)<((j+1:Nat):Int):=by omega
 have j2:(j:Int)<=(pc:Int):=by omega
 clear hrow hx hxe h0
 have H2':=O ((Z H1).setAt x)
 obtain ⟨hsh,-⟩:=bH5 (v:=.slice none 0 0) (cK (P:=fun t=>t≠82) (Z HROW) (bM.set (i:=2) (u:=.int .i64 x) (Z H1).box (fun q=>q rfl)) (by decide)) (Nat.le_succ j)
 have H3:Hid (SL B ((w1.setCell ⟨lb,2,none⟩ (.int .i64 x)).setCell ⟨lb,4,none⟩ (.slice (some ⟨g,0,none⟩) j pc)) lb v1 v2 n f ⟨x,s.stops,s.past.dropLast⟩ hv (.slice (some ⟨g,0,none⟩) j pc)):=O ((Z H2').setPast (p:=s.past.dropLast) (by
  have e1:s.past.dropLast.length=j:=by rw [List.length_dropLast,<- Z HM];rfl
  rw [e1,List.dropLast_eq_take,<- Z HM,List.map_take]
  exact hsh))
 clear hsh
 have hl1:lb≠w.heap.size+1:=by have h1:=(Z H1).box;have h2:=(Z A1).rb;intro e;rw [e,h2] at h1;simp at h1
 have hl2:lb≠w.heap.size+1+1:=by have h1:=(Z H1).box;have h2:=(Z A1).ob;intro e;rw [e,h2] at h1;simp at h1
 have SK:Hid (bM dX w1 ((w1.setCell ⟨lb,2,none⟩ (.int .i64 x)).setCell ⟨lb,4,none⟩ (.slice (some ⟨g,0,none⟩) j pc))):=O ((bM.set (Z H1).box dX.no).trans (bM.set (Z H2').box dX.no))
 have A3:=O ((Z A1).same (Z SK))
 obtain ⟨⟨r0,r1,r2,r3,r4,r5⟩,x0,x1,x2,x3,x4,x5⟩:=(Z A1).rc
 obtain ⟨⟨o0,o1,o2,o3,o4,o5⟩,ofz⟩:=(Z A1).oc
 have y1:=ofz 1
 have y2:=ofz 2
 have y3:=ofz 3
 have y4:=ofz 4
 have y5:=ofz 5
 clear ofz
 have hne:w.heap.size+1+1≠w.heap.size+1:=by omega
 have hne':w.heap.size+1≠w.heap.size+1+1:=by omega
 have hl3:w.heap.size+1≠lb:=fun e=>hl1 e.symm
 have hl4:w.heap.size+1+1≠lb:=fun e=>hl2 e.symm
 go_wp2
 refine bodyPost_ret (v:=.agg #[.int .i64 0,.int .i64 0,.int .i64 0,.string ⟨#[]⟩,.slice none 0 0,.slice none 0 0]) (by simp [results,Tryz.results38,go_sem,r0,r1,r2,r3,r4,r5]) rfl ?_
 exact dR (bU.undo (Z HO) rfl (Z HX)) rfl rfl rfl (Z H3) (Z A3) (cD _ _) (dD.nil _ _) ((((Z HB1).mono hB).setCell (p:=⟨lb,2,none⟩) (Z H).lbB _).setCell (p:=⟨lb,4,none⟩) (Z H).lbB _) ((bM.of_below (Z HB1)).trans (Z SK)) hB
theorem specAsk_vars (B lb lo:Nat) (v1 v2 hv pv:Value) (nf:Nat) (fns:Nat->ByteArray) (n:Nat) (f:Nat->M) (s:LS) (nn:Int) (name:ByteArray) (kd fn line:Int) (sn:ByteArray) (w:World) (h:SL B w lb v1 v2 n f s hv pv) (h2:∀ W,Below B w W->bQ lo W v2 n f) (hs:cB nf fns n f) (hok:gF n s) (hp:s.past.length<=10000) (hB:B<=w.heap.size) (hz:name.size<=maxLen) (hz2:sn.size<=maxLen) (ho:cL (⟨11,nn,name,⟨kd,fn,line,sn⟩⟩:Ak)) :
  Calls Tryz.prog 38 #[.pointer (some ⟨lb,0,none⟩),.agg #[.int .i64 11,.int .i64 nn,.string name,.int .i64 kd,.int .i64 fn,.int .i64 line,.string sn]] w fun e w'=>tX B lb v1 v2 n f s (⟨11,nn,name,⟨kd,fn,line,sn⟩⟩:Ak) w e w':=by
 have H:=O h
 have H2:=O h2
 have HS:=O hs
 have HOK:=O hok
 have HP:=O hp
 clear hp
 have A0:=O (AB.new w (⟨11,nn,name,⟨kd,fn,line,sn⟩⟩:Ak))
 have HBW:=O (((bH w (.cells #[.int .i64 11,.int .i64 nn,.string name,.int .i64 kd,.int .i64 fn,.int .i64 line,.string sn] 47)).alloc (by simp) tz0).alloc (by simp;omega) tz0)
 clear h h2 hs hok
 go_enter Tryz.func38,Tryz.ntmps38
 go_wp2_with fail
 refine (dT 11 nn name kd fn line sn _ hz hz2).mono ?_
 rintro e w1 ⟨⟨b,rfl,hbb⟩,hbl⟩
 have A1:=O ((Z A0).go hbl)
 have HB1:=hT HBW hbl
 have H1:=O ((Z H).below (Z HB1))
 obtain rfl:b=true:=hbb.2 ho
 clear hbb hbl
 have HO:=O ho
 clear ho
 have a0:w1.cell? ⟨w.heap.size,0,none⟩=some (.int .i64 11):=(Z A1).a0
 go_wp2_with fail
 refine (bH3 B lb lo v1 v2 hv pv n f s w1 (Z H1) (Z H2 _ ((Z HB1).mono hB)) (fun i hi=>by have:=((Z HS).2.1 i hi).2.1;omega) (Z HOK).lo (Z HOK).hi).mono ?_
 rintro e w2 ⟨⟨v,rfl,hvs⟩,hb2⟩
 have A2:=O ((Z A1).go hb2)
 have HL2:=O ((Z H1).below hb2)
 have HB2:=hT HB1 hb2
 have HV:=O (hvs.low (Z HB1).size)
 obtain ⟨va,vc,rfl⟩:=bR hvs.row
 obtain ⟨nv,hnv⟩:∃ nv,nv=(eZ n f s.at_).length:=⟨_,rfl⟩
 rw [<- hnv] at HV ⊢
 clear hvs hb2 hnv
 obtain ⟨⟨r0,r1,r2,r3,r4,r5⟩,x0,x1,x2,x3,x4,x5⟩:=(Z A2).rc
 obtain ⟨⟨o0,o1,o2,o3,o4,o5⟩,ofz⟩:=(Z A2).oc
 have y1:=ofz 1
 have y2:=ofz 2
 have y3:=ofz 3
 have y4:=ofz 4
 have y5:=ofz 5
 clear ofz
 have hne:w.heap.size+1+1≠w.heap.size+1:=by omega
 have hne':w.heap.size+1≠w.heap.size+1+1:=by omega
 go_wp2
 refine bodyPost_ret (v:=.agg #[.int .i64 0,.int .i64 0,.int .i64 0,.string ⟨#[]⟩,.slice none 0 0,.slice va nv vc]) (by simp [results,Tryz.results38,go_sem,r0,r1,r2,r3,r4,r5]) rfl ?_
 exact dR (bU.vars (Z HO) rfl) rfl rfl rfl ((Z HL2).told (Z A2) 5 (.slice va nv vc)) ((Z A2).set5 (.slice va nv vc)) (cD _ _) ((Z HV).same (P:=fun q=>q≠38) (bM.set (Z A2).ob (fun q=>q rfl)) (by decide)) (((Z HB2).mono hB).setCell (p:=⟨w.heap.size+1+1,5,none⟩) (show B<=w.heap.size+1+1 by omega) _) ((bM.of_below (Z HB2)).far (by omega)) hB
theorem specAsk_to (B lb lo:Nat) (v1 v2 hv pv:Value) (nf:Nat) (fns:Nat->ByteArray) (n:Nat) (f:Nat->M) (s:LS) (nn:Int) (name:ByteArray) (kd fn line:Int) (sn:ByteArray) (w:World) (h:SL B w lb v1 v2 n f s hv pv) (h2:∀ W,Below B w W->bQ lo W v2 n f) (hs:cB nf fns n f) (hok:gF n s) (hp:s.past.length<=10000) (hB:B<=w.heap.size) (hz:name.size<=maxLen) (hz2:sn.size<=maxLen) (ho:cL (⟨9,nn,name,⟨kd,fn,line,sn⟩⟩:Ak)) :
  Calls Tryz.prog 38 #[.pointer (some ⟨lb,0,none⟩),.agg #[.int .i64 9,.int .i64 nn,.string name,.int .i64 kd,.int .i64 fn,.int .i64 line,.string sn]] w fun e w'=>tX B lb v1 v2 n f s (⟨9,nn,name,⟨kd,fn,line,sn⟩⟩:Ak) w e w':=by
 have H:=O h
 have H2:=O h2
 have HS:=O hs
 have HOK:=O hok
 have HP:=O hp
 clear hp
 have A0:=O (AB.new w (⟨9,nn,name,⟨kd,fn,line,sn⟩⟩:Ak))
 have HBW:=O (((bH w (.cells #[.int .i64 9,.int .i64 nn,.string name,.int .i64 kd,.int .i64 fn,.int .i64 line,.string sn] 47)).alloc (by simp) tz0).alloc (by simp;omega) tz0)
 clear h h2 hs hok
 go_enter Tryz.func38,Tryz.ntmps38
 go_wp2_with fail
 refine (dT 9 nn name kd fn line sn _ hz hz2).mono ?_
 rintro e w1 ⟨⟨b,rfl,hbb⟩,hbl⟩
 have A1:=O ((Z A0).go hbl)
 have HB1:=hT HBW hbl
 have H1:=O ((Z H).below (Z HB1))
 obtain rfl:b=true:=hbb.2 ho
 clear hbb hbl
 have HO:=O ho
 clear ho
 have a0:w1.cell? ⟨w.heap.size,0,none⟩=some (.int .i64 9):=(Z A1).a0
 have a1:w1.cell? ⟨w.heap.size,1,none⟩=some (.int .i64 nn):=(Z A1).a1
 have c1:=(Z H1).c1
 obtain ⟨a2,cap2,e2,hn2,-⟩:=Z H2 _ ((Z HB1).mono hB)
 subst e2
 unfold maxLen at hn2
 by_cases hgt:(n:Int)<nn
 ·have HGT:=O hgt
  go_upto_region 42 with fail
  go_quiet (fail)
  generalize hW2:w1.drewN _=w2
  have hb2:Below w1.heap.size w1 w2:=by rw [<- hW2];exact bP _ _
  have A2:=O ((Z A1).go hb2)
  have HL2:=O ((Z H1).below hb2)
  have HB2:=hT HB1 hb2
  clear hb2 hW2
  obtain ⟨⟨r0,r1,r2,r3,r4,r5⟩,x0,x1,x2,x3,x4,x5⟩:=(Z A2).rc
  obtain ⟨⟨o0,o1,o2,o3,o4,o5⟩,ofz⟩:=(Z A2).oc
  have y1:=ofz 1
  have y2:=ofz 2
  have y3:=ofz 3
  have y4:=ofz 4
  have y5:=ofz 5
  clear ofz
  have hne:w.heap.size+1+1≠w.heap.size+1:=by omega
  have hne':w.heap.size+1≠w.heap.size+1+1:=by omega
  go_wp2
  refine bodyPost_ret (v:=.agg #[.int .i64 0,.int .i64 4,.int .i64 0,.string ⟨#[]⟩,.slice none 0 0,.slice none 0 0]) (by simp [results,Tryz.results38,go_sem,r0,r1,r2,r3,r4,r5]) rfl ?_
  exact dR (bU.to4 (Z HO) rfl (Z HGT)) rfl rfl rfl ((Z HL2).told (Z A2) 1 (.int .i64 4)) ((Z A2).set1 4) (cD _ _) (dD.nil _ _) (((Z HB2).mono hB).setCell (p:=⟨w.heap.size+1+1,1,none⟩) (show B<=w.heap.size+1+1 by omega) _) ((bM.of_below (Z HB2)).far (by omega)) hB
 have hgt':¬ (n:Int)<nn:=hgt
 go_upto_region 42 with fail
 go_quiet (fail)
 generalize hW2:w1.drewN _=w2
 have hb2:Below w1.heap.size w1 w2:=by rw [<- hW2];exact bP _ _
 have A2:=O ((Z A1).go hb2)
 have HL2:=O ((Z H1).below hb2)
 have HB2:=hT HB1 hb2
 clear hb2 hW2 a0 a1 c1
 have a1:w2.cell? ⟨w.heap.size,1,none⟩=some (.int .i64 nn):=(Z A2).a1
 go_wp2_with fail
 refine (mT B lb v1 _ hv pv n f s nn w2 (Z HL2) (by have:=Z HP;omega) (Nat.le_trans hB (Z HB2).size)).mono ?_
 rintro e w3 ⟨rfl,⟨pv',hl3⟩,hb3,hk3⟩
 have A3:=O ((Z A2).same hk3)
 have HL3:=O hl3
 have HB3:=O (((Z HB2).mono hB).trans hb3)
 have HK3:=O ((bM.of_below (P:=dX) (Z HB2)).trans hk3)
 clear hl3 hb3 hk3 a1
 obtain ⟨⟨r0,r1,r2,r3,r4,r5⟩,x0,x1,x2,x3,x4,x5⟩:=(Z A3).rc
 obtain ⟨⟨o0,o1,o2,o3,o4,o5⟩,ofz⟩:=(Z A3).oc
 have y1:=ofz 1
 have y2:=ofz 2
 have y3:=ofz 3
 have y4:=ofz 4
 have y5:=ofz 5
 clear ofz
 have hne:w.heap.size+1+1≠w.heap.size+1:=by omega
 have hne':w.heap.size+1≠w.heap.size+1+1:=by omega
 go_wp2
 refine bodyPost_ret (v:=.agg #[.int .i64 0,.int .i64 0,.int .i64 0,.string ⟨#[]⟩,.slice none 0 0,.slice none 0 0]) (by simp [results,Tryz.results38,go_sem,r0,r1,r2,r3,r4,r5]) rfl ?_
 exact dR (bU.move (z:=nn) (Z HO) (.inr ⟨rfl,by show nn<=(n:Int);omega⟩) (by unfold gM;rw [if_neg (by show ¬ (9:Int)=3;omega),if_neg (by show ¬ (9:Int)=4;omega),if_neg (by show ¬ (9:Int)=5;omega),if_neg (by show ¬ (9:Int)=6;omega),if_neg (by show ¬ (9:Int)=7;omega)])) rfl rfl rfl (Z HL3) (Z A3) (cD _ _) (dD.nil _ _) (Z HB3) (Z HK3) hB
theorem specAsk_go (B lb lo:Nat) (v1 v2 hv pv:Value) (nf:Nat) (fns:Nat->ByteArray) (n:Nat) (f:Nat->M) (s:LS) (nn:Int) (name:ByteArray) (kd fn line:Int) (sn:ByteArray) (w:World) (h:SL B w lb v1 v2 n f s hv pv) (h2:∀ W,Below B w W->bQ lo W v2 n f) (hs:cB nf fns n f) (hok:gF n s) (hp:s.past.length<=10000) (hB:B<=w.heap.size) (hz:name.size<=maxLen) (hz2:sn.size<=maxLen) (ho:cL (⟨3,nn,name,⟨kd,fn,line,sn⟩⟩:Ak)) :
  Calls Tryz.prog 38 #[.pointer (some ⟨lb,0,none⟩),.agg #[.int .i64 3,.int .i64 nn,.string name,.int .i64 kd,.int .i64 fn,.int .i64 line,.string sn]] w fun e w'=>tX B lb v1 v2 n f s (⟨3,nn,name,⟨kd,fn,line,sn⟩⟩:Ak) w e w':=by
 have H:=O h
 have H2:=O h2
 have HS:=O hs
 have HOK:=O hok
 have HP:=O hp
 clear hp
 have A0:=O (AB.new w (⟨3,nn,name,⟨kd,fn,line,sn⟩⟩:Ak))
 have HBW:=O (((bH w (.cells #[.int .i64 3,.int .i64 nn,.string name,.int .i64 kd,.int .i64 fn,.int .i64 line,.string sn] 47)).alloc (by simp) tz0).alloc (by simp;omega) tz0)
 clear h h2 hs hok
 go_enter Tryz.func38,Tryz.ntmps38
 go_wp2_with fail
 refine (dT 3 nn name kd fn line sn _ hz hz2).mono ?_
 rintro e w1 ⟨⟨b,rfl,hbb⟩,hbl⟩
 have A1:=O ((Z A0).go hbl)
 have HB1:=hT HBW hbl
 have H1:=O ((Z H).below (Z HB1))
 obtain rfl:b=true:=hbb.2 ho
 clear hbb hbl
 have HO:=O ho
 clear ho
 have a0:w1.cell? ⟨w.heap.size,0,none⟩=some (.int .i64 3):=(Z A1).a0
 obtain ⟨a2,cap2,e2,hn2,-⟩:=Z H2 _ ((Z HB1).mono hB)
 subst e2
 clear hn2
 obtain ⟨ha,hc,hve⟩:=(Z H1).hslice
 obtain ⟨ns,hns⟩:∃ ns,ns=s.stops.length:=⟨_,rfl⟩
 rw [<- hns] at hve
 subst hve
 have HNS:=O hns
 have hn3:n<=3000:=(Z HS).1.2.2.1
 have hk0:=(Z HOK).lo
 have hk1:=(Z HOK).hi
 obtain ⟨k,hk⟩:∃ k,k=s.at_:=⟨_,rfl⟩
 rw [<- hk] at hk0 hk1
 have HK:=O hk
 clear hk hns
 have HSS:Hid (∀ W,Below w1.heap.size w1 W->W.cell? ⟨lb,3,none⟩=some (.slice ha ns hc)/\W.cell? ⟨lb,1,none⟩=some (.slice a2 n cap2)):=O (fun W hb=>⟨bG hb (Z H1).c3,bG hb (Z H1).c1⟩)
 have HC2:Hid (∀ W,Below w1.heap.size w1 W->W.cell? ⟨lb,2,none⟩=some (.int .i64 k)):=O (fun W hb=>by rw [Z HK];exact bG hb (Z H1).c2)
 go_upto_region 25 with fail
 refine wp_region_held_drew (S:=fun W=>W.cell? ⟨lb,3,none⟩=some (.slice ha ns hc)/\W.cell? ⟨lb,1,none⟩=some (.slice a2 n cap2)) (by kernel_rfl) (Z HSS _ (Below.refl _ _).drew) (fun hHeld=>?_)
 refine tka 0 92 hHeld ?_
 refine tka 1 93 hHeld ?_
 refine tka 2 94 hHeld ?_
 refine tka 3 95 hHeld ?_
 refine tka 4 96 hHeld ?_
 refine tka 5 97 hHeld ?_
 refine tka 6 98 hHeld ?_
 refine tka 7 99 hHeld ?_
 refine tka 8 100 hHeld ?_
 refine tka 9 101 hHeld ?_
 refine tka 10 102 hHeld ?_
 refine tka 11 103 hHeld ?_
 refine tka 12 104 hHeld ?_
 refine tka 13 105 hHeld ?_
 refine rdy 14 fun KK hK=>?_
 have q2:=Z HC2 _ (Below.refl w1.heap.size w1).drew
 go_simp
 refine hK.out _ _ (Z HSS _ (Below.refl _ _).drew) (fun hHeld=>?_)
 clear hK KK q2
 try simp only [Act.put,sy]
 refine rdy 15 fun KK hK=>?_
 have hdr:=(Below.refl w1.heap.size w1).drew
 go_simp
 refine (l3next_any B _ n f ns s.ss k _ (by have hh:=(Z H1).hits;rw [<- Z HNS] at hh;exact hh.below hdr) (by omega) (by rw [Z HNS];exact (Z HOK).st) hk0 hk1).mono ?_
 rintro e w2 ⟨⟨z,rfl,hz⟩,hw2⟩
 have hb2:Below w1.heap.size w1 w2:=by rw [hw2];exact hdr
 have HZ:=O hz
 clear hz hw2
 have H2b:=O ((Z H1).below hb2)
 have A2:=O ((Z A1).go hb2)
 have HB2:=hT HB1 hb2
 refine hK.out _ _ (Z HSS _ hb2) (fun hHeld=>?_)
 clear hK KK hb2 hdr
 try simp only [Act.put,sy]
 refine rdy 16 fun KK hK=>?_
 go_simp
 refine (mT B lb v1 _ _ pv n f s z w2 (Z H2b) (by have:=Z HP;omega) (Nat.le_trans hB (Z HB2).size)).mono ?_
 rintro e w3 ⟨rfl,⟨pv',hl3⟩,hb3,hk3⟩
 have A3:=O ((Z A2).same hk3)
 have HL3:=O hl3
 have HB3:=O (((Z HB2).mono hB).trans hb3)
 have HK3:=O ((bM.of_below (P:=dX) (Z HB2)).trans hk3)
 clear hb3 hk3
 refine hK.out _ _ ⟨hl3.c3,hl3.c1⟩ (fun hHeld=>?_)
 clear hK KK hHeld hl3
 try simp only [Act.put,sy]
 refine wpAnyH_done (by kernel_rfl) ?_ _
 obtain ⟨⟨r0,r1,r2,r3,r4,r5⟩,x0,x1,x2,x3,x4,x5⟩:=(Z A3).rc
 obtain ⟨⟨o0,o1,o2,o3,o4,o5⟩,ofz⟩:=(Z A3).oc
 have y1:=ofz 1
 have y2:=ofz 2
 have y3:=ofz 3
 have y4:=ofz 4
 have y5:=ofz 5
 clear ofz
 have hne:w.heap.size+1+1≠w.heap.size+1:=by omega
 have hne':w.heap.size+1≠w.heap.size+1+1:=by omega
 clear a0
 go_wp2
 refine bodyPost_ret (v:=.agg #[.int .i64 0,.int .i64 0,.int .i64 0,.string ⟨#[]⟩,.slice none 0 0,.slice none 0 0]) (by simp [results,Tryz.results38,go_sem,r0,r1,r2,r3,r4,r5]) rfl ?_
 exact dR (bU.move (z:=z) (Z HO) (.inl ⟨by show (3:Int)<=3;omega,by show (3:Int)<=7;omega⟩) (by unfold gM;rw [if_pos rfl];have hz:=Z HZ;rw [Z HNS,Z HK] at hz;exact hz)) rfl rfl rfl (Z HL3) (Z A3) (cD _ _) (dD.nil _ _) (Z HB3) (Z HK3) hB
theorem specAsk_back (B lb lo:Nat) (v1 v2 hv pv:Value) (nf:Nat) (fns:Nat->ByteArray) (n:Nat) (f:Nat->M) (s:LS) (nn:Int) (name:ByteArray) (kd fn line:Int) (sn:ByteArray) (w:World) (h:SL B w lb v1 v2 n f s hv pv) (h2:∀ W,Below B w W->bQ lo W v2 n f) (hs:cB nf fns n f) (hok:gF n s) (hp:s.past.length<=10000) (hB:B<=w.heap.size) (hz:name.size<=maxLen) (hz2:sn.size<=maxLen) (ho:cL (⟨4,nn,name,⟨kd,fn,line,sn⟩⟩:Ak)) :
  Calls Tryz.prog 38 #[.pointer (some ⟨lb,0,none⟩),.agg #[.int .i64 4,.int .i64 nn,.string name,.int .i64 kd,.int .i64 fn,.int .i64 line,.string sn]] w fun e w'=>tX B lb v1 v2 n f s (⟨4,nn,name,⟨kd,fn,line,sn⟩⟩:Ak) w e w':=by
 have H:=O h
 have H2:=O h2
 have HS:=O hs
 have HOK:=O hok
 have HP:=O hp
 clear hp
 have A0:=O (AB.new w (⟨4,nn,name,⟨kd,fn,line,sn⟩⟩:Ak))
 have HBW:=O (((bH w (.cells #[.int .i64 4,.int .i64 nn,.string name,.int .i64 kd,.int .i64 fn,.int .i64 line,.string sn] 47)).alloc (by simp) tz0).alloc (by simp;omega) tz0)
 clear h h2 hs hok
 go_enter Tryz.func38,Tryz.ntmps38
 go_wp2_with fail
 refine (dT 4 nn name kd fn line sn _ hz hz2).mono ?_
 rintro e w1 ⟨⟨b,rfl,hbb⟩,hbl⟩
 have A1:=O ((Z A0).go hbl)
 have HB1:=hT HBW hbl
 have H1:=O ((Z H).below (Z HB1))
 obtain rfl:b=true:=hbb.2 ho
 clear hbb hbl
 have HO:=O ho
 clear ho
 have a0:w1.cell? ⟨w.heap.size,0,none⟩=some (.int .i64 4):=(Z A1).a0
 obtain ⟨a2,cap2,e2,hn2,-⟩:=Z H2 _ ((Z HB1).mono hB)
 subst e2
 clear hn2
 obtain ⟨ha,hc,hve⟩:=(Z H1).hslice
 obtain ⟨ns,hns⟩:∃ ns,ns=s.stops.length:=⟨_,rfl⟩
 rw [<- hns] at hve
 subst hve
 have HNS:=O hns
 have hn3:n<=3000:=(Z HS).1.2.2.1
 have hk0:=(Z HOK).lo
 have hk1:=(Z HOK).hi
 obtain ⟨k,hk⟩:∃ k,k=s.at_:=⟨_,rfl⟩
 rw [<- hk] at hk0 hk1
 have HK:=O hk
 clear hk hns
 have HSS:Hid (∀ W,Below w1.heap.size w1 W->W.cell? ⟨lb,3,none⟩=some (.slice ha ns hc)):=O (fun W hb=>bG hb (Z H1).c3)
 have HC2:Hid (∀ W,Below w1.heap.size w1 W->W.cell? ⟨lb,2,none⟩=some (.int .i64 k)):=O (fun W hb=>by rw [Z HK];exact bG hb (Z H1).c2)
 go_upto_region 27 with fail
 refine wp_region_held_drew (S:=fun W=>W.cell? ⟨lb,3,none⟩=some (.slice ha ns hc)) (by kernel_rfl) (Z HSS _ (Below.refl _ _).drew) (fun hHeld=>?_)
 refine tka 0 111 hHeld ?_
 refine tka 1 112 hHeld ?_
 refine tka 2 113 hHeld ?_
 refine tka 3 114 hHeld ?_
 refine tka 4 115 hHeld ?_
 refine tka 5 116 hHeld ?_
 refine tka 6 117 hHeld ?_
 refine tka 7 118 hHeld ?_
 refine rdy 8 fun KK hK=>?_
 have q2:=Z HC2 _ (Below.refl w1.heap.size w1).drew
 go_simp
 refine hK.out _ _ (Z HSS _ (Below.refl _ _).drew) (fun hHeld=>?_)
 clear hK KK q2
 try simp only [Act.put,sy]
 refine rdy 9 fun KK hK=>?_
 have hdr:=(Below.refl w1.heap.size w1).drew
 go_simp
 refine (l3last_any B _ n f ns s.ss k _ (by have hh:=(Z H1).hits;rw [<- Z HNS] at hh;exact hh.below hdr) (by omega) (by rw [Z HNS];exact (Z HOK).st) hk0 hk1).mono ?_
 rintro e w2 ⟨⟨z,rfl,hz⟩,hw2⟩
 have hb2:Below w1.heap.size w1 w2:=by rw [hw2];exact hdr
 have HZ:=O hz
 clear hz hw2
 have H2b:=O ((Z H1).below hb2)
 have A2:=O ((Z A1).go hb2)
 have HB2:=hT HB1 hb2
 refine hK.out _ _ (Z HSS _ hb2) (fun hHeld=>?_)
 clear hK KK hb2 hdr
 try simp only [Act.put,sy]
 refine rdy 10 fun KK hK=>?_
 go_simp
 refine (mT B lb v1 _ _ pv n f s z w2 (Z H2b) (by have:=Z HP;omega) (Nat.le_trans hB (Z HB2).size)).mono ?_
 rintro e w3 ⟨rfl,⟨pv',hl3⟩,hb3,hk3⟩
 have A3:=O ((Z A2).same hk3)
 have HL3:=O hl3
 have HB3:=O (((Z HB2).mono hB).trans hb3)
 have HK3:=O ((bM.of_below (P:=dX) (Z HB2)).trans hk3)
 clear hb3 hk3
 refine hK.out _ _ hl3.c3 (fun hHeld=>?_)
 clear hK KK hHeld hl3
 try simp only [Act.put,sy]
 refine wpAnyH_done (by kernel_rfl) ?_ _
 obtain ⟨⟨r0,r1,r2,r3,r4,r5⟩,x0,x1,x2,x3,x4,x5⟩:=(Z A3).rc
 obtain ⟨⟨o0,o1,o2,o3,o4,o5⟩,ofz⟩:=(Z A3).oc
 have y1:=ofz 1
 have y2:=ofz 2
 have y3:=ofz 3
 have y4:=ofz 4
 have y5:=ofz 5
 clear ofz
 have hne:w.heap.size+1+1≠w.heap.size+1:=by omega
 have hne':w.heap.size+1≠w.heap.size+1+1:=by omega
 clear a0
 go_wp2
 refine bodyPost_ret (v:=.agg #[.int .i64 0,.int .i64 0,.int .i64 0,.string ⟨#[]⟩,.slice none 0 0,.slice none 0 0]) (by simp [results,Tryz.results38,go_sem,r0,r1,r2,r3,r4,r5]) rfl ?_
 exact dR (bU.move (z:=z) (Z HO) (.inl ⟨by show (3:Int)<=4;omega,by show (4:Int)<=7;omega⟩) (by unfold gM;rw [if_neg (by show ¬ (4:Int)=3;omega)];rw [if_pos rfl];have hz:=Z HZ;rw [Z HNS,Z HK] at hz;exact hz)) rfl rfl rfl (Z HL3) (Z A3) (cD _ _) (dD.nil _ _) (Z HB3) (Z HK3) hB
theorem specAsk_into (B lb lo:Nat) (v1 v2 hv pv:Value) (nf:Nat) (fns:Nat->ByteArray) (n:Nat) (f:Nat->M) (s:LS) (nn:Int) (name:ByteArray) (kd fn line:Int) (sn:ByteArray) (w:World) (h:SL B w lb v1 v2 n f s hv pv) (h2:∀ W,Below B w W->bQ lo W v2 n f) (hs:cB nf fns n f) (hok:gF n s) (hp:s.past.length<=10000) (hB:B<=w.heap.size) (hz:name.size<=maxLen) (hz2:sn.size<=maxLen) (ho:cL (⟨5,nn,name,⟨kd,fn,line,sn⟩⟩:Ak)) :
  Calls Tryz.prog 38 #[.pointer (some ⟨lb,0,none⟩),.agg #[.int .i64 5,.int .i64 nn,.string name,.int .i64 kd,.int .i64 fn,.int .i64 line,.string sn]] w fun e w'=>tX B lb v1 v2 n f s (⟨5,nn,name,⟨kd,fn,line,sn⟩⟩:Ak) w e w':=by
 have H:=O h
 have H2:=O h2
 have HS:=O hs
 have HOK:=O hok
 have HP:=O hp
 clear hp
 have A0:=O (AB.new w (⟨5,nn,name,⟨kd,fn,line,sn⟩⟩:Ak))
 have HBW:=O (((bH w (.cells #[.int .i64 5,.int .i64 nn,.string name,.int .i64 kd,.int .i64 fn,.int .i64 line,.string sn] 47)).alloc (by simp) tz0).alloc (by simp;omega) tz0)
 clear h h2 hs hok
 go_enter Tryz.func38,Tryz.ntmps38
 go_wp2_with fail
 refine (dT 5 nn name kd fn line sn _ hz hz2).mono ?_
 rintro e w1 ⟨⟨b,rfl,hbb⟩,hbl⟩
 have A1:=O ((Z A0).go hbl)
 have HB1:=hT HBW hbl
 have H1:=O ((Z H).below (Z HB1))
 obtain rfl:b=true:=hbb.2 ho
 clear hbb hbl
 have HO:=O ho
 clear ho
 have a0:w1.cell? ⟨w.heap.size,0,none⟩=some (.int .i64 5):=(Z A1).a0
 obtain ⟨a2,cap2,e2,hn2,-⟩:=Z H2 _ ((Z HB1).mono hB)
 subst e2
 clear hn2
 obtain ⟨ha,hc,hve⟩:=(Z H1).hslice
 obtain ⟨ns,hns⟩:∃ ns,ns=s.stops.length:=⟨_,rfl⟩
 rw [<- hns] at hve
 subst hve
 have HNS:=O hns
 have hn3:n<=3000:=(Z HS).1.2.2.1
 have hk0:=(Z HOK).lo
 have hk1:=(Z HOK).hi
 obtain ⟨k,hk⟩:∃ k,k=s.at_:=⟨_,rfl⟩
 rw [<- hk] at hk0 hk1
 have HK:=O hk
 clear hk hns
 have HSS:Hid (∀ W,Below w1.heap.size w1 W->W.cell? ⟨lb,0,none⟩=some v1/\W.cell? ⟨lb,1,none⟩=some (.slice a2 n cap2)):=O (fun W hb=>⟨bG hb (Z H1).c0,bG hb (Z H1).c1⟩)
 have HC2:Hid (∀ W,Below w1.heap.size w1 W->W.cell? ⟨lb,2,none⟩=some (.int .i64 k)):=O (fun W hb=>by rw [Z HK];exact bG hb (Z H1).c2)
 go_upto_region 29 with fail
 refine wp_region_held_drew (S:=fun W=>W.cell? ⟨lb,0,none⟩=some v1/\W.cell? ⟨lb,1,none⟩=some (.slice a2 n cap2)) (by kernel_rfl) (Z HSS _ (Below.refl _ _).drew) (fun hHeld=>?_)
 refine tka 0 124 hHeld ?_
 refine tka 1 125 hHeld ?_
 refine tka 2 126 hHeld ?_
 refine tka 3 127 hHeld ?_
 refine tka 4 128 hHeld ?_
 refine tka 5 129 hHeld ?_
 refine tka 6 130 hHeld ?_
 refine tka 7 131 hHeld ?_
 refine rdy 8 fun KK hK=>?_
 have q2:=Z HC2 _ (Below.refl w1.heap.size w1).drew
 go_simp
 refine hK.out _ _ (Z HSS _ (Below.refl _ _).drew) (fun hHeld=>?_)
 clear hK KK q2
 try simp only [Act.put,sy]
 refine rdy 9 fun KK hK=>?_
 have hdr:=(Below.refl w1.heap.size w1).drew
 go_simp
 refine (l4into_any lo _ _ nf fns n f k _ ((Z H2 _ ((Z HB1).mono hB)).below hdr) (Z HS) hk0 hk1).mono ?_
 rintro e w2 ⟨⟨z,rfl,hz⟩,hbx⟩
 have hb2:Below w1.heap.size w1 w2:=hdr.trans hbx
 have HZ:=O hz
 clear hz hbx
 have H2b:=O ((Z H1).below hb2)
 have A2:=O ((Z A1).go hb2)
 have HB2:=hT HB1 hb2
 refine hK.out _ _ (Z HSS _ hb2) (fun hHeld=>?_)
 clear hK KK hb2 hdr
 try simp only [Act.put,sy]
 refine rdy 10 fun KK hK=>?_
 go_simp
 refine (mT B lb v1 _ _ pv n f s z w2 (Z H2b) (by have:=Z HP;omega) (Nat.le_trans hB (Z HB2).size)).mono ?_
 rintro e w3 ⟨rfl,⟨pv',hl3⟩,hb3,hk3⟩
 have A3:=O ((Z A2).same hk3)
 have HL3:=O hl3
 have HB3:=O (((Z HB2).mono hB).trans hb3)
 have HK3:=O ((bM.of_below (P:=dX) (Z HB2)).trans hk3)
 clear hb3 hk3
 refine hK.out _ _ ⟨hl3.c0,hl3.c1⟩ (fun hHeld=>?_)
 clear hK KK hHeld hl3
 try simp only [Act.put,sy]
 refine wpAnyH_done (by kernel_rfl) ?_ _
 obtain ⟨⟨r0,r1,r2,r3,r4,r5⟩,x0,x1,x2,x3,x4,x5⟩:=(Z A3).rc
 obtain ⟨⟨o0,o1,o2,o3,o4,o5⟩,ofz⟩:=(Z A3).oc
 have y1:=ofz 1
 have y2:=ofz 2
 have y3:=ofz 3
 have y4:=ofz 4
 have y5:=ofz 5
 clear ofz
 have hne:w.heap.size+1+1≠w.heap.size+1:=by omega
 have hne':w.heap.size+1≠w.heap.size+1+1:=by omega
 clear a0
 go_wp2
 refine bodyPost_ret (v:=.agg #[.int .i64 0,.int .i64 0,.int .i64 0,.string ⟨#[]⟩,.slice none 0 0,.slice none 0 0]) (by simp [results,Tryz.results38,go_sem,r0,r1,r2,r3,r4,r5]) rfl ?_
 exact dR (bU.move (z:=z) (Z HO) (.inl ⟨by show (3:Int)<=5;omega,by show (5:Int)<=7;omega⟩) (by unfold gM;rw [if_neg (by show ¬ (5:Int)=3;omega)];rw [if_neg (by show ¬ (5:Int)=4;omega)];rw [if_pos rfl];rw [<- Z HK];exact Z HZ)) rfl rfl rfl (Z HL3) (Z A3) (cD _ _) (dD.nil _ _) (Z HB3) (Z HK3) hB
theorem specAsk_over (B lb lo:Nat) (v1 v2 hv pv:Value) (nf:Nat) (fns:Nat->ByteArray) (n:Nat) (f:Nat->M) (s:LS) (nn:Int) (name:ByteArray) (kd fn line:Int) (sn:ByteArray) (w:World) (h:SL B w lb v1 v2 n f s hv pv) (h2:∀ W,Below B w W->bQ lo W v2 n f) (hs:cB nf fns n f) (hok:gF n s) (hp:s.past.length<=10000) (hB:B<=w.heap.size) (hz:name.size<=maxLen) (hz2:sn.size<=maxLen) (ho:cL (⟨6,nn,name,⟨kd,fn,line,sn⟩⟩:Ak)) :
  Calls Tryz.prog 38 #[.pointer (some ⟨lb,0,none⟩),.agg #[.int .i64 6,.int .i64 nn,.string name,.int .i64 kd,.int .i64 fn,.int .i64 line,.string sn]] w fun e w'=>tX B lb v1 v2 n f s (⟨6,nn,name,⟨kd,fn,line,sn⟩⟩:Ak) w e w':=by
 have H:=O h
 have H2:=O h2
 have HS:=O hs
 have HOK:=O hok
 have HP:=O hp
 clear hp
 have A0:=O (AB.new w (⟨6,nn,name,⟨kd,fn,line,sn⟩⟩:Ak))
 have HBW:=O (((bH w (.cells #[.int .i64 6,.int .i64 nn,.string name,.int .i64 kd,.int .i64 fn,.int .i64 line,.string sn] 47)).alloc (by simp) tz0).alloc (by simp;omega) tz0)
 clear h h2 hs hok
 go_enter Tryz.func38,Tryz.ntmps38
 go_wp2_with fail
 refine (dT 6 nn name kd fn line sn _ hz hz2).mono ?_
 rintro e w1 ⟨⟨b,rfl,hbb⟩,hbl⟩
 have A1:=O ((Z A0).go hbl)
 have HB1:=hT HBW hbl
 have H1:=O ((Z H).below (Z HB1))
 obtain rfl:b=true:=hbb.2 ho
 clear hbb hbl
 have HO:=O ho
 clear ho
 have a0:w1.cell? ⟨w.heap.size,0,none⟩=some (.int .i64 6):=(Z A1).a0
 obtain ⟨a2,cap2,e2,hn2,-⟩:=Z H2 _ ((Z HB1).mono hB)
 subst e2
 clear hn2
 obtain ⟨ha,hc,hve⟩:=(Z H1).hslice
 obtain ⟨ns,hns⟩:∃ ns,ns=s.stops.length:=⟨_,rfl⟩
 rw [<- hns] at hve
 subst hve
 have HNS:=O hns
 have hn3:n<=3000:=(Z HS).1.2.2.1
 have hk0:=(Z HOK).lo
 have hk1:=(Z HOK).hi
 obtain ⟨k,hk⟩:∃ k,k=s.at_:=⟨_,rfl⟩
 rw [<- hk] at hk0 hk1
 have HK:=O hk
 clear hk hns
 have HSS:Hid (∀ W,Below w1.heap.size w1 W->W.cell? ⟨lb,0,none⟩=some v1/\W.cell? ⟨lb,1,none⟩=some (.slice a2 n cap2)):=O (fun W hb=>⟨bG hb (Z H1).c0,bG hb (Z H1).c1⟩)
 have HC2:Hid (∀ W,Below w1.heap.size w1 W->W.cell? ⟨lb,2,none⟩=some (.int .i64 k)):=O (fun W hb=>by rw [Z HK];exact bG hb (Z H1).c2)
 go_upto_region 31 with fail
 refine wp_region_held_drew (S:=fun W=>W.cell? ⟨lb,0,none⟩=some v1/\W.cell? ⟨lb,1,none⟩=some (.slice a2 n cap2)) (by kernel_rfl) (Z HSS _ (Below.refl _ _).drew) (fun hHeld=>?_)
 refine tka 0 137 hHeld ?_
 refine tka 1 138 hHeld ?_
 refine tka 2 139 hHeld ?_
 refine tka 3 140 hHeld ?_
 refine tka 4 141 hHeld ?_
 refine tka 5 142 hHeld ?_
 refine tka 6 143 hHeld ?_
 refine tka 7 144 hHeld ?_
 refine rdy 8 fun KK hK=>?_
 have q2:=Z HC2 _ (Below.refl w1.heap.size w1).drew
 go_simp
 refine hK.out _ _ (Z HSS _ (Below.refl _ _).drew) (fun hHeld=>?_)
 clear hK KK q2
 try simp only [Act.put,sy]
 refine rdy 9 fun KK hK=>?_
 have hdr:=(Below.refl w1.heap.size w1).drew
 go_simp
 refine (bB8 lo _ _ nf fns n f k 1 0 _ ((Z H2 _ ((Z HB1).mono hB)).below hdr) (Z HS) hk0 hk1 (by omega) (by omega)).mono ?_
 rintro e w2 ⟨⟨z,rfl,hz⟩,hbx⟩
 have hb2:Below w1.heap.size w1 w2:=hdr.trans hbx
 have HZ:=O hz
 clear hz hbx
 have H2b:=O ((Z H1).below hb2)
 have A2:=O ((Z A1).go hb2)
 have HB2:=hT HB1 hb2
 refine hK.out _ _ (Z HSS _ hb2) (fun hHeld=>?_)
 clear hK KK hb2 hdr
 try simp only [Act.put,sy]
 refine rdy 10 fun KK hK=>?_
 go_simp
 refine (mT B lb v1 _ _ pv n f s z w2 (Z H2b) (by have:=Z HP;omega) (Nat.le_trans hB (Z HB2).size)).mono ?_
 rintro e w3 ⟨rfl,⟨pv',hl3⟩,hb3,hk3⟩
 have A3:=O ((Z A2).same hk3)
 have HL3:=O hl3
 have HB3:=O (((Z HB2).mono hB).trans hb3)
 have HK3:=O ((bM.of_below (P:=dX) (Z HB2)).trans hk3)
 clear hb3 hk3
 refine hK.out _ _ ⟨hl3.c0,hl3.c1⟩ (fun hHeld=>?_)
 clear hK KK hHeld hl3
 try simp only [Act.put,sy]
 refine wpAnyH_done (by kernel_rfl) ?_ _
 obtain ⟨⟨r0,r1,r2,r3,r4,r5⟩,x0,x1,x2,x3,x4,x5⟩:=(Z A3).rc
 obtain ⟨⟨o0,o1,o2,o3,o4,o5⟩,ofz⟩:=(Z A3).oc
 have y1:=ofz 1
 have y2:=ofz 2
 have y3:=ofz 3
 have y4:=ofz 4
 have y5:=ofz 5
 clear ofz
 have hne:w.heap.size+1+1≠w.heap.size+1:=by omega
 have hne':w.heap.size+1≠w.heap.size+1+1:=by omega
 clear a0
 go_wp2
 refine bodyPost_ret (v:=.agg #[.int .i64 0,.int .i64 0,.int .i64 0,.string ⟨#[]⟩,.slice none 0 0,.slice none 0 0]) (by simp [results,Tryz.results38,go_sem,r0,r1,r2,r3,r4,r5]) rfl ?_
 exact dR (bU.move (z:=z) (Z HO) (.inl ⟨by show (3:Int)<=6;omega,by show (6:Int)<=7;omega⟩) (by unfold gM;rw [if_neg (by show ¬ (6:Int)=3;omega)];rw [if_neg (by show ¬ (6:Int)=4;omega)];rw [if_neg (by show ¬ (6:Int)=5;omega)];rw [if_pos rfl];rw [<- Z HK];exact .inl ⟨by omega,by rw [<- leave_over];exact Z HZ⟩)) rfl rfl rfl (Z HL3) (Z A3) (cD _ _) (dD.nil _ _) (Z HB3) (Z HK3) hB
theorem specAsk_out (B lb lo:Nat) (v1 v2 hv pv:Value) (nf:Nat) (fns:Nat->ByteArray) (n:Nat) (f:Nat->M) (s:LS) (nn:Int) (name:ByteArray) (kd fn line:Int) (sn:ByteArray) (w:World) (h:SL B w lb v1 v2 n f s hv pv) (h2:∀ W,Below B w W->bQ lo W v2 n f) (hs:cB nf fns n f) (hok:gF n s) (hp:s.past.length<=10000) (hB:B<=w.heap.size) (hz:name.size<=maxLen) (hz2:sn.size<=maxLen) (ho:cL (⟨7,nn,name,⟨kd,fn,line,sn⟩⟩:Ak)) :
  Calls Tryz.prog 38 #[.pointer (some ⟨lb,0,none⟩),.agg #[.int .i64 7,.int .i64 nn,.string name,.int .i64 kd,.int .i64 fn,.int .i64 line,.string sn]] w fun e w'=>tX B lb v1 v2 n f s (⟨7,nn,name,⟨kd,fn,line,sn⟩⟩:Ak) w e w':=by
 have H:=O h
 have H2:=O h2
 have HS:=O hs
 have HOK:=O hok
 have HP:=O hp
 clear hp
 have A0:=O (AB.new w (⟨7,nn,name,⟨kd,fn,line,sn⟩⟩:Ak))
 have HBW:=O (((bH w (.cells #[.int .i64 7,.int .i64 nn,.string name,.int .i64 kd,.int .i64 fn,.int .i64 line,.string sn] 47)).alloc (by simp) tz0).alloc (by simp;omega) tz0)
 clear h h2 hs hok
 go_enter Tryz.func38,Tryz.ntmps38
 go_wp2_with fail
 refine (dT 7 nn name kd fn line sn _ hz hz2).mono ?_
 rintro e w1 ⟨⟨b,rfl,hbb⟩,hbl⟩
 have A1:=O ((Z A0).go hbl)
 have HB1:=hT HBW hbl
 have H1:=O ((Z H).below (Z HB1))
 obtain rfl:b=true:=hbb.2 ho
 clear hbb hbl
 have HO:=O ho
 clear ho
 have a0:w1.cell? ⟨w.heap.size,0,none⟩=some (.int .i64 7):=(Z A1).a0
 obtain ⟨a2,cap2,e2,hn2,-⟩:=Z H2 _ ((Z HB1).mono hB)
 subst e2
 clear hn2
 obtain ⟨ha,hc,hve⟩:=(Z H1).hslice
 obtain ⟨ns,hns⟩:∃ ns,ns=s.stops.length:=⟨_,rfl⟩
 rw [<- hns] at hve
 subst hve
 have HNS:=O hns
 have hn3:n<=3000:=(Z HS).1.2.2.1
 have hk0:=(Z HOK).lo
 have hk1:=(Z HOK).hi
 obtain ⟨k,hk⟩:∃ k,k=s.at_:=⟨_,rfl⟩
 rw [<- hk] at hk0 hk1
 have HK:=O hk
 clear hk hns
 have HSS:Hid (∀ W,Below w1.heap.size w1 W->W.cell? ⟨lb,0,none⟩=some v1/\W.cell? ⟨lb,1,none⟩=some (.slice a2 n cap2)):=O (fun W hb=>⟨bG hb (Z H1).c0,bG hb (Z H1).c1⟩)
 have HC2:Hid (∀ W,Below w1.heap.size w1 W->W.cell? ⟨lb,2,none⟩=some (.int .i64 k)):=O (fun W hb=>by rw [Z HK];exact bG hb (Z H1).c2)
 go_upto_region 33 with fail
 refine wp_region_held_drew (S:=fun W=>W.cell? ⟨lb,0,none⟩=some v1/\W.cell? ⟨lb,1,none⟩=some (.slice a2 n cap2)) (by kernel_rfl) (Z HSS _ (Below.refl _ _).drew) (fun hHeld=>?_)
 refine tka 0 150 hHeld ?_
 refine tka 1 151 hHeld ?_
 refine tka 2 152 hHeld ?_
 refine tka 3 153 hHeld ?_
 refine tka 4 154 hHeld ?_
 refine tka 5 155 hHeld ?_
 refine tka 6 156 hHeld ?_
 refine tka 7 157 hHeld ?_
 refine rdy 8 fun KK hK=>?_
 have q2:=Z HC2 _ (Below.refl w1.heap.size w1).drew
 go_simp
 refine hK.out _ _ (Z HSS _ (Below.refl _ _).drew) (fun hHeld=>?_)
 clear hK KK q2
 try simp only [Act.put,sy]
 refine rdy 9 fun KK hK=>?_
 have hdr:=(Below.refl w1.heap.size w1).drew
 go_simp
 refine (bB8 lo _ _ nf fns n f k 3 1 _ ((Z H2 _ ((Z HB1).mono hB)).below hdr) (Z HS) hk0 hk1 (by omega) (by omega)).mono ?_
 rintro e w2 ⟨⟨z,rfl,hz⟩,hbx⟩
 have hb2:Below w1.heap.size w1 w2:=hdr.trans hbx
 have HZ:=O hz
 clear hz hbx
 have H2b:=O ((Z H1).below hb2)
 have A2:=O ((Z A1).go hb2)
 have HB2:=hT HB1 hb2
 refine hK.out _ _ (Z HSS _ hb2) (fun hHeld=>?_)
 clear hK KK hb2 hdr
 try simp only [Act.put,sy]
 refine rdy 10 fun KK hK=>?_
 go_simp
 refine (mT B lb v1 _ _ pv n f s z w2 (Z H2b) (by have:=Z HP;omega) (Nat.le_trans hB (Z HB2).size)).mono ?_
 rintro e w3 ⟨rfl,⟨pv',hl3⟩,hb3,hk3⟩
 have A3:=O ((Z A2).same hk3)
 have HL3:=O hl3
 have HB3:=O (((Z HB2).mono hB).trans hb3)
 have HK3:=O ((bM.of_below (P:=dX) (Z HB2)).trans hk3)
 clear hb3 hk3
 refine hK.out _ _ ⟨hl3.c0,hl3.c1⟩ (fun hHeld=>?_)
 clear hK KK hHeld hl3
 try simp only [Act.put,sy]
 refine wpAnyH_done (by kernel_rfl) ?_ _
 obtain ⟨⟨r0,r1,r2,r3,r4,r5⟩,x0,x1,x2,x3,x4,x5⟩:=(Z A3).rc
 obtain ⟨⟨o0,o1,o2,o3,o4,o5⟩,ofz⟩:=(Z A3).oc
 have y1:=ofz 1
 have y2:=ofz 2
 have y3:=ofz 3
 have y4:=ofz 4
 have y5:=ofz 5
 clear ofz
 have hne:w.heap.size+1+1≠w.heap.size+1:=by omega
 have hne':w.heap.size+1≠w.heap.size+1+1:=by omega
 clear a0
 go_wp2
 refine bodyPost_ret (v:=.agg #[.int .i64 0,.int .i64 0,.int .i64 0,.string ⟨#[]⟩,.slice none 0 0,.slice none 0 0]) (by simp [results,Tryz.results38,go_sem,r0,r1,r2,r3,r4,r5]) rfl ?_
 exact dR (bU.move (z:=z) (Z HO) (.inl ⟨by show (3:Int)<=7;omega,by show (7:Int)<=7;omega⟩) (by unfold gM;rw [if_neg (by show ¬ (7:Int)=3;omega)];rw [if_neg (by show ¬ (7:Int)=4;omega)];rw [if_neg (by show ¬ (7:Int)=5;omega)];rw [if_neg (by show ¬ (7:Int)=6;omega)];rw [if_pos rfl];rw [<- Z HK];exact .inl ⟨by omega,by rw [<- leave_out];exact Z HZ⟩)) rfl rfl rfl (Z HL3) (Z A3) (cD _ _) (dD.nil _ _) (Z HB3) (Z HK3) hB
theorem fR.snoc {B:Nat} {W:World} {hv':Value} {ns n:Nat} {f:Nat->M} {ss ss':Nat->Sp} {st:Sp} {bs:Nat->Nat} {b':Nat} (ro:W.ownsRow B 157 1 hv' (ns+1) ((List.range ns).map (fun i=>Value.slice (some ⟨bs i,0,none⟩) n n) ++ [.slice (some ⟨b',0,none⟩) n n]))
  (hk:∀ i,i<ns->eX (bs i) W n (hit f (ss i))) (hb:eX b' W n (hit f st)) (e1:∀ i,i<ns->ss' i=ss i) (e2:ss' ns=st):fR B W hv' (ns+1) n f ss':=by
 refine ⟨fun i=>if i<ns then bs i else b',?_,fun i hi=>?_⟩
 ·rw [List.range_succ,List.map_append,List.map_singleton]
  dsimp only
  rw [if_neg (Nat.lt_irrefl ns)]
  have e:(List.range ns).map (fun i=>Value.slice (some ⟨if i<ns then bs i else b',0,none⟩) n n)=(List.range ns).map (fun i=>Value.slice (some ⟨bs i,0,none⟩) n n):=by
   apply List.map_congr_left
   intro i hi
   rw [if_pos (List.mem_range.1 hi)]
  rw [e]
  exact ro
 dsimp only
 by_cases h:i<ns
 ·rw [if_pos h,e1 i h];exact hk i h
 obtain rfl:i=ns:=by omega
 rw [if_neg h,e2];exact hb
theorem kP {s:LS} {st:Sp}:(∀ i,i<s.stops.length->LS.ss ⟨s.at_,s.stops ++ [st],s.past⟩ i=s.ss i)/\LS.ss ⟨s.at_,s.stops ++ [st],s.past⟩ s.stops.length=st:=by
 constructor
 ·intro i hi
  unfold LS.ss
  dsimp only
  rw [List.getD_eq_getElem?_getD,List.getD_eq_getElem?_getD,List.getElem?_append_left hi]
 unfold LS.ss
 dsimp only
 rw [List.getD_eq_getElem?_getD,List.getElem?_append_right (Nat.le_refl _)]
 simp
theorem SL.grownHits {B lb n:Nat} {W W1 W':World} {v1 v2 hv pv:Value} {f:Nat->M} {s:LS} (h:SL B W lb v1 v2 n f s hv pv) (hb:Below W.heap.size W W1) (hg:W1.grownBy W' hv.ownBlock) (hB:B<=W.heap.size) :
  W'.heap[lb]?=some (.cells #[v1,v2,.int .i64 s.at_,hv,pv] 82 (0,0))/\W'.ownsRow B 3 1 pv s.past.length (s.past.map (Value.int .i64))/\bM (fun t=>t≠157) W1 W'/\bM dX W W'/\Below B W W':=by
 obtain ⟨bs,r,k⟩:=h.hits
 have ha:=bN r hb
 have h1:bM (fun t=>t≠157) W1 W':=bM.grown ha hg (fun q=>q rfl)
 have h0:∀ P,bM P W W1:=fun P=>bM.of_below hb
 exact ⟨h1 _ _ _ _ (h0 (fun _=>True) _ _ _ _ h.box trivial) (by decide),cK (bN h.past hb) h1 (by decide),h1,(h0 _).trans (h1.mono (fun t q=>q.2.1)),(hb.mono hB).grown hg (Nat.le_trans hB hb.size) (fun b e=>(eM ha b e).1)⟩
theorem eX.same {P:TypeId->Prop} {b:Nat} {w w':World} {n:Nat} {F:Nat->Bool} (h:eX b w n F) (hs:bM P w w') (hp:P 4):eX b w' n F:=by
 obtain ⟨⟨cs,hb⟩,hc⟩:=h
 exact eX.of_block ⟨⟨cs,hb⟩,hc⟩ ((hs _ _ _ _ hb hp).trans hb.symm)
theorem specAsk_stop (B lb lo:Nat) (v1 v2 hv pv:Value) (nf:Nat) (fns:Nat->ByteArray) (n:Nat) (f:Nat->M) (s:LS) (nn:Int) (name:ByteArray) (kd fn line:Int) (sn:ByteArray) (w:World) (h:SL B w lb v1 v2 n f s hv pv) (h2:∀ W,Below B w W->bQ lo W v2 n f) (hs:cB nf fns n f) (hok:gF n s) (hp:s.past.length<=10000) (hB:B<=w.heap.size) (hz:name.size<=maxLen) (hz2:sn.size<=maxLen) (ho:cL (⟨1,nn,name,⟨kd,fn,line,sn⟩⟩:Ak)) :
  Calls Tryz.prog 38 #[.pointer (some ⟨lb,0,none⟩),.agg #[.int .i64 1,.int .i64 nn,.string name,.int .i64 kd,.int .i64 fn,.int .i64 line,.string sn]] w fun e w'=>tX B lb v1 v2 n f s (⟨1,nn,name,⟨kd,fn,line,sn⟩⟩:Ak) w e w':=by
 have H:=O h
 have H2:=O h2
 have HS:=O hs
 have HOK:=O hok
 have HP:=O hp
 clear hp
 have A0:=O (AB.new w (⟨1,nn,name,⟨kd,fn,line,sn⟩⟩:Ak))
 have HBW:=O (((bH w (.cells #[.int .i64 1,.int .i64 nn,.string name,.int .i64 kd,.int .i64 fn,.int .i64 line,.string sn] 47)).alloc (by simp) tz0).alloc (by simp;omega) tz0)
 clear h h2 hs hok
 go_enter Tryz.func38,Tryz.ntmps38
 go_wp2_with fail
 refine (dT 1 nn name kd fn line sn _ hz hz2).mono ?_
 rintro e w1 ⟨⟨b,rfl,hbb⟩,hbl⟩
 have A1:=O ((Z A0).go hbl)
 have HB1:=hT HBW hbl
 have H1:=O ((Z H).below (Z HB1))
 obtain rfl:b=true:=hbb.2 ho
 clear hbb hbl
 have HO:=O ho
 clear ho
 have a0:w1.cell? ⟨w.heap.size,0,none⟩=some (.int .i64 1):=(Z A1).a0
 obtain ⟨ha,hc,hve⟩:=(Z H1).hslice
 obtain ⟨ns,hns⟩:∃ ns,ns=s.stops.length:=⟨_,rfl⟩
 rw [<- hns] at hve
 subst hve
 have HNS:=O hns
 have hn50:ns<=50:=by rw [hns];exact (Z HOK).st
 have c3:=(Z H1).c3
 clear hns
 by_cases h50:ns=50
 ·have hb50:((ns:Int) == 50)=true:=by rw [h50];rfl
  have HE:Hid (s.stops.length=50):=O (by rw [<- Z HNS];exact h50)
  clear h50
  obtain ⟨⟨r0,r1,r2,r3,r4,r5⟩,x0,x1,x2,x3,x4,x5⟩:=(Z A1).rc
  obtain ⟨⟨o0,o1,o2,o3,o4,o5⟩,ofz⟩:=(Z A1).oc
  have y1:=ofz 1
  have y2:=ofz 2
  have y3:=ofz 3
  have y4:=ofz 4
  have y5:=ofz 5
  clear ofz
  have hne:w.heap.size+1+1≠w.heap.size+1:=by omega
  have hne':w.heap.size+1≠w.heap.size+1+1:=by omega
  go_wp2
  refine bodyPost_ret (v:=.agg #[.int .i64 0,.int .i64 2,.int .i64 0,.string ⟨#[]⟩,.slice none 0 0,.slice none 0 0]) (by simp [results,Tryz.results38,go_sem,r0,r1,r2,r3,r4,r5]) rfl ?_
  exact dR (bU.stop50 (Z HO) rfl (Z HE)) rfl rfl rfl ((Z H1).told (Z A1) 1 (.int .i64 2)) ((Z A1).set1 2) (cD _ _) (dD.nil _ _) (((Z HB1).mono hB).setCell (p:=⟨w.heap.size+1+1,1,none⟩) (show B<=w.heap.size+1+1 by omega) _) ((bM.of_below (Z HB1)).far (by omega)) hB
 have hb50:((ns:Int) == 50)=false:=by simp;omega
 obtain ⟨i0,hi0,hz0,hz1,hz2'⟩:=info_parts bH1
 have II:=O (And.intro hi0 (And.intro hz0 (And.intro hz1 hz2')));clear hi0 hz0 hz1 hz2'
 obtain ⟨bs,hrow,hbo⟩:=(Z H1).hits
 rw [<- Z HNS] at hrow hbo
 have HROW:=O hrow
 have HBO:=O hbo
 clear hrow hbo
 have HSS:Hid (∀ W,Below w1.heap.size w1 W->W.cell? ⟨lb,0,none⟩=some v1/\W.cell? ⟨lb,1,none⟩=some v2/\W.cell? ⟨w.heap.size,3,none⟩=some (.int .i64 kd)/\W.cell? ⟨w.heap.size,4,none⟩=some (.int .i64 fn)/\W.cell? ⟨w.heap.size,5,none⟩=some (.int .i64 line)/\W.cell? ⟨w.heap.size,6,none⟩=some (.string sn)):=O (fun W hb=>⟨bG hb (Z H1).c0,bG hb (Z H1).c1,bG hb (Z A1).a3,bG hb (Z A1).a4,bG hb (Z A1).a5,bG hb (Z A1).a6⟩)
 have HC3:Hid (∀ W,Below w1.heap.size w1 W->W.cell? ⟨lb,3,none⟩=some (.slice ha ns hc)):=O (fun W hb=>bG hb (Z H1).c3)
 go_upto_region 10 with fail
 clear c3 a0
 refine wp_region_held_drew (S:=fun W=>W.cell? ⟨lb,0,none⟩=some v1/\W.cell? ⟨lb,1,none⟩=some v2/\W.cell? ⟨w.heap.size,3,none⟩=some (.int .i64 kd)/\W.cell? ⟨w.heap.size,4,none⟩=some (.int .i64 fn)/\W.cell? ⟨w.heap.size,5,none⟩=some (.int .i64 line)/\W.cell? ⟨w.heap.size,6,none⟩=some (.string sn)) (by kernel_rfl) (Z HSS _ (Below.refl _ _).drew) (fun hHeld=>?_)
 refine tka 0 32 hHeld ?_
 refine tka 1 33 hHeld ?_
 refine tka 2 34 hHeld ?_
 refine tka 3 35 hHeld ?_
 refine tka 5 37 hHeld ?_
 refine tka 6 38 hHeld ?_
 refine tka 7 39 hHeld ?_
 refine tka 8 40 hHeld ?_
 refine tka 9 41 hHeld ?_
 refine tka 10 42 hHeld ?_
 have HB0:=O ((Below.refl w1.heap.size w1).drew)
 refine wpAnyH_ready (rs:=[4,11]) (by kernel_rfl) (by simp) ?_
 refine AllReadyH.cons rfl (fun KK hK=>?_) (AllReadyH.cons rfl (fun KK hK=>?_) AllReadyH.nil)
 ·have q3:=Z HC3 _ (Z HB0)
  go_simp
  refine hK.out _ _ (Z HSS _ (Z HB0)) (fun hHeld=>?_)
  clear hK KK q3
  try simp only [Act.put,sy]
  refine rdy 11 fun KK hK=>?_
  go_simp
  refine (bG9 lo _ _ nf fns n f ⟨kd,fn,line,sn⟩ _ ((Z H2 _ ((Z HB1).mono hB)).below (Z HB0)) (Z HS)).mono ?_
  rintro e w2 ⟨⟨b1,rfl,hbo,hb1⟩,hbx⟩
  have hb2:Below w1.heap.size w1 w2:=(Z HB0).trans hbx
  have HB2:=O hb2
  have HN1:=O hbo
  have HB3:Hid (Below w1.heap.size w1 (w2.alloc (.cells #[.slice (some ⟨b1,0,none⟩) n n] 157))):=O (hb2.trans ((bH w2 _).mono hb2.size))
  refine hK.out _ _ (Z HSS _ hb2) (fun hHeld=>?_)
  clear hK KK hb2 hbo hb1 hbx
  try simp only [Act.put,sy]
  refine rdy 12 fun KK hK=>?_
  go_simp
  refine hK.out _ _ (Z HSS _ (Z HB3)) (fun hHeld=>?_)
  clear hK KK
  try simp only [Act.put,sy]
  have hrw:=bN (Z HROW) (Z HB3)
  refine rdy 13 fun KK hK=>?_
  refine step_append_lies _ (by rfl) _ _ _ (by rfl) B 157 i0 _ 1 24 Tryz.underlying79 (Z II).1 (Z II).2.1 (Z II).2.2.1 (Z II).2.2.2 rfl (by omega) (.slice ha ns hc) ns _ (by rfl) hrw
   ⟨w2.heap.size,0,none⟩ 1 1 [.slice (some ⟨b1,0,none⟩) n n] (by rfl) (by rfl) (World.news_of_block (cs:=#[.slice (some ⟨b1,0,none⟩) n n]) (t:=157) (fr:=(0,0)) (heap_alloc_new w2 _)) (by simp [Value.oneCell'])
   (by omega) (by unfold maxLen;omega) (by omega) (by have:=(Z HB3).size;have:=(Z HB1).size;omega) _ rfl ?_
  intro g2 cp2 w7 hown hgrow _ _
  obtain ⟨hq,hpa,hs1,hs2,hbl⟩:=(Z H1).grownHits (Z HB3) hgrow (Nat.le_trans hB (Z HB1).size)
  have HL:Hid (SL B (w7.setCell ⟨lb,3,none⟩ (.slice (some ⟨g2,0,none⟩) (ns+1) cp2)) lb v1 v2 n f ⟨s.at_,s.stops ++ [⟨kd,fn,line,sn⟩],s.past⟩ (.slice (some ⟨g2,0,none⟩) (ns+1) cp2) pv):=O (by
   have hs7:bM (fun t=>t≠82) w7 (w7.setCell ⟨lb,3,none⟩ (.slice (some ⟨g2,0,none⟩) (ns+1) cp2)):=bM.set hq (fun q=>q rfl)
   have hh:fR B w7 (.slice (some ⟨g2,0,none⟩) (ns+1) cp2) (ns+1) n f (LS.ss ⟨s.at_,s.stops ++ [⟨kd,fn,line,sn⟩],s.past⟩):=fR.snoc hown (fun i hi=>(((Z HBO) i hi).below (Z HB3)).same hs1 (by decide)) (((Z HN1).below (bH w2 _)).same hs1 (by decide)) (fun i hi=>kP.1 i (by rw [<- Z HNS];exact hi)) (by have:=(kP (s:=s) (st:=⟨kd,fn,line,sn⟩)).2;rw [<- Z HNS] at this;exact this)
   have el:(s.stops ++ [(⟨kd,fn,line,sn⟩:Sp)]).length=ns+1:=by rw [List.length_append,<- Z HNS];rfl
   exact ⟨by simp [World.setCell,Array.getElem?_modify,hq],by rw [el];exact hh.same hs7 (by decide) (by decide),cK hpa hs7 (by decide),(Z H).lbB⟩)
  have HQ:=O hq
  have HSA:Hid (bM dX w1 (w7.setCell ⟨lb,3,none⟩ (.slice (some ⟨g2,0,none⟩) (ns+1) cp2))):=O (hs2.trans (bM.set hq dX.no))
  have HBL:Hid (Below B w1 (w7.setCell ⟨lb,3,none⟩ (.slice (some ⟨g2,0,none⟩) (ns+1) cp2))):=O (hbl.setCell (p:=⟨lb,3,none⟩) (Z H).lbB _)
  have A7:=O ((Z A1).same hs2)
  have A8:=O ((Z A1).same (Z HSA))
  clear hown hgrow hq hpa hs1 hs2 hbl hrw
  have k0:w7.cell? ⟨lb,0,none⟩=some v1:=by rw [cell_of_row w7 _ 0 _ _ _ (Z HQ)];rfl
  have k1:w7.cell? ⟨lb,1,none⟩=some v2:=by rw [cell_of_row w7 _ 1 _ _ _ (Z HQ)];rfl
  have k3:w7.cell? ⟨lb,3,none⟩=some (.slice ha ns hc):=by rw [cell_of_row w7 _ 3 _ _ _ (Z HQ)];rfl
  have f3:w7.frozen? ⟨lb,3,none⟩=false:=frozen_of_row _ _ _ _ _ (Z HQ)
  refine hK.out _ _ ⟨k0,k1,(Z A7).a3,(Z A7).a4,(Z A7).a5,(Z A7).a6⟩ (fun hHeld=>?_)
  clear hK KK
  try simp only [Act.put,sy]
  refine tka 14 46 hHeld ?_
  refine tka 15 47 hHeld ?_
  refine rdy 16 fun KK hK=>?_
  go_simp
  have d3:=(Z HL).c3
  refine hK.out _ _ ⟨(Z HL).c0,(Z HL).c1,(Z A8).a3,(Z A8).a4,(Z A8).a5,(Z A8).a6⟩ (fun hHeld=>?_)
  clear hK KK hHeld k0 k1 k3 f3
  try simp only [Act.put,sy]
  refine wpAnyH_done (by kernel_rfl) ?_ _
  obtain ⟨W8,hW8⟩:∃ W8,W8=w7.setCell ⟨lb,3,none⟩ (.slice (some ⟨g2,0,none⟩) (ns+1) cp2):=⟨_,rfl⟩
  rw [<- hW8] at HL HSA HBL A8 d3 ⊢
  clear hW8 HQ A7
  have wn:IntKind.i64.wrap (((ns+1:Nat):Int) - 1)=(ns:Int):=by rw [IntKind.wrap_i64];omega
  obtain ⟨⟨r0,r1,r2,r3,r4,r5⟩,x0,x1,x2,x3,x4,x5⟩:=(Z A8).rc
  obtain ⟨⟨o0,o1,o2,o3,o4,o5⟩,ofz⟩:=(Z A8).oc
  have y1:=ofz 1
  have y2:=ofz 2
  have y3:=ofz 3
  have y4:=ofz 4
  have y5:=ofz 5
  clear ofz
  have hne:w.heap.size+1+1≠w.heap.size+1:=by omega
  have hne':w.heap.size+1≠w.heap.size+1+1:=by omega
  go_wp2
  refine bodyPost_ret (v:=.agg #[.int .i64 0,.int .i64 0,.int .i64 (ns:Int),.string ⟨#[]⟩,.slice none 0 0,.slice none 0 0]) (by simp [results,Tryz.results38,go_sem,r0,r1,r2,r3,r4,r5]) rfl ?_
  exact dR (bU.stop (Z HO) rfl (by rw [<- Z HNS];exact h50)) rfl (by rw [Z HNS]) rfl ((Z HL).told (Z A8) 2 (.int .i64 (ns:Int))) ((Z A8).set2 (ns:Int)) (cD _ _) (dD.nil _ _) ((((Z HB1).mono hB).trans (Z HBL)).setCell (p:=⟨w.heap.size+1+1,2,none⟩) (show B<=w.heap.size+1+1 by omega) _) (((bM.of_below (Z HB1)).trans (Z HSA)).far (by omega)) hB
 go_simp
 refine (bG9 lo _ _ nf fns n f ⟨kd,fn,line,sn⟩ _ ((Z H2 _ ((Z HB1).mono hB)).below (Z HB0)) (Z HS)).mono ?_
 rintro e w2 ⟨⟨b1,rfl,hbo,hb1⟩,hbx⟩
 have hb2:Below w1.heap.size w1 w2:=(Z HB0).trans hbx
 have HB2:=O hb2
 have HN1:=O hbo
 have HB3:Hid (Below w1.heap.size w1 (w2.alloc (.cells #[.slice (some ⟨b1,0,none⟩) n n] 157))):=O (hb2.trans ((bH w2 _).mono hb2.size))
 refine hK.out _ _ (Z HSS _ hb2) (fun hHeld=>?_)
 clear hK KK hb2 hbo hb1 hbx
 try simp only [Act.put,sy]
 refine wpAnyH_ready (rs:=[4,12]) (by kernel_rfl) (by simp) ?_
 refine AllReadyH.cons rfl (fun KK hK=>?_) (AllReadyH.cons rfl (fun KK hK=>?_) AllReadyH.nil)
 ·have q3:=Z HC3 _ (Z HB2)
  go_simp
  refine hK.out _ _ (Z HSS _ (Z HB2)) (fun hHeld=>?_)
  clear hK KK q3
  try simp only [Act.put,sy]
  refine rdy 12 fun KK hK=>?_
  go_simp
  refine hK.out _ _ (Z HSS _ (Z HB3)) (fun hHeld=>?_)
  clear hK KK
  try simp only [Act.put,sy]
  have hrw:=bN (Z HROW) (Z HB3)
  refine rdy 13 fun KK hK=>?_
  refine step_append_lies _ (by rfl) _ _ _ (by rfl) B 157 i0 _ 1 24 Tryz.underlying79 (Z II).1 (Z II).2.1 (Z II).2.2.1 (Z II).2.2.2 rfl (by omega) (.slice ha ns hc) ns _ (by rfl) hrw
   ⟨w2.heap.size,0,none⟩ 1 1 [.slice (some ⟨b1,0,none⟩) n n] (by rfl) (by rfl) (World.news_of_block (cs:=#[.slice (some ⟨b1,0,none⟩) n n]) (t:=157) (fr:=(0,0)) (heap_alloc_new w2 _)) (by simp [Value.oneCell'])
   (by omega) (by unfold maxLen;omega) (by omega) (by have:=(Z HB3).size;have:=(Z HB1).size;omega) _ rfl ?_
  intro g2 cp2 w7 hown hgrow _ _
  obtain ⟨hq,hpa,hs1,hs2,hbl⟩:=(Z H1).grownHits (Z HB3) hgrow (Nat.le_trans hB (Z HB1).size)
  have HL:Hid (SL B (w7.setCell ⟨lb,3,none⟩ (.slice (some ⟨g2,0,none⟩) (ns+1) cp2)) lb v1 v2 n f ⟨s.at_,s.stops ++ [⟨kd,fn,line,sn⟩],s.past⟩ (.slice (some ⟨g2,0,none⟩) (ns+1) cp2) pv):=O (by
   have hs7:bM (fun t=>t≠82) w7 (w7.setCell ⟨lb,3,none⟩ (.slice (some ⟨g2,0,none⟩) (ns+1) cp2)):=bM.set hq (fun q=>q rfl)
   have hh:fR B w7 (.slice (some ⟨g2,0,none⟩) (ns+1) cp2) (ns+1) n f (LS.ss ⟨s.at_,s.stops ++ [⟨kd,fn,line,sn⟩],s.past⟩):=fR.snoc hown (fun i hi=>(((Z HBO) i hi).below (Z HB3)).same hs1 (by decide)) (((Z HN1).below (bH w2 _)).same hs1 (by decide)) (fun i hi=>kP.1 i (by rw [<- Z HNS];exact hi)) (by have:=(kP (s:=s) (st:=⟨kd,fn,line,sn⟩)).2;rw [<- Z HNS] at this;exact this)
   have el:(s.stops ++ [(⟨kd,fn,line,sn⟩:Sp)]).length=ns+1:=by rw [List.length_append,<- Z HNS];rfl
   exact ⟨by simp [World.setCell,Array.getElem?_modify,hq],by rw [el];exact hh.same hs7 (by decide) (by decide),cK hpa hs7 (by decide),(Z H).lbB⟩)
  have HQ:=O hq
  have HSA:Hid (bM dX w1 (w7.setCell ⟨lb,3,none⟩ (.slice (some ⟨g2,0,none⟩) (ns+1) cp2))):=O (hs2.trans (bM.set hq dX.no))
  have HBL:Hid (Below B w1 (w7.setCell ⟨lb,3,none⟩ (.slice (some ⟨g2,0,none⟩) (ns+1) cp2))):=O (hbl.setCell (p:=⟨lb,3,none⟩) (Z H).lbB _)
  have A7:=O ((Z A1).same hs2)
  have A8:=O ((Z A1).same (Z HSA))
  clear hown hgrow hq hpa hs1 hs2 hbl hrw
  have k0:w7.cell? ⟨lb,0,none⟩=some v1:=by rw [cell_of_row w7 _ 0 _ _ _ (Z HQ)];rfl
  have k1:w7.cell? ⟨lb,1,none⟩=some v2:=by rw [cell_of_row w7 _ 1 _ _ _ (Z HQ)];rfl
  have k3:w7.cell? ⟨lb,3,none⟩=some (.slice ha ns hc):=by rw [cell_of_row w7 _ 3 _ _ _ (Z HQ)];rfl
  have f3:w7.frozen? ⟨lb,3,none⟩=false:=frozen_of_row _ _ _ _ _ (Z HQ)
  refine hK.out _ _ ⟨k0,k1,(Z A7).a3,(Z A7).a4,(Z A7).a5,(Z A7).a6⟩ (fun hHeld=>?_)
  clear hK KK
  try simp only [Act.put,sy]
  refine tka 14 46 hHeld ?_
  refine tka 15 47 hHeld ?_
  refine rdy 16 fun KK hK=>?_
  go_simp
  have d3:=(Z HL).c3
  refine hK.out _ _ ⟨(Z HL).c0,(Z HL).c1,(Z A8).a3,(Z A8).a4,(Z A8).a5,(Z A8).a6⟩ (fun hHeld=>?_)
  clear hK KK hHeld k0 k1 k3 f3
  try simp only [Act.put,sy]
  refine wpAnyH_done (by kernel_rfl) ?_ _
  obtain ⟨W8,hW8⟩:∃ W8,W8=w7.setCell ⟨lb,3,none⟩ (.slice (some ⟨g2,0,none⟩) (ns+1) cp2):=⟨_,rfl⟩
  rw [<- hW8] at HL HSA HBL A8 d3 ⊢
  clear hW8 HQ A7
  have wn:IntKind.i64.wrap (((ns+1:Nat):Int) - 1)=(ns:Int):=by rw [IntKind.wrap_i64];omega
  obtain ⟨⟨r0,r1,r2,r3,r4,r5⟩,x0,x1,x2,x3,x4,x5⟩:=(Z A8).rc
  obtain ⟨⟨o0,o1,o2,o3,o4,o5⟩,ofz⟩:=(Z A8).oc
  have y1:=ofz 1
  have y2:=ofz 2
  have y3:=ofz 3
  have y4:=ofz 4
  have y5:=ofz 5
  clear ofz
  have hne:w.heap.size+1+1≠w.heap.size+1:=by omega
  have hne':w.heap.size+1≠w.heap.size+1+1:=by omega
  go_wp2
  refine bodyPost_ret (v:=.agg #[.int .i64 0,.int .i64 0,.int .i64 (ns:Int),.string ⟨#[]⟩,.slice none 0 0,.slice none 0 0]) (by simp [results,Tryz.results38,go_sem,r0,r1,r2,r3,r4,r5]) rfl ?_
  exact dR (bU.stop (Z HO) rfl (by rw [<- Z HNS];exact h50)) rfl (by rw [Z HNS]) rfl ((Z HL).told (Z A8) 2 (.int .i64 (ns:Int))) ((Z A8).set2 (ns:Int)) (cD _ _) (dD.nil _ _) ((((Z HB1).mono hB).trans (Z HBL)).setCell (p:=⟨w.heap.size+1+1,2,none⟩) (show B<=w.heap.size+1+1 by omega) _) (((bM.of_below (Z HB1)).trans (Z HSA)).far (by omega)) hB
 go_simp
 refine hK.out _ _ (Z HSS _ (Z HB3)) (fun hHeld=>?_)
 clear hK KK
 try simp only [Act.put,sy]
 refine rdy 4 fun KK hK=>?_
 have q3:=Z HC3 _ (Z HB3)
 go_simp
 refine hK.out _ _ (Z HSS _ (Z HB3)) (fun hHeld=>?_)
 clear hK KK q3
 try simp only [Act.put,sy]
 have hrw:=bN (Z HROW) (Z HB3)
 refine rdy 13 fun KK hK=>?_
 refine step_append_lies _ (by rfl) _ _ _ (by rfl) B 157 i0 _ 1 24 Tryz.underlying79 (Z II).1 (Z II).2.1 (Z II).2.2.1 (Z II).2.2.2 rfl (by omega) (.slice ha ns hc) ns _ (by rfl) hrw
  ⟨w2.heap.size,0,none⟩ 1 1 [.slice (some ⟨b1,0,none⟩) n n] (by rfl) (by rfl) (World.news_of_block (cs:=#[.slice (some ⟨b1,0,none⟩) n n]) (t:=157) (fr:=(0,0)) (heap_alloc_new w2 _)) (by simp [Value.oneCell'])
  (by omega) (by unfold maxLen;omega) (by omega) (by have:=(Z HB3).size;have:=(Z HB1).size;omega) _ rfl ?_
 intro g2 cp2 w7 hown hgrow _ _
 obtain ⟨hq,hpa,hs1,hs2,hbl⟩:=(Z H1).grownHits (Z HB3) hgrow (Nat.le_trans hB (Z HB1).size)
 have HL:Hid (SL B (w7.setCell ⟨lb,3,none⟩ (.slice (some ⟨g2,0,none⟩) (ns+1) cp2)) lb v1 v2 n f ⟨s.at_,s.stops ++ [⟨kd,fn,line,sn⟩],s.past⟩ (.slice (some ⟨g2,0,none⟩) (ns+1) cp2) pv):=O (by
  have hs7:bM (fun t=>t≠82) w7 (w7.setCell ⟨lb,3,none⟩ (.slice (some ⟨g2,0,none⟩) (ns+1) cp2)):=bM.set hq (fun q=>q rfl)
  have hh:fR B w7 (.slice (some ⟨g2,0,none⟩) (ns+1) cp2) (ns+1) n f (LS.ss ⟨s.at_,s.stops ++ [⟨kd,fn,line,sn⟩],s.past⟩):=fR.snoc hown (fun i hi=>(((Z HBO) i hi).below (Z HB3)).same hs1 (by decide)) (((Z HN1).below (bH w2 _)).same hs1 (by decide)) (fun i hi=>kP.1 i (by rw [<- Z HNS];exact hi)) (by have:=(kP (s:=s) (st:=⟨kd,fn,line,sn⟩)).2;rw [<- Z HNS] at this;exact this)
  have el:(s.stops ++ [(⟨kd,fn,line,sn⟩:Sp)]).length=ns+1:=by rw [List.length_append,<- Z HNS];rfl
  exact ⟨by simp [World.setCell,Array.getElem?_modify,hq],by rw [el];exact hh.same hs7 (by decide) (by decide),cK hpa hs7 (by decide),(Z H).lbB⟩)
 have HQ:=O hq
 have HSA:Hid (bM dX w1 (w7.setCell ⟨lb,3,none⟩ (.slice (some ⟨g2,0,none⟩) (ns+1) cp2))):=O (hs2.trans (bM.set hq dX.no))
 have HBL:Hid (Below B w1 (w7.setCell ⟨lb,3,none⟩ (.slice (some ⟨g2,0,none⟩) (ns+1) cp2))):=O (hbl.setCell (p:=⟨lb,3,none⟩) (Z H).lbB _)
 have A7:=O ((Z A1).same hs2)
 have A8:=O ((Z A1).same (Z HSA))
 clear hown hgrow hq hpa hs1 hs2 hbl hrw
 have k0:w7.cell? ⟨lb,0,none⟩=some v1:=by rw [cell_of_row w7 _ 0 _ _ _ (Z HQ)];rfl
 have k1:w7.cell? ⟨lb,1,none⟩=some v2:=by rw [cell_of_row w7 _ 1 _ _ _ (Z HQ)];rfl
 have k3:w7.cell? ⟨lb,3,none⟩=some (.slice ha ns hc):=by rw [cell_of_row w7 _ 3 _ _ _ (Z HQ)];rfl
 have f3:w7.frozen? ⟨lb,3,none⟩=false:=frozen_of_row _ _ _ _ _ (Z HQ)
 refine hK.out _ _ ⟨k0,k1,(Z A7).a3,(Z A7).a4,(Z A7).a5,(Z A7).a6⟩ (fun hHeld=>?_)
 clear hK KK
 try simp only [Act.put,sy]
 refine tka 14 46 hHeld ?_
 refine tka 15 47 hHeld ?_
 refine rdy 16 fun KK hK=>?_
 go_simp
 have d3:=(Z HL).c3
 refine hK.out _ _ ⟨(Z HL).c0,(Z HL).c1,(Z A8).a3,(Z A8).a4,(Z A8).a5,(Z A8).a6⟩ (fun hHeld=>?_)
 clear hK KK hHeld k0 k1 k3 f3
 try simp only [Act.put,sy]
 refine wpAnyH_done (by kernel_rfl) ?_ _
 obtain ⟨W8,hW8⟩:∃ W8,W8=w7.setCell ⟨lb,3,none⟩ (.slice (some ⟨g2,0,none⟩) (ns+1) cp2):=⟨_,rfl⟩
 rw [<- hW8] at HL HSA HBL A8 d3 ⊢
 clear hW8 HQ A7
 have wn:IntKind.i64.wrap (((ns+1:Nat):Int) - 1)=(ns:Int):=by rw [IntKind.wrap_i64];omega
 obtain ⟨⟨r0,r1,r2,r3,r4,r5⟩,x0,x1,x2,x3,x4,x5⟩:=(Z A8).rc
 obtain ⟨⟨o0,o1,o2,o3,o4,o5⟩,ofz⟩:=(Z A8).oc
 have y1:=ofz 1
 have y2:=ofz 2
 have y3:=ofz 3
 have y4:=ofz 4
 have y5:=ofz 5
 clear ofz
 have hne:w.heap.size+1+1≠w.heap.size+1:=by omega
 have hne':w.heap.size+1≠w.heap.size+1+1:=by omega
 go_wp2
 refine bodyPost_ret (v:=.agg #[.int .i64 0,.int .i64 0,.int .i64 (ns:Int),.string ⟨#[]⟩,.slice none 0 0,.slice none 0 0]) (by simp [results,Tryz.results38,go_sem,r0,r1,r2,r3,r4,r5]) rfl ?_
 exact dR (bU.stop (Z HO) rfl (by rw [<- Z HNS];exact h50)) rfl (by rw [Z HNS]) rfl ((Z HL).told (Z A8) 2 (.int .i64 (ns:Int))) ((Z A8).set2 (ns:Int)) (cD _ _) (dD.nil _ _) ((((Z HB1).mono hB).trans (Z HBL)).setCell (p:=⟨w.heap.size+1+1,2,none⟩) (show B<=w.heap.size+1+1 by omega) _) (((bM.of_below (Z HB1)).trans (Z HSA)).far (by omega)) hB
end Go.Proofs.YtmnmeaeicjhkhaaGreatDoor
