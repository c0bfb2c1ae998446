import Derived.Test.YtmnmeaeicjhkhaaGreatDoorGXay
import Derived.BigQuiet
import Derived.Test.YtmnmeaeicjhkhaaGreatDoorGFby
import Derived.Test.YtmnmeaeicjhkhaaGreatDoorGEdy
set_option maxRecDepth 100000
set_option maxHeartbeats 16000000
namespace Go.Proofs.YtmnmeaeicjhkhaaGreatDoor
open Go.RowKit
theorem owns_short {w:World} {B:Nat} {e:TypeId} {v:Value} {n m:Nat} {xs:List Value} {g cap:Nat} (h:w.ownsRow B e 1 (.slice (some ⟨g,0,none⟩) n cap) n xs) (hm:m≤n):w.ownsRow B e 1 (.slice (some ⟨g,0,none⟩) m cap) m (xs.take m)∧v=v:=by
 obtain ⟨h1,h2⟩:=h
 refine ⟨⟨by rw [List.length_take];omega,?_⟩,rfl⟩
 rcases h2 with ⟨e,_⟩ | ⟨g',cap',cur,e,hB,hh,hc,hx,hs,ht⟩
 ·cases e
 ·cases e
  refine .inr ⟨g,cap,cur,rfl,hB,hh,by omega,hx,hs,?_⟩
  rw [← ht,List.take_take]
  congr 1
  omega
theorem getLast_at {l:List Int} (h:l ≠ []):l.getLast?=some (l.getD (l.length - 1) 0):=by
 rw [List.getLast?_eq_getElem?,List.getD_eq_getElem?_getD]
 have:l.length - 1 < l.length:=by have:=List.length_pos_iff.2 h;omega
 rw [List.getElem?_eq_getElem this];rfl
theorem specAsk_undo (B lb lo:Nat) (v1 v2 hv pv:Value) (nf:Nat) (fns:Nat→ByteArray) (n:Nat) (f:Nat→M) (s:LS) (nn:Int) (name:ByteArray) (kd fn line:Int) (sn:ByteArray) (w:World) (h:SL B w lb v1 v2 n f s hv pv) (h2:∀ W,Below B w W→MomsAt lo W v2 n f) (hs:Sound nf fns n f) (hok:LsOk n s) (hp:s.past.length≤10000) (hB:B≤w.heap.size) (hz:name.size≤maxLen) (hz2:sn.size≤maxLen) (ho:OkAsk (⟨8,nn,name,⟨kd,fn,line,sn⟩⟩:Ak)) :
  Calls Tryz.prog 38 #[.pointer (some ⟨lb,0,none⟩),.agg #[.int .i64 8,.int .i64 nn,.string name,.int .i64 kd,.int .i64 fn,.int .i64 line,.string sn]] w fun e w'=>SAsk B lb v1 v2 n f s (⟨8,nn,name,⟨kd,fn,line,sn⟩⟩:Ak) w e w':=by
 have H:=hide h
 have H2:=hide h2
 have HS:=hide hs
 have HOK:=hide hok
 have HP:=hide hp
 clear hp
 have A0:=hide (AB.new w (⟨8,nn,name,⟨kd,fn,line,sn⟩⟩:Ak))
 have HBW:=hide (((below_new w (.cells #[.int .i64 8,.int .i64 nn,.string name,.int .i64 kd,.int .i64 fn,.int .i64 line,.string sn] 47)).alloc (by simp) (.cells #[.int .i64 0,.int .i64 0,.int .i64 0,.string ⟨#[]⟩,.slice none 0 0,.slice none 0 0] 38)).alloc (by simp;omega) (.cells #[.int .i64 0,.int .i64 0,.int .i64 0,.string ⟨#[]⟩,.slice none 0 0,.slice none 0 0] 38))
 clear h h2 hs hok
 go_enter Tryz.func38,Tryz.ntmps38
 go_wp2_with fail
 refine (l5askOk_any 8 nn name kd fn line sn _ hz hz2).mono ?_
 rintro e w1 ⟨⟨b,rfl,hbb⟩,hbl⟩
 have A1:=hide ((uh A0).go hbl)
 have HB1:=hide ((uh HBW).trans (hbl.mono (uh HBW).size))
 have H1:=hide ((uh H).below (uh HB1))
 obtain rfl:b=true:=hbb.2 ho
 clear hbb hbl
 have HO:=hide ho
 clear ho
 have c4:=(uh H1).c4
 obtain ⟨pa,pc,hpv⟩:=(uh H1).pslice
 obtain ⟨m,hm⟩:∃ m,m=s.past.length:=⟨_,rfl⟩
 rw [← hm] at hpv
 subst hpv
 have HM:=hide hm
 clear hm
 have hm1:m≤10000:=by rw [uh HM];exact uh HP
 have a0:w1.cell? ⟨w.heap.size,0,none⟩=some (.int .i64 8):=(uh A1).a0
 by_cases h0:m=0
 ·have hb0:((m:Int) == 0)=true:=by rw [h0];rfl
  have HE:Hid (s.past=[]):=hide (List.length_eq_zero_iff.1 (by rw [← uh HM];exact h0))
  clear h0
  obtain ⟨⟨r0,r1,r2,r3,r4,r5⟩,x0,x1,x2,x3,x4,x5⟩:=(uh A1).rc
  obtain ⟨⟨o0,o1,o2,o3,o4,o5⟩,ofz⟩:=(uh A1).oc
  have y1:=ofz 1
  have y2:=ofz 2
  have y3:=ofz 3
  have y4:=ofz 4
  have y5:=ofz 5
  clear ofz
  have hne:w.heap.size + 1 + 1 ≠ w.heap.size + 1:=by omega
  have hne':w.heap.size + 1 ≠ w.heap.size + 1 + 1:=by omega
  go_wp2
  refine bodyPost_ret (v:=.agg #[.int .i64 0,.int .i64 4,.int .i64 0,.string ⟨#[]⟩,.slice none 0 0,.slice none 0 0]) (by simp [results,Tryz.results38,go_sem,r0,r1,r2,r3,r4,r5]) rfl ?_
  exact sask_end (AskIs.undo4 (uh HO) rfl (uh HE)) rfl rfl rfl ((uh H1).told (uh A1) 1 (.int .i64 4)) ((uh A1).set1 4) (frs_nil _ _) (VsAt.nil _ _) (((uh HB1).mono hB).setCell (p:=⟨w.heap.size + 1 + 1,1,none⟩) (show B≤w.heap.size + 1 + 1 by omega) _) ((Same.of_below (uh HB1)).far (by omega)) hB
 have hb0:((m:Int) == 0)=false:=by simp;omega
 have hrow:=(uh H1).past
 rw [← uh HM] at hrow
 obtain ⟨g,cap,eg,hBg,_⟩:=owns_atx hrow h0
 cases eg
 obtain ⟨j,rfl⟩:∃ j,m=j + 1:=⟨m - 1,by omega⟩
 have hjl:j < s.past.length:=by rw [← uh HM];omega
 obtain ⟨x,hx⟩:∃ x,x=s.past.getD j 0:=⟨_,rfl⟩
 have hxe:s.past[j]?=some x:=by rw [hx,List.getD_eq_getElem?_getD,List.getElem?_eq_getElem hjl];rfl
 have q0:w1.cell? ⟨g,j,none⟩=some (.int .i64 x):=(owns_cell hrow j (.int .i64 x) (by rw [List.getElem?_map,hxe];rfl)).1
 have HROW:=hide hrow
 have HX:Hid (s.past.getLast?=some x):=hide (by rw [getLast_at (by intro e;rw [e] at hjl;simp at hjl),← uh HM,hx];rfl)
 have f2:=(uh H1).fz 2
 have f4:=(uh H1).fz 4
 have c2:=(uh H1).c2
 have wj:IntKind.i64.wrap (((j + 1:Nat):Int) - 1)=(j:Int):=by rw [IntKind.wrap_i64];omega
 have j0:(0:Int)≤(j:Int):=by omega
 have j1:(j:Int) < ((j + 1:Nat):Int):=by omega
 have j2:(j:Int)≤(pc:Int):=by omega
 clear hrow hx hxe h0
 have H2':=hide ((uh H1).setAt x)
 obtain ⟨hsh,-⟩:=owns_short (v:=.slice none 0 0) (owns_same (P:=fun t=>t ≠ 82) (uh HROW) (Same.set (i:=2) (u:=.int .i64 x) (uh H1).box (fun q=>q rfl)) (by decide)) (Nat.le_succ j)
 have H3:Hid (SL B ((w1.setCell ⟨lb,2,none⟩ (.int .i64 x)).setCell ⟨lb,4,none⟩ (.slice (some ⟨g,0,none⟩) j pc)) lb v1 v2 n f ⟨x,s.stops,s.past.dropLast⟩ hv (.slice (some ⟨g,0,none⟩) j pc)):=hide ((uh H2').setPast (p:=s.past.dropLast) (by
  have e1:s.past.dropLast.length=j:=by rw [List.length_dropLast,← uh HM];rfl
  rw [e1,List.dropLast_eq_take,← uh HM,List.map_take]
  exact hsh))
 clear hsh
 have hl1:lb ≠ w.heap.size + 1:=by have h1:=(uh H1).box;have h2:=(uh A1).rb;intro e;rw [e,h2] at h1;simp at h1
 have hl2:lb ≠ w.heap.size + 1 + 1:=by have h1:=(uh H1).box;have h2:=(uh A1).ob;intro e;rw [e,h2] at h1;simp at h1
 have SK:Hid (Same KindL w1 ((w1.setCell ⟨lb,2,none⟩ (.int .i64 x)).setCell ⟨lb,4,none⟩ (.slice (some ⟨g,0,none⟩) j pc))):=hide ((Same.set (uh H1).box KindL.no).trans (Same.set (uh H2').box KindL.no))
 have A3:=hide ((uh A1).same (uh SK))
 obtain ⟨⟨r0,r1,r2,r3,r4,r5⟩,x0,x1,x2,x3,x4,x5⟩:=(uh A1).rc
 obtain ⟨⟨o0,o1,o2,o3,o4,o5⟩,ofz⟩:=(uh A1).oc
 have y1:=ofz 1
 have y2:=ofz 2
 have y3:=ofz 3
 have y4:=ofz 4
 have y5:=ofz 5
 clear ofz
 have hne:w.heap.size + 1 + 1 ≠ w.heap.size + 1:=by omega
 have hne':w.heap.size + 1 ≠ w.heap.size + 1 + 1:=by omega
 have hl3:w.heap.size + 1 ≠ lb:=fun e=>hl1 e.symm
 have hl4:w.heap.size + 1 + 1 ≠ lb:=fun e=>hl2 e.symm
 go_wp2
 refine bodyPost_ret (v:=.agg #[.int .i64 0,.int .i64 0,.int .i64 0,.string ⟨#[]⟩,.slice none 0 0,.slice none 0 0]) (by simp [results,Tryz.results38,go_sem,r0,r1,r2,r3,r4,r5]) rfl ?_
 exact sask_end (AskIs.undo (uh HO) rfl (uh HX)) rfl rfl rfl (uh H3) (uh A3) (frs_nil _ _) (VsAt.nil _ _) ((((uh HB1).mono hB).setCell (p:=⟨lb,2,none⟩) (uh H).lbB _).setCell (p:=⟨lb,4,none⟩) (uh H).lbB _) ((Same.of_below (uh HB1)).trans (uh SK)) hB
theorem specAsk_vars (B lb lo:Nat) (v1 v2 hv pv:Value) (nf:Nat) (fns:Nat→ByteArray) (n:Nat) (f:Nat→M) (s:LS) (nn:Int) (name:ByteArray) (kd fn line:Int) (sn:ByteArray) (w:World) (h:SL B w lb v1 v2 n f s hv pv) (h2:∀ W,Below B w W→MomsAt lo W v2 n f) (hs:Sound nf fns n f) (hok:LsOk n s) (hp:s.past.length≤10000) (hB:B≤w.heap.size) (hz:name.size≤maxLen) (hz2:sn.size≤maxLen) (ho:OkAsk (⟨11,nn,name,⟨kd,fn,line,sn⟩⟩:Ak)) :
  Calls Tryz.prog 38 #[.pointer (some ⟨lb,0,none⟩),.agg #[.int .i64 11,.int .i64 nn,.string name,.int .i64 kd,.int .i64 fn,.int .i64 line,.string sn]] w fun e w'=>SAsk B lb v1 v2 n f s (⟨11,nn,name,⟨kd,fn,line,sn⟩⟩:Ak) w e w':=by
 have H:=hide h
 have H2:=hide h2
 have HS:=hide hs
 have HOK:=hide hok
 have HP:=hide hp
 clear hp
 have A0:=hide (AB.new w (⟨11,nn,name,⟨kd,fn,line,sn⟩⟩:Ak))
 have HBW:=hide (((below_new w (.cells #[.int .i64 11,.int .i64 nn,.string name,.int .i64 kd,.int .i64 fn,.int .i64 line,.string sn] 47)).alloc (by simp) (.cells #[.int .i64 0,.int .i64 0,.int .i64 0,.string ⟨#[]⟩,.slice none 0 0,.slice none 0 0] 38)).alloc (by simp;omega) (.cells #[.int .i64 0,.int .i64 0,.int .i64 0,.string ⟨#[]⟩,.slice none 0 0,.slice none 0 0] 38))
 clear h h2 hs hok
 go_enter Tryz.func38,Tryz.ntmps38
 go_wp2_with fail
 refine (l5askOk_any 11 nn name kd fn line sn _ hz hz2).mono ?_
 rintro e w1 ⟨⟨b,rfl,hbb⟩,hbl⟩
 have A1:=hide ((uh A0).go hbl)
 have HB1:=hide ((uh HBW).trans (hbl.mono (uh HBW).size))
 have H1:=hide ((uh H).below (uh HB1))
 obtain rfl:b=true:=hbb.2 ho
 clear hbb hbl
 have HO:=hide ho
 clear ho
 have a0:w1.cell? ⟨w.heap.size,0,none⟩=some (.int .i64 11):=(uh A1).a0
 go_wp2_with fail
 refine (l5vars_any B lb lo v1 v2 hv pv n f s w1 (uh H1) (uh H2 _ ((uh HB1).mono hB)) (fun i hi=>by have:=((uh HS).2.1 i hi).2.1;omega) (uh HOK).lo (uh HOK).hi).mono ?_
 rintro e w2 ⟨⟨v,rfl,hvs⟩,hb2⟩
 have A2:=hide ((uh A1).go hb2)
 have HL2:=hide ((uh H1).below hb2)
 have HB2:=hide ((uh HB1).trans (hb2.mono (uh HB1).size))
 have HV:=hide (hvs.low (uh HB1).size)
 obtain ⟨va,vc,rfl⟩:=owns_slice hvs.row
 obtain ⟨nv,hnv⟩:∃ nv,nv=(varsOf n f s.at_).length:=⟨_,rfl⟩
 rw [← hnv] at HV ⊢
 clear hvs hb2 hnv
 obtain ⟨⟨r0,r1,r2,r3,r4,r5⟩,x0,x1,x2,x3,x4,x5⟩:=(uh A2).rc
 obtain ⟨⟨o0,o1,o2,o3,o4,o5⟩,ofz⟩:=(uh A2).oc
 have y1:=ofz 1
 have y2:=ofz 2
 have y3:=ofz 3
 have y4:=ofz 4
 have y5:=ofz 5
 clear ofz
 have hne:w.heap.size + 1 + 1 ≠ w.heap.size + 1:=by omega
 have hne':w.heap.size + 1 ≠ w.heap.size + 1 + 1:=by omega
 go_wp2
 refine bodyPost_ret (v:=.agg #[.int .i64 0,.int .i64 0,.int .i64 0,.string ⟨#[]⟩,.slice none 0 0,.slice va nv vc]) (by simp [results,Tryz.results38,go_sem,r0,r1,r2,r3,r4,r5]) rfl ?_
 exact sask_end (AskIs.vars (uh HO) rfl) rfl rfl rfl ((uh HL2).told (uh A2) 5 (.slice va nv vc)) ((uh A2).set5 (.slice va nv vc)) (frs_nil _ _) ((uh HV).same (P:=fun q=>q ≠ 38) (Same.set (uh A2).ob (fun q=>q rfl)) (by decide)) (((uh HB2).mono hB).setCell (p:=⟨w.heap.size + 1 + 1,5,none⟩) (show B≤w.heap.size + 1 + 1 by omega) _) ((Same.of_below (uh HB2)).far (by omega)) hB
theorem specAsk_to (B lb lo:Nat) (v1 v2 hv pv:Value) (nf:Nat) (fns:Nat→ByteArray) (n:Nat) (f:Nat→M) (s:LS) (nn:Int) (name:ByteArray) (kd fn line:Int) (sn:ByteArray) (w:World) (h:SL B w lb v1 v2 n f s hv pv) (h2:∀ W,Below B w W→MomsAt lo W v2 n f) (hs:Sound nf fns n f) (hok:LsOk n s) (hp:s.past.length≤10000) (hB:B≤w.heap.size) (hz:name.size≤maxLen) (hz2:sn.size≤maxLen) (ho:OkAsk (⟨9,nn,name,⟨kd,fn,line,sn⟩⟩:Ak)) :
  Calls Tryz.prog 38 #[.pointer (some ⟨lb,0,none⟩),.agg #[.int .i64 9,.int .i64 nn,.string name,.int .i64 kd,.int .i64 fn,.int .i64 line,.string sn]] w fun e w'=>SAsk B lb v1 v2 n f s (⟨9,nn,name,⟨kd,fn,line,sn⟩⟩:Ak) w e w':=by
 have H:=hide h
 have H2:=hide h2
 have HS:=hide hs
 have HOK:=hide hok
 have HP:=hide hp
 clear hp
 have A0:=hide (AB.new w (⟨9,nn,name,⟨kd,fn,line,sn⟩⟩:Ak))
 have HBW:=hide (((below_new w (.cells #[.int .i64 9,.int .i64 nn,.string name,.int .i64 kd,.int .i64 fn,.int .i64 line,.string sn] 47)).alloc (by simp) (.cells #[.int .i64 0,.int .i64 0,.int .i64 0,.string ⟨#[]⟩,.slice none 0 0,.slice none 0 0] 38)).alloc (by simp;omega) (.cells #[.int .i64 0,.int .i64 0,.int .i64 0,.string ⟨#[]⟩,.slice none 0 0,.slice none 0 0] 38))
 clear h h2 hs hok
 go_enter Tryz.func38,Tryz.ntmps38
 go_wp2_with fail
 refine (l5askOk_any 9 nn name kd fn line sn _ hz hz2).mono ?_
 rintro e w1 ⟨⟨b,rfl,hbb⟩,hbl⟩
 have A1:=hide ((uh A0).go hbl)
 have HB1:=hide ((uh HBW).trans (hbl.mono (uh HBW).size))
 have H1:=hide ((uh H).below (uh HB1))
 obtain rfl:b=true:=hbb.2 ho
 clear hbb hbl
 have HO:=hide ho
 clear ho
 have a0:w1.cell? ⟨w.heap.size,0,none⟩=some (.int .i64 9):=(uh A1).a0
 have a1:w1.cell? ⟨w.heap.size,1,none⟩=some (.int .i64 nn):=(uh A1).a1
 have c1:=(uh H1).c1
 obtain ⟨a2,cap2,e2,hn2,-⟩:=uh H2 _ ((uh HB1).mono hB)
 subst e2
 unfold maxLen at hn2
 by_cases hgt:(n:Int) < nn
 ·have HGT:=hide hgt
  go_upto_region 42 with fail
  go_quiet (fail)
  generalize hW2:w1.drewN _=w2
  have hb2:Below w1.heap.size w1 w2:=by rw [← hW2];exact below_drewN' _ _
  have A2:=hide ((uh A1).go hb2)
  have HL2:=hide ((uh H1).below hb2)
  have HB2:=hide ((uh HB1).trans (hb2.mono (uh HB1).size))
  clear hb2 hW2
  obtain ⟨⟨r0,r1,r2,r3,r4,r5⟩,x0,x1,x2,x3,x4,x5⟩:=(uh A2).rc
  obtain ⟨⟨o0,o1,o2,o3,o4,o5⟩,ofz⟩:=(uh A2).oc
  have y1:=ofz 1
  have y2:=ofz 2
  have y3:=ofz 3
  have y4:=ofz 4
  have y5:=ofz 5
  clear ofz
  have hne:w.heap.size + 1 + 1 ≠ w.heap.size + 1:=by omega
  have hne':w.heap.size + 1 ≠ w.heap.size + 1 + 1:=by omega
  go_wp2
  refine bodyPost_ret (v:=.agg #[.int .i64 0,.int .i64 4,.int .i64 0,.string ⟨#[]⟩,.slice none 0 0,.slice none 0 0]) (by simp [results,Tryz.results38,go_sem,r0,r1,r2,r3,r4,r5]) rfl ?_
  exact sask_end (AskIs.to4 (uh HO) rfl (uh HGT)) rfl rfl rfl ((uh HL2).told (uh A2) 1 (.int .i64 4)) ((uh A2).set1 4) (frs_nil _ _) (VsAt.nil _ _) (((uh HB2).mono hB).setCell (p:=⟨w.heap.size + 1 + 1,1,none⟩) (show B≤w.heap.size + 1 + 1 by omega) _) ((Same.of_below (uh HB2)).far (by omega)) hB
 have hgt':¬ (n:Int) < nn:=hgt
 go_upto_region 42 with fail
 go_quiet (fail)
 generalize hW2:w1.drewN _=w2
 have hb2:Below w1.heap.size w1 w2:=by rw [← hW2];exact below_drewN' _ _
 have A2:=hide ((uh A1).go hb2)
 have HL2:=hide ((uh H1).below hb2)
 have HB2:=hide ((uh HB1).trans (hb2.mono (uh HB1).size))
 clear hb2 hW2 a0 a1 c1
 have a1:w2.cell? ⟨w.heap.size,1,none⟩=some (.int .i64 nn):=(uh A2).a1
 go_wp2_with fail
 refine (l5move_any B lb v1 _ hv pv n f s nn w2 (uh HL2) (by have:=uh HP;omega) (Nat.le_trans hB (uh HB2).size)).mono ?_
 rintro e w3 ⟨rfl,⟨pv',hl3⟩,hb3,hk3⟩
 have A3:=hide ((uh A2).same hk3)
 have HL3:=hide hl3
 have HB3:=hide (((uh HB2).mono hB).trans hb3)
 have HK3:=hide ((Same.of_below (P:=KindL) (uh HB2)).trans hk3)
 clear hl3 hb3 hk3 a1
 obtain ⟨⟨r0,r1,r2,r3,r4,r5⟩,x0,x1,x2,x3,x4,x5⟩:=(uh A3).rc
 obtain ⟨⟨o0,o1,o2,o3,o4,o5⟩,ofz⟩:=(uh A3).oc
 have y1:=ofz 1
 have y2:=ofz 2
 have y3:=ofz 3
 have y4:=ofz 4
 have y5:=ofz 5
 clear ofz
 have hne:w.heap.size + 1 + 1 ≠ w.heap.size + 1:=by omega
 have hne':w.heap.size + 1 ≠ w.heap.size + 1 + 1:=by omega
 go_wp2
 refine bodyPost_ret (v:=.agg #[.int .i64 0,.int .i64 0,.int .i64 0,.string ⟨#[]⟩,.slice none 0 0,.slice none 0 0]) (by simp [results,Tryz.results38,go_sem,r0,r1,r2,r3,r4,r5]) rfl ?_
 exact sask_end (AskIs.move (z:=nn) (uh HO) (.inr ⟨rfl,by show nn≤(n:Int);omega⟩) (by unfold MoveTo;rw [if_neg (by show ¬ (9:Int)=3;omega),if_neg (by show ¬ (9:Int)=4;omega),if_neg (by show ¬ (9:Int)=5;omega),if_neg (by show ¬ (9:Int)=6;omega),if_neg (by show ¬ (9:Int)=7;omega)])) rfl rfl rfl (uh HL3) (uh A3) (frs_nil _ _) (VsAt.nil _ _) (uh HB3) (uh HK3) hB
end Go.Proofs.YtmnmeaeicjhkhaaGreatDoor
namespace Go.Proofs.YtmnmeaeicjhkhaaGreatDoor
open Go.RowKit
theorem specAsk_go (B lb lo:Nat) (v1 v2 hv pv:Value) (nf:Nat) (fns:Nat→ByteArray) (n:Nat) (f:Nat→M) (s:LS) (nn:Int) (name:ByteArray) (kd fn line:Int) (sn:ByteArray) (w:World) (h:SL B w lb v1 v2 n f s hv pv) (h2:∀ W,Below B w W→MomsAt lo W v2 n f) (hs:Sound nf fns n f) (hok:LsOk n s) (hp:s.past.length≤10000) (hB:B≤w.heap.size) (hz:name.size≤maxLen) (hz2:sn.size≤maxLen) (ho:OkAsk (⟨3,nn,name,⟨kd,fn,line,sn⟩⟩:Ak)) :
  Calls Tryz.prog 38 #[.pointer (some ⟨lb,0,none⟩),.agg #[.int .i64 3,.int .i64 nn,.string name,.int .i64 kd,.int .i64 fn,.int .i64 line,.string sn]] w fun e w'=>SAsk B lb v1 v2 n f s (⟨3,nn,name,⟨kd,fn,line,sn⟩⟩:Ak) w e w':=by
 have H:=hide h
 have H2:=hide h2
 have HS:=hide hs
 have HOK:=hide hok
 have HP:=hide hp
 clear hp
 have A0:=hide (AB.new w (⟨3,nn,name,⟨kd,fn,line,sn⟩⟩:Ak))
 have HBW:=hide (((below_new w (.cells #[.int .i64 3,.int .i64 nn,.string name,.int .i64 kd,.int .i64 fn,.int .i64 line,.string sn] 47)).alloc (by simp) (.cells #[.int .i64 0,.int .i64 0,.int .i64 0,.string ⟨#[]⟩,.slice none 0 0,.slice none 0 0] 38)).alloc (by simp;omega) (.cells #[.int .i64 0,.int .i64 0,.int .i64 0,.string ⟨#[]⟩,.slice none 0 0,.slice none 0 0] 38))
 clear h h2 hs hok
 go_enter Tryz.func38,Tryz.ntmps38
 go_wp2_with fail
 refine (l5askOk_any 3 nn name kd fn line sn _ hz hz2).mono ?_
 rintro e w1 ⟨⟨b,rfl,hbb⟩,hbl⟩
 have A1:=hide ((uh A0).go hbl)
 have HB1:=hide ((uh HBW).trans (hbl.mono (uh HBW).size))
 have H1:=hide ((uh H).below (uh HB1))
 obtain rfl:b=true:=hbb.2 ho
 clear hbb hbl
 have HO:=hide ho
 clear ho
 have a0:w1.cell? ⟨w.heap.size,0,none⟩=some (.int .i64 3):=(uh A1).a0
 obtain ⟨a2,cap2,e2,hn2,-⟩:=uh H2 _ ((uh HB1).mono hB)
 subst e2
 clear hn2
 obtain ⟨ha,hc,hve⟩:=(uh H1).hslice
 obtain ⟨ns,hns⟩:∃ ns,ns=s.stops.length:=⟨_,rfl⟩
 rw [← hns] at hve
 subst hve
 have HNS:=hide hns
 have hn3:n≤3000:=(uh HS).1.2.2.1
 have hk0:=(uh HOK).lo
 have hk1:=(uh HOK).hi
 obtain ⟨k,hk⟩:∃ k,k=s.at_:=⟨_,rfl⟩
 rw [← hk] at hk0 hk1
 have HK:=hide hk
 clear hk hns
 have HSS:Hid (∀ W,Below w1.heap.size w1 W→W.cell? ⟨lb,3,none⟩=some (.slice ha ns hc)∧W.cell? ⟨lb,1,none⟩=some (.slice a2 n cap2)):=hide (fun W hb=>⟨cell_below hb (uh H1).c3,cell_below hb (uh H1).c1⟩)
 have HC2:Hid (∀ W,Below w1.heap.size w1 W→W.cell? ⟨lb,2,none⟩=some (.int .i64 k)):=hide (fun W hb=>by rw [uh HK];exact cell_below hb (uh H1).c2)
 go_upto_region 25 with fail
 refine wp_region_held_drew (S:=fun W=>W.cell? ⟨lb,3,none⟩=some (.slice ha ns hc)∧W.cell? ⟨lb,1,none⟩=some (.slice a2 n cap2)) (by kernel_rfl) (uh HSS _ (Below.refl _ _).drew) (fun hHeld=>?_)
 refine tka 0 92 ?hy0a hHeld ?r0a (v:=?v0a)
 case hy0a=>intro wx hSw;obtain ⟨s0,s1⟩:=hSw;go_simp;with_reducible rfl
 simp only [Act.put,sx1,sx2,sx3]
 refine tka 1 93 ?hy1a hHeld ?r1a (v:=?v1a)
 case hy1a=>intro wx hSw;obtain ⟨s0,s1⟩:=hSw;go_simp;with_reducible rfl
 simp only [Act.put,sx1,sx2,sx3]
 refine tka 2 94 ?hy2a hHeld ?r2a (v:=?v2a)
 case hy2a=>intro wx hSw;obtain ⟨s0,s1⟩:=hSw;go_simp;with_reducible rfl
 simp only [Act.put,sx1,sx2,sx3]
 refine tka 3 95 ?hy3a hHeld ?r3a (v:=?v3a)
 case hy3a=>intro wx hSw;obtain ⟨s0,s1⟩:=hSw;go_simp;with_reducible rfl
 simp only [Act.put,sx1,sx2,sx3]
 refine tka 4 96 ?hy4a hHeld ?r4a (v:=?v4a)
 case hy4a=>intro wx hSw;obtain ⟨s0,s1⟩:=hSw;go_simp;with_reducible rfl
 simp only [Act.put,sx1,sx2,sx3]
 refine tka 5 97 ?hy5a hHeld ?r5a (v:=?v5a)
 case hy5a=>intro wx hSw;obtain ⟨s0,s1⟩:=hSw;go_simp;with_reducible rfl
 simp only [Act.put,sx1,sx2,sx3]
 refine tka 6 98 ?hy6a hHeld ?r6a (v:=?v6a)
 case hy6a=>intro wx hSw;obtain ⟨s0,s1⟩:=hSw;go_simp;with_reducible rfl
 simp only [Act.put,sx1,sx2,sx3]
 refine tka 7 99 ?hy7a hHeld ?r7a (v:=?v7a)
 case hy7a=>intro wx hSw;obtain ⟨s0,s1⟩:=hSw;go_simp;with_reducible rfl
 simp only [Act.put,sx1,sx2,sx3]
 refine tka 8 100 ?hy8a hHeld ?r8a (v:=?v8a)
 case hy8a=>intro wx hSw;obtain ⟨s0,s1⟩:=hSw;go_simp;with_reducible rfl
 simp only [Act.put,sx1,sx2,sx3]
 refine tka 9 101 ?hy9a hHeld ?r9a (v:=?v9a)
 case hy9a=>intro wx hSw;obtain ⟨s0,s1⟩:=hSw;go_simp;with_reducible rfl
 simp only [Act.put,sx1,sx2,sx3]
 refine tka 10 102 ?hy10a hHeld ?r10a (v:=?v10a)
 case hy10a=>intro wx hSw;obtain ⟨s0,s1⟩:=hSw;go_simp;with_reducible rfl
 simp only [Act.put,sx1,sx2,sx3]
 refine tka 11 103 ?hy11a hHeld ?r11a (v:=?v11a)
 case hy11a=>intro wx hSw;obtain ⟨s0,s1⟩:=hSw;go_simp;with_reducible rfl
 simp only [Act.put,sx1,sx2,sx3]
 refine tka 12 104 ?hy12a hHeld ?r12a (v:=?v12a)
 case hy12a=>intro wx hSw;obtain ⟨s0,s1⟩:=hSw;go_simp;with_reducible rfl
 simp only [Act.put,sx1,sx2,sx3]
 refine tka 13 105 ?hy13a hHeld ?r13a (v:=?v13a)
 case hy13a=>intro wx hSw;obtain ⟨s0,s1⟩:=hSw;go_simp;with_reducible rfl
 simp only [Act.put,sx1,sx2,sx3]
 refine wpAnyH_ready (rs:=[14]) (by kernel_rfl) (by simp) ?_
 refine AllReadyH.cons rfl (fun KK hK=>?_) AllReadyH.nil
 have q2:=uh HC2 _ (Below.refl w1.heap.size w1).drew
 go_simp
 refine hK.out _ _ (uh HSS _ (Below.refl _ _).drew) (fun hHeld=>?_)
 clear hK KK q2
 try simp only [Act.put,sx1,sx4,sx5,sx6,sx2,sx3]
 refine wpAnyH_ready (rs:=[15]) (by kernel_rfl) (by simp) ?_
 refine AllReadyH.cons rfl (fun KK hK=>?_) AllReadyH.nil
 have hdr:=(Below.refl w1.heap.size w1).drew
 go_simp
 refine (l3next_any B _ n f ns s.ss k _ (by have hh:=(uh H1).hits;rw [← uh HNS] at hh;exact hh.below hdr) (by omega) (by rw [uh HNS];exact (uh HOK).st) hk0 hk1).mono ?_
 rintro e w2 ⟨⟨z,rfl,hz⟩,hw2⟩
 have hb2:Below w1.heap.size w1 w2:=by rw [hw2];exact hdr
 have HZ:=hide hz
 clear hz hw2
 have H2b:=hide ((uh H1).below hb2)
 have A2:=hide ((uh A1).go hb2)
 have HB2:=hide ((uh HB1).trans (hb2.mono (uh HB1).size))
 refine hK.out _ _ (uh HSS _ hb2) (fun hHeld=>?_)
 clear hK KK hb2 hdr
 try simp only [Act.put,sx1,sx4,sx5,sx6,sx2,sx3]
 refine wpAnyH_ready (rs:=[16]) (by kernel_rfl) (by simp) ?_
 refine AllReadyH.cons rfl (fun KK hK=>?_) AllReadyH.nil
 go_simp
 refine (l5move_any B lb v1 _ _ pv n f s z w2 (uh H2b) (by have:=uh HP;omega) (Nat.le_trans hB (uh HB2).size)).mono ?_
 rintro e w3 ⟨rfl,⟨pv',hl3⟩,hb3,hk3⟩
 have A3:=hide ((uh A2).same hk3)
 have HL3:=hide hl3
 have HB3:=hide (((uh HB2).mono hB).trans hb3)
 have HK3:=hide ((Same.of_below (P:=KindL) (uh HB2)).trans hk3)
 clear hb3 hk3
 refine hK.out _ _ ⟨hl3.c3,hl3.c1⟩ (fun hHeld=>?_)
 clear hK KK hHeld hl3
 try simp only [Act.put,sx1,sx4,sx5,sx6,sx2,sx3]
 refine wpAnyH_done (by kernel_rfl) ?_ _
 obtain ⟨⟨r0,r1,r2,r3,r4,r5⟩,x0,x1,x2,x3,x4,x5⟩:=(uh A3).rc
 obtain ⟨⟨o0,o1,o2,o3,o4,o5⟩,ofz⟩:=(uh A3).oc
 have y1:=ofz 1
 have y2:=ofz 2
 have y3:=ofz 3
 have y4:=ofz 4
 have y5:=ofz 5
 clear ofz
 have hne:w.heap.size + 1 + 1 ≠ w.heap.size + 1:=by omega
 have hne':w.heap.size + 1 ≠ w.heap.size + 1 + 1:=by omega
 clear a0
 go_wp2
 refine bodyPost_ret (v:=.agg #[.int .i64 0,.int .i64 0,.int .i64 0,.string ⟨#[]⟩,.slice none 0 0,.slice none 0 0]) (by simp [results,Tryz.results38,go_sem,r0,r1,r2,r3,r4,r5]) rfl ?_
 exact sask_end (AskIs.move (z:=z) (uh HO) (.inl ⟨by show (3:Int)≤3;omega,by show (3:Int)≤7;omega⟩) (by unfold MoveTo;rw [if_pos rfl];have hz:=uh HZ;rw [uh HNS,uh HK] at hz;exact hz)) rfl rfl rfl (uh HL3) (uh A3) (frs_nil _ _) (VsAt.nil _ _) (uh HB3) (uh HK3) hB
theorem specAsk_back (B lb lo:Nat) (v1 v2 hv pv:Value) (nf:Nat) (fns:Nat→ByteArray) (n:Nat) (f:Nat→M) (s:LS) (nn:Int) (name:ByteArray) (kd fn line:Int) (sn:ByteArray) (w:World) (h:SL B w lb v1 v2 n f s hv pv) (h2:∀ W,Below B w W→MomsAt lo W v2 n f) (hs:Sound nf fns n f) (hok:LsOk n s) (hp:s.past.length≤10000) (hB:B≤w.heap.size) (hz:name.size≤maxLen) (hz2:sn.size≤maxLen) (ho:OkAsk (⟨4,nn,name,⟨kd,fn,line,sn⟩⟩:Ak)) :
  Calls Tryz.prog 38 #[.pointer (some ⟨lb,0,none⟩),.agg #[.int .i64 4,.int .i64 nn,.string name,.int .i64 kd,.int .i64 fn,.int .i64 line,.string sn]] w fun e w'=>SAsk B lb v1 v2 n f s (⟨4,nn,name,⟨kd,fn,line,sn⟩⟩:Ak) w e w':=by
 have H:=hide h
 have H2:=hide h2
 have HS:=hide hs
 have HOK:=hide hok
 have HP:=hide hp
 clear hp
 have A0:=hide (AB.new w (⟨4,nn,name,⟨kd,fn,line,sn⟩⟩:Ak))
 have HBW:=hide (((below_new w (.cells #[.int .i64 4,.int .i64 nn,.string name,.int .i64 kd,.int .i64 fn,.int .i64 line,.string sn] 47)).alloc (by simp) (.cells #[.int .i64 0,.int .i64 0,.int .i64 0,.string ⟨#[]⟩,.slice none 0 0,.slice none 0 0] 38)).alloc (by simp;omega) (.cells #[.int .i64 0,.int .i64 0,.int .i64 0,.string ⟨#[]⟩,.slice none 0 0,.slice none 0 0] 38))
 clear h h2 hs hok
 go_enter Tryz.func38,Tryz.ntmps38
 go_wp2_with fail
 refine (l5askOk_any 4 nn name kd fn line sn _ hz hz2).mono ?_
 rintro e w1 ⟨⟨b,rfl,hbb⟩,hbl⟩
 have A1:=hide ((uh A0).go hbl)
 have HB1:=hide ((uh HBW).trans (hbl.mono (uh HBW).size))
 have H1:=hide ((uh H).below (uh HB1))
 obtain rfl:b=true:=hbb.2 ho
 clear hbb hbl
 have HO:=hide ho
 clear ho
 have a0:w1.cell? ⟨w.heap.size,0,none⟩=some (.int .i64 4):=(uh A1).a0
 obtain ⟨a2,cap2,e2,hn2,-⟩:=uh H2 _ ((uh HB1).mono hB)
 subst e2
 clear hn2
 obtain ⟨ha,hc,hve⟩:=(uh H1).hslice
 obtain ⟨ns,hns⟩:∃ ns,ns=s.stops.length:=⟨_,rfl⟩
 rw [← hns] at hve
 subst hve
 have HNS:=hide hns
 have hn3:n≤3000:=(uh HS).1.2.2.1
 have hk0:=(uh HOK).lo
 have hk1:=(uh HOK).hi
 obtain ⟨k,hk⟩:∃ k,k=s.at_:=⟨_,rfl⟩
 rw [← hk] at hk0 hk1
 have HK:=hide hk
 clear hk hns
 have HSS:Hid (∀ W,Below w1.heap.size w1 W→W.cell? ⟨lb,3,none⟩=some (.slice ha ns hc)):=hide (fun W hb=>cell_below hb (uh H1).c3)
 have HC2:Hid (∀ W,Below w1.heap.size w1 W→W.cell? ⟨lb,2,none⟩=some (.int .i64 k)):=hide (fun W hb=>by rw [uh HK];exact cell_below hb (uh H1).c2)
 go_upto_region 27 with fail
 refine wp_region_held_drew (S:=fun W=>W.cell? ⟨lb,3,none⟩=some (.slice ha ns hc)) (by kernel_rfl) (uh HSS _ (Below.refl _ _).drew) (fun hHeld=>?_)
 refine tka 0 111 ?hy0a hHeld ?r0a (v:=?v0a)
 case hy0a=>intro wx hSw;have s0:=hSw;go_simp;with_reducible rfl
 simp only [Act.put,sx1,sx2,sx3]
 refine tka 1 112 ?hy1a hHeld ?r1a (v:=?v1a)
 case hy1a=>intro wx hSw;have s0:=hSw;go_simp;with_reducible rfl
 simp only [Act.put,sx1,sx2,sx3]
 refine tka 2 113 ?hy2a hHeld ?r2a (v:=?v2a)
 case hy2a=>intro wx hSw;have s0:=hSw;go_simp;with_reducible rfl
 simp only [Act.put,sx1,sx2,sx3]
 refine tka 3 114 ?hy3a hHeld ?r3a (v:=?v3a)
 case hy3a=>intro wx hSw;have s0:=hSw;go_simp;with_reducible rfl
 simp only [Act.put,sx1,sx2,sx3]
 refine tka 4 115 ?hy4a hHeld ?r4a (v:=?v4a)
 case hy4a=>intro wx hSw;have s0:=hSw;go_simp;with_reducible rfl
 simp only [Act.put,sx1,sx2,sx3]
 refine tka 5 116 ?hy5a hHeld ?r5a (v:=?v5a)
 case hy5a=>intro wx hSw;have s0:=hSw;go_simp;with_reducible rfl
 simp only [Act.put,sx1,sx2,sx3]
 refine tka 6 117 ?hy6a hHeld ?r6a (v:=?v6a)
 case hy6a=>intro wx hSw;have s0:=hSw;go_simp;with_reducible rfl
 simp only [Act.put,sx1,sx2,sx3]
 refine tka 7 118 ?hy7a hHeld ?r7a (v:=?v7a)
 case hy7a=>intro wx hSw;have s0:=hSw;go_simp;with_reducible rfl
 simp only [Act.put,sx1,sx2,sx3]
 refine wpAnyH_ready (rs:=[8]) (by kernel_rfl) (by simp) ?_
 refine AllReadyH.cons rfl (fun KK hK=>?_) AllReadyH.nil
 have q2:=uh HC2 _ (Below.refl w1.heap.size w1).drew
 go_simp
 refine hK.out _ _ (uh HSS _ (Below.refl _ _).drew) (fun hHeld=>?_)
 clear hK KK q2
 try simp only [Act.put,sx1,sx4,sx5,sx6,sx2,sx3]
 refine wpAnyH_ready (rs:=[9]) (by kernel_rfl) (by simp) ?_
 refine AllReadyH.cons rfl (fun KK hK=>?_) AllReadyH.nil
 have hdr:=(Below.refl w1.heap.size w1).drew
 go_simp
 refine (l3last_any B _ n f ns s.ss k _ (by have hh:=(uh H1).hits;rw [← uh HNS] at hh;exact hh.below hdr) (by omega) (by rw [uh HNS];exact (uh HOK).st) hk0 hk1).mono ?_
 rintro e w2 ⟨⟨z,rfl,hz⟩,hw2⟩
 have hb2:Below w1.heap.size w1 w2:=by rw [hw2];exact hdr
 have HZ:=hide hz
 clear hz hw2
 have H2b:=hide ((uh H1).below hb2)
 have A2:=hide ((uh A1).go hb2)
 have HB2:=hide ((uh HB1).trans (hb2.mono (uh HB1).size))
 refine hK.out _ _ (uh HSS _ hb2) (fun hHeld=>?_)
 clear hK KK hb2 hdr
 try simp only [Act.put,sx1,sx4,sx5,sx6,sx2,sx3]
 refine wpAnyH_ready (rs:=[10]) (by kernel_rfl) (by simp) ?_
 refine AllReadyH.cons rfl (fun KK hK=>?_) AllReadyH.nil
 go_simp
 refine (l5move_any B lb v1 _ _ pv n f s z w2 (uh H2b) (by have:=uh HP;omega) (Nat.le_trans hB (uh HB2).size)).mono ?_
 rintro e w3 ⟨rfl,⟨pv',hl3⟩,hb3,hk3⟩
 have A3:=hide ((uh A2).same hk3)
 have HL3:=hide hl3
 have HB3:=hide (((uh HB2).mono hB).trans hb3)
 have HK3:=hide ((Same.of_below (P:=KindL) (uh HB2)).trans hk3)
 clear hb3 hk3
 refine hK.out _ _ hl3.c3 (fun hHeld=>?_)
 clear hK KK hHeld hl3
 try simp only [Act.put,sx1,sx4,sx5,sx6,sx2,sx3]
 refine wpAnyH_done (by kernel_rfl) ?_ _
 obtain ⟨⟨r0,r1,r2,r3,r4,r5⟩,x0,x1,x2,x3,x4,x5⟩:=(uh A3).rc
 obtain ⟨⟨o0,o1,o2,o3,o4,o5⟩,ofz⟩:=(uh A3).oc
 have y1:=ofz 1
 have y2:=ofz 2
 have y3:=ofz 3
 have y4:=ofz 4
 have y5:=ofz 5
 clear ofz
 have hne:w.heap.size + 1 + 1 ≠ w.heap.size + 1:=by omega
 have hne':w.heap.size + 1 ≠ w.heap.size + 1 + 1:=by omega
 clear a0
 go_wp2
 refine bodyPost_ret (v:=.agg #[.int .i64 0,.int .i64 0,.int .i64 0,.string ⟨#[]⟩,.slice none 0 0,.slice none 0 0]) (by simp [results,Tryz.results38,go_sem,r0,r1,r2,r3,r4,r5]) rfl ?_
 exact sask_end (AskIs.move (z:=z) (uh HO) (.inl ⟨by show (3:Int)≤4;omega,by show (4:Int)≤7;omega⟩) (by unfold MoveTo;rw [if_neg (by show ¬ (4:Int)=3;omega)];rw [if_pos rfl];have hz:=uh HZ;rw [uh HNS,uh HK] at hz;exact hz)) rfl rfl rfl (uh HL3) (uh A3) (frs_nil _ _) (VsAt.nil _ _) (uh HB3) (uh HK3) hB
theorem specAsk_into (B lb lo:Nat) (v1 v2 hv pv:Value) (nf:Nat) (fns:Nat→ByteArray) (n:Nat) (f:Nat→M) (s:LS) (nn:Int) (name:ByteArray) (kd fn line:Int) (sn:ByteArray) (w:World) (h:SL B w lb v1 v2 n f s hv pv) (h2:∀ W,Below B w W→MomsAt lo W v2 n f) (hs:Sound nf fns n f) (hok:LsOk n s) (hp:s.past.length≤10000) (hB:B≤w.heap.size) (hz:name.size≤maxLen) (hz2:sn.size≤maxLen) (ho:OkAsk (⟨5,nn,name,⟨kd,fn,line,sn⟩⟩:Ak)) :
  Calls Tryz.prog 38 #[.pointer (some ⟨lb,0,none⟩),.agg #[.int .i64 5,.int .i64 nn,.string name,.int .i64 kd,.int .i64 fn,.int .i64 line,.string sn]] w fun e w'=>SAsk B lb v1 v2 n f s (⟨5,nn,name,⟨kd,fn,line,sn⟩⟩:Ak) w e w':=by
 have H:=hide h
 have H2:=hide h2
 have HS:=hide hs
 have HOK:=hide hok
 have HP:=hide hp
 clear hp
 have A0:=hide (AB.new w (⟨5,nn,name,⟨kd,fn,line,sn⟩⟩:Ak))
 have HBW:=hide (((below_new w (.cells #[.int .i64 5,.int .i64 nn,.string name,.int .i64 kd,.int .i64 fn,.int .i64 line,.string sn] 47)).alloc (by simp) (.cells #[.int .i64 0,.int .i64 0,.int .i64 0,.string ⟨#[]⟩,.slice none 0 0,.slice none 0 0] 38)).alloc (by simp;omega) (.cells #[.int .i64 0,.int .i64 0,.int .i64 0,.string ⟨#[]⟩,.slice none 0 0,.slice none 0 0] 38))
 clear h h2 hs hok
 go_enter Tryz.func38,Tryz.ntmps38
 go_wp2_with fail
 refine (l5askOk_any 5 nn name kd fn line sn _ hz hz2).mono ?_
 rintro e w1 ⟨⟨b,rfl,hbb⟩,hbl⟩
 have A1:=hide ((uh A0).go hbl)
 have HB1:=hide ((uh HBW).trans (hbl.mono (uh HBW).size))
 have H1:=hide ((uh H).below (uh HB1))
 obtain rfl:b=true:=hbb.2 ho
 clear hbb hbl
 have HO:=hide ho
 clear ho
 have a0:w1.cell? ⟨w.heap.size,0,none⟩=some (.int .i64 5):=(uh A1).a0
 obtain ⟨a2,cap2,e2,hn2,-⟩:=uh H2 _ ((uh HB1).mono hB)
 subst e2
 clear hn2
 obtain ⟨ha,hc,hve⟩:=(uh H1).hslice
 obtain ⟨ns,hns⟩:∃ ns,ns=s.stops.length:=⟨_,rfl⟩
 rw [← hns] at hve
 subst hve
 have HNS:=hide hns
 have hn3:n≤3000:=(uh HS).1.2.2.1
 have hk0:=(uh HOK).lo
 have hk1:=(uh HOK).hi
 obtain ⟨k,hk⟩:∃ k,k=s.at_:=⟨_,rfl⟩
 rw [← hk] at hk0 hk1
 have HK:=hide hk
 clear hk hns
 have HSS:Hid (∀ W,Below w1.heap.size w1 W→W.cell? ⟨lb,0,none⟩=some v1∧W.cell? ⟨lb,1,none⟩=some (.slice a2 n cap2)):=hide (fun W hb=>⟨cell_below hb (uh H1).c0,cell_below hb (uh H1).c1⟩)
 have HC2:Hid (∀ W,Below w1.heap.size w1 W→W.cell? ⟨lb,2,none⟩=some (.int .i64 k)):=hide (fun W hb=>by rw [uh HK];exact cell_below hb (uh H1).c2)
 go_upto_region 29 with fail
 refine wp_region_held_drew (S:=fun W=>W.cell? ⟨lb,0,none⟩=some v1∧W.cell? ⟨lb,1,none⟩=some (.slice a2 n cap2)) (by kernel_rfl) (uh HSS _ (Below.refl _ _).drew) (fun hHeld=>?_)
 refine tka 0 124 ?hy0a hHeld ?r0a (v:=?v0a)
 case hy0a=>intro wx hSw;obtain ⟨s0,s1⟩:=hSw;go_simp;with_reducible rfl
 simp only [Act.put,sx1,sx2,sx3]
 refine tka 1 125 ?hy1a hHeld ?r1a (v:=?v1a)
 case hy1a=>intro wx hSw;obtain ⟨s0,s1⟩:=hSw;go_simp;with_reducible rfl
 simp only [Act.put,sx1,sx2,sx3]
 refine tka 2 126 ?hy2a hHeld ?r2a (v:=?v2a)
 case hy2a=>intro wx hSw;obtain ⟨s0,s1⟩:=hSw;go_simp;with_reducible rfl
 simp only [Act.put,sx1,sx2,sx3]
 refine tka 3 127 ?hy3a hHeld ?r3a (v:=?v3a)
 case hy3a=>intro wx hSw;obtain ⟨s0,s1⟩:=hSw;go_simp;with_reducible rfl
 simp only [Act.put,sx1,sx2,sx3]
 refine tka 4 128 ?hy4a hHeld ?r4a (v:=?v4a)
 case hy4a=>intro wx hSw;obtain ⟨s0,s1⟩:=hSw;go_simp;with_reducible rfl
 simp only [Act.put,sx1,sx2,sx3]
 refine tka 5 129 ?hy5a hHeld ?r5a (v:=?v5a)
 case hy5a=>intro wx hSw;obtain ⟨s0,s1⟩:=hSw;go_simp;with_reducible rfl
 simp only [Act.put,sx1,sx2,sx3]
 refine tka 6 130 ?hy6a hHeld ?r6a (v:=?v6a)
 case hy6a=>intro wx hSw;obtain ⟨s0,s1⟩:=hSw;go_simp;with_reducible rfl
 simp only [Act.put,sx1,sx2,sx3]
 refine tka 7 131 ?hy7a hHeld ?r7a (v:=?v7a)
 case hy7a=>intro wx hSw;obtain ⟨s0,s1⟩:=hSw;go_simp;with_reducible rfl
 simp only [Act.put,sx1,sx2,sx3]
 refine wpAnyH_ready (rs:=[8]) (by kernel_rfl) (by simp) ?_
 refine AllReadyH.cons rfl (fun KK hK=>?_) AllReadyH.nil
 have q2:=uh HC2 _ (Below.refl w1.heap.size w1).drew
 go_simp
 refine hK.out _ _ (uh HSS _ (Below.refl _ _).drew) (fun hHeld=>?_)
 clear hK KK q2
 try simp only [Act.put,sx1,sx4,sx5,sx6,sx2,sx3]
 refine wpAnyH_ready (rs:=[9]) (by kernel_rfl) (by simp) ?_
 refine AllReadyH.cons rfl (fun KK hK=>?_) AllReadyH.nil
 have hdr:=(Below.refl w1.heap.size w1).drew
 go_simp
 refine (l4into_any lo _ _ nf fns n f k _ ((uh H2 _ ((uh HB1).mono hB)).below hdr) (uh HS) hk0 hk1).mono ?_
 rintro e w2 ⟨⟨z,rfl,hz⟩,hbx⟩
 have hb2:Below w1.heap.size w1 w2:=hdr.trans hbx
 have HZ:=hide hz
 clear hz hbx
 have H2b:=hide ((uh H1).below hb2)
 have A2:=hide ((uh A1).go hb2)
 have HB2:=hide ((uh HB1).trans (hb2.mono (uh HB1).size))
 refine hK.out _ _ (uh HSS _ hb2) (fun hHeld=>?_)
 clear hK KK hb2 hdr
 try simp only [Act.put,sx1,sx4,sx5,sx6,sx2,sx3]
 refine wpAnyH_ready (rs:=[10]) (by kernel_rfl) (by simp) ?_
 refine AllReadyH.cons rfl (fun KK hK=>?_) AllReadyH.nil
 go_simp
 refine (l5move_any B lb v1 _ _ pv n f s z w2 (uh H2b) (by have:=uh HP;omega) (Nat.le_trans hB (uh HB2).size)).mono ?_
 rintro e w3 ⟨rfl,⟨pv',hl3⟩,hb3,hk3⟩
 have A3:=hide ((uh A2).same hk3)
 have HL3:=hide hl3
 have HB3:=hide (((uh HB2).mono hB).trans hb3)
 have HK3:=hide ((Same.of_below (P:=KindL) (uh HB2)).trans hk3)
 clear hb3 hk3
 refine hK.out _ _ ⟨hl3.c0,hl3.c1⟩ (fun hHeld=>?_)
 clear hK KK hHeld hl3
 try simp only [Act.put,sx1,sx4,sx5,sx6,sx2,sx3]
 refine wpAnyH_done (by kernel_rfl) ?_ _
 obtain ⟨⟨r0,r1,r2,r3,r4,r5⟩,x0,x1,x2,x3,x4,x5⟩:=(uh A3).rc
 obtain ⟨⟨o0,o1,o2,o3,o4,o5⟩,ofz⟩:=(uh A3).oc
 have y1:=ofz 1
 have y2:=ofz 2
 have y3:=ofz 3
 have y4:=ofz 4
 have y5:=ofz 5
 clear ofz
 have hne:w.heap.size + 1 + 1 ≠ w.heap.size + 1:=by omega
 have hne':w.heap.size + 1 ≠ w.heap.size + 1 + 1:=by omega
 clear a0
 go_wp2
 refine bodyPost_ret (v:=.agg #[.int .i64 0,.int .i64 0,.int .i64 0,.string ⟨#[]⟩,.slice none 0 0,.slice none 0 0]) (by simp [results,Tryz.results38,go_sem,r0,r1,r2,r3,r4,r5]) rfl ?_
 exact sask_end (AskIs.move (z:=z) (uh HO) (.inl ⟨by show (3:Int)≤5;omega,by show (5:Int)≤7;omega⟩) (by unfold MoveTo;rw [if_neg (by show ¬ (5:Int)=3;omega)];rw [if_neg (by show ¬ (5:Int)=4;omega)];rw [if_pos rfl];rw [← uh HK];exact uh HZ)) rfl rfl rfl (uh HL3) (uh A3) (frs_nil _ _) (VsAt.nil _ _) (uh HB3) (uh HK3) hB
theorem specAsk_over (B lb lo:Nat) (v1 v2 hv pv:Value) (nf:Nat) (fns:Nat→ByteArray) (n:Nat) (f:Nat→M) (s:LS) (nn:Int) (name:ByteArray) (kd fn line:Int) (sn:ByteArray) (w:World) (h:SL B w lb v1 v2 n f s hv pv) (h2:∀ W,Below B w W→MomsAt lo W v2 n f) (hs:Sound nf fns n f) (hok:LsOk n s) (hp:s.past.length≤10000) (hB:B≤w.heap.size) (hz:name.size≤maxLen) (hz2:sn.size≤maxLen) (ho:OkAsk (⟨6,nn,name,⟨kd,fn,line,sn⟩⟩:Ak)) :
  Calls Tryz.prog 38 #[.pointer (some ⟨lb,0,none⟩),.agg #[.int .i64 6,.int .i64 nn,.string name,.int .i64 kd,.int .i64 fn,.int .i64 line,.string sn]] w fun e w'=>SAsk B lb v1 v2 n f s (⟨6,nn,name,⟨kd,fn,line,sn⟩⟩:Ak) w e w':=by
 have H:=hide h
 have H2:=hide h2
 have HS:=hide hs
 have HOK:=hide hok
 have HP:=hide hp
 clear hp
 have A0:=hide (AB.new w (⟨6,nn,name,⟨kd,fn,line,sn⟩⟩:Ak))
 have HBW:=hide (((below_new w (.cells #[.int .i64 6,.int .i64 nn,.string name,.int .i64 kd,.int .i64 fn,.int .i64 line,.string sn] 47)).alloc (by simp) (.cells #[.int .i64 0,.int .i64 0,.int .i64 0,.string ⟨#[]⟩,.slice none 0 0,.slice none 0 0] 38)).alloc (by simp;omega) (.cells #[.int .i64 0,.int .i64 0,.int .i64 0,.string ⟨#[]⟩,.slice none 0 0,.slice none 0 0] 38))
 clear h h2 hs hok
 go_enter Tryz.func38,Tryz.ntmps38
 go_wp2_with fail
 refine (l5askOk_any 6 nn name kd fn line sn _ hz hz2).mono ?_
 rintro e w1 ⟨⟨b,rfl,hbb⟩,hbl⟩
 have A1:=hide ((uh A0).go hbl)
 have HB1:=hide ((uh HBW).trans (hbl.mono (uh HBW).size))
 have H1:=hide ((uh H).below (uh HB1))
 obtain rfl:b=true:=hbb.2 ho
 clear hbb hbl
 have HO:=hide ho
 clear ho
 have a0:w1.cell? ⟨w.heap.size,0,none⟩=some (.int .i64 6):=(uh A1).a0
 obtain ⟨a2,cap2,e2,hn2,-⟩:=uh H2 _ ((uh HB1).mono hB)
 subst e2
 clear hn2
 obtain ⟨ha,hc,hve⟩:=(uh H1).hslice
 obtain ⟨ns,hns⟩:∃ ns,ns=s.stops.length:=⟨_,rfl⟩
 rw [← hns] at hve
 subst hve
 have HNS:=hide hns
 have hn3:n≤3000:=(uh HS).1.2.2.1
 have hk0:=(uh HOK).lo
 have hk1:=(uh HOK).hi
 obtain ⟨k,hk⟩:∃ k,k=s.at_:=⟨_,rfl⟩
 rw [← hk] at hk0 hk1
 have HK:=hide hk
 clear hk hns
 have HSS:Hid (∀ W,Below w1.heap.size w1 W→W.cell? ⟨lb,0,none⟩=some v1∧W.cell? ⟨lb,1,none⟩=some (.slice a2 n cap2)):=hide (fun W hb=>⟨cell_below hb (uh H1).c0,cell_below hb (uh H1).c1⟩)
 have HC2:Hid (∀ W,Below w1.heap.size w1 W→W.cell? ⟨lb,2,none⟩=some (.int .i64 k)):=hide (fun W hb=>by rw [uh HK];exact cell_below hb (uh H1).c2)
 go_upto_region 31 with fail
 refine wp_region_held_drew (S:=fun W=>W.cell? ⟨lb,0,none⟩=some v1∧W.cell? ⟨lb,1,none⟩=some (.slice a2 n cap2)) (by kernel_rfl) (uh HSS _ (Below.refl _ _).drew) (fun hHeld=>?_)
 refine tka 0 137 ?hy0a hHeld ?r0a (v:=?v0a)
 case hy0a=>intro wx hSw;obtain ⟨s0,s1⟩:=hSw;go_simp;with_reducible rfl
 simp only [Act.put,sx1,sx2,sx3]
 refine tka 1 138 ?hy1a hHeld ?r1a (v:=?v1a)
 case hy1a=>intro wx hSw;obtain ⟨s0,s1⟩:=hSw;go_simp;with_reducible rfl
 simp only [Act.put,sx1,sx2,sx3]
 refine tka 2 139 ?hy2a hHeld ?r2a (v:=?v2a)
 case hy2a=>intro wx hSw;obtain ⟨s0,s1⟩:=hSw;go_simp;with_reducible rfl
 simp only [Act.put,sx1,sx2,sx3]
 refine tka 3 140 ?hy3a hHeld ?r3a (v:=?v3a)
 case hy3a=>intro wx hSw;obtain ⟨s0,s1⟩:=hSw;go_simp;with_reducible rfl
 simp only [Act.put,sx1,sx2,sx3]
 refine tka 4 141 ?hy4a hHeld ?r4a (v:=?v4a)
 case hy4a=>intro wx hSw;obtain ⟨s0,s1⟩:=hSw;go_simp;with_reducible rfl
 simp only [Act.put,sx1,sx2,sx3]
 refine tka 5 142 ?hy5a hHeld ?r5a (v:=?v5a)
 case hy5a=>intro wx hSw;obtain ⟨s0,s1⟩:=hSw;go_simp;with_reducible rfl
 simp only [Act.put,sx1,sx2,sx3]
 refine tka 6 143 ?hy6a hHeld ?r6a (v:=?v6a)
 case hy6a=>intro wx hSw;obtain ⟨s0,s1⟩:=hSw;go_simp;with_reducible rfl
 simp only [Act.put,sx1,sx2,sx3]
 refine tka 7 144 ?hy7a hHeld ?r7a (v:=?v7a)
 case hy7a=>intro wx hSw;obtain ⟨s0,s1⟩:=hSw;go_simp;with_reducible rfl
 simp only [Act.put,sx1,sx2,sx3]
 refine wpAnyH_ready (rs:=[8]) (by kernel_rfl) (by simp) ?_
 refine AllReadyH.cons rfl (fun KK hK=>?_) AllReadyH.nil
 have q2:=uh HC2 _ (Below.refl w1.heap.size w1).drew
 go_simp
 refine hK.out _ _ (uh HSS _ (Below.refl _ _).drew) (fun hHeld=>?_)
 clear hK KK q2
 try simp only [Act.put,sx1,sx4,sx5,sx6,sx2,sx3]
 refine wpAnyH_ready (rs:=[9]) (by kernel_rfl) (by simp) ?_
 refine AllReadyH.cons rfl (fun KK hK=>?_) AllReadyH.nil
 have hdr:=(Below.refl w1.heap.size w1).drew
 go_simp
 refine (l4leave_any lo _ _ nf fns n f k 1 0 _ ((uh H2 _ ((uh HB1).mono hB)).below hdr) (uh HS) hk0 hk1 (by omega) (by omega)).mono ?_
 rintro e w2 ⟨⟨z,rfl,hz⟩,hbx⟩
 have hb2:Below w1.heap.size w1 w2:=hdr.trans hbx
 have HZ:=hide hz
 clear hz hbx
 have H2b:=hide ((uh H1).below hb2)
 have A2:=hide ((uh A1).go hb2)
 have HB2:=hide ((uh HB1).trans (hb2.mono (uh HB1).size))
 refine hK.out _ _ (uh HSS _ hb2) (fun hHeld=>?_)
 clear hK KK hb2 hdr
 try simp only [Act.put,sx1,sx4,sx5,sx6,sx2,sx3]
 refine wpAnyH_ready (rs:=[10]) (by kernel_rfl) (by simp) ?_
 refine AllReadyH.cons rfl (fun KK hK=>?_) AllReadyH.nil
 go_simp
 refine (l5move_any B lb v1 _ _ pv n f s z w2 (uh H2b) (by have:=uh HP;omega) (Nat.le_trans hB (uh HB2).size)).mono ?_
 rintro e w3 ⟨rfl,⟨pv',hl3⟩,hb3,hk3⟩
 have A3:=hide ((uh A2).same hk3)
 have HL3:=hide hl3
 have HB3:=hide (((uh HB2).mono hB).trans hb3)
 have HK3:=hide ((Same.of_below (P:=KindL) (uh HB2)).trans hk3)
 clear hb3 hk3
 refine hK.out _ _ ⟨hl3.c0,hl3.c1⟩ (fun hHeld=>?_)
 clear hK KK hHeld hl3
 try simp only [Act.put,sx1,sx4,sx5,sx6,sx2,sx3]
 refine wpAnyH_done (by kernel_rfl) ?_ _
 obtain ⟨⟨r0,r1,r2,r3,r4,r5⟩,x0,x1,x2,x3,x4,x5⟩:=(uh A3).rc
 obtain ⟨⟨o0,o1,o2,o3,o4,o5⟩,ofz⟩:=(uh A3).oc
 have y1:=ofz 1
 have y2:=ofz 2
 have y3:=ofz 3
 have y4:=ofz 4
 have y5:=ofz 5
 clear ofz
 have hne:w.heap.size + 1 + 1 ≠ w.heap.size + 1:=by omega
 have hne':w.heap.size + 1 ≠ w.heap.size + 1 + 1:=by omega
 clear a0
 go_wp2
 refine bodyPost_ret (v:=.agg #[.int .i64 0,.int .i64 0,.int .i64 0,.string ⟨#[]⟩,.slice none 0 0,.slice none 0 0]) (by simp [results,Tryz.results38,go_sem,r0,r1,r2,r3,r4,r5]) rfl ?_
 exact sask_end (AskIs.move (z:=z) (uh HO) (.inl ⟨by show (3:Int)≤6;omega,by show (6:Int)≤7;omega⟩) (by unfold MoveTo;rw [if_neg (by show ¬ (6:Int)=3;omega)];rw [if_neg (by show ¬ (6:Int)=4;omega)];rw [if_neg (by show ¬ (6:Int)=5;omega)];rw [if_pos rfl];rw [← uh HK];exact .inl ⟨by omega,by rw [← leave_over];exact uh HZ⟩)) rfl rfl rfl (uh HL3) (uh A3) (frs_nil _ _) (VsAt.nil _ _) (uh HB3) (uh HK3) hB
theorem specAsk_out (B lb lo:Nat) (v1 v2 hv pv:Value) (nf:Nat) (fns:Nat→ByteArray) (n:Nat) (f:Nat→M) (s:LS) (nn:Int) (name:ByteArray) (kd fn line:Int) (sn:ByteArray) (w:World) (h:SL B w lb v1 v2 n f s hv pv) (h2:∀ W,Below B w W→MomsAt lo W v2 n f) (hs:Sound nf fns n f) (hok:LsOk n s) (hp:s.past.length≤10000) (hB:B≤w.heap.size) (hz:name.size≤maxLen) (hz2:sn.size≤maxLen) (ho:OkAsk (⟨7,nn,name,⟨kd,fn,line,sn⟩⟩:Ak)) :
  Calls Tryz.prog 38 #[.pointer (some ⟨lb,0,none⟩),.agg #[.int .i64 7,.int .i64 nn,.string name,.int .i64 kd,.int .i64 fn,.int .i64 line,.string sn]] w fun e w'=>SAsk B lb v1 v2 n f s (⟨7,nn,name,⟨kd,fn,line,sn⟩⟩:Ak) w e w':=by
 have H:=hide h
 have H2:=hide h2
 have HS:=hide hs
 have HOK:=hide hok
 have HP:=hide hp
 clear hp
 have A0:=hide (AB.new w (⟨7,nn,name,⟨kd,fn,line,sn⟩⟩:Ak))
 have HBW:=hide (((below_new w (.cells #[.int .i64 7,.int .i64 nn,.string name,.int .i64 kd,.int .i64 fn,.int .i64 line,.string sn] 47)).alloc (by simp) (.cells #[.int .i64 0,.int .i64 0,.int .i64 0,.string ⟨#[]⟩,.slice none 0 0,.slice none 0 0] 38)).alloc (by simp;omega) (.cells #[.int .i64 0,.int .i64 0,.int .i64 0,.string ⟨#[]⟩,.slice none 0 0,.slice none 0 0] 38))
 clear h h2 hs hok
 go_enter Tryz.func38,Tryz.ntmps38
 go_wp2_with fail
 refine (l5askOk_any 7 nn name kd fn line sn _ hz hz2).mono ?_
 rintro e w1 ⟨⟨b,rfl,hbb⟩,hbl⟩
 have A1:=hide ((uh A0).go hbl)
 have HB1:=hide ((uh HBW).trans (hbl.mono (uh HBW).size))
 have H1:=hide ((uh H).below (uh HB1))
 obtain rfl:b=true:=hbb.2 ho
 clear hbb hbl
 have HO:=hide ho
 clear ho
 have a0:w1.cell? ⟨w.heap.size,0,none⟩=some (.int .i64 7):=(uh A1).a0
 obtain ⟨a2,cap2,e2,hn2,-⟩:=uh H2 _ ((uh HB1).mono hB)
 subst e2
 clear hn2
 obtain ⟨ha,hc,hve⟩:=(uh H1).hslice
 obtain ⟨ns,hns⟩:∃ ns,ns=s.stops.length:=⟨_,rfl⟩
 rw [← hns] at hve
 subst hve
 have HNS:=hide hns
 have hn3:n≤3000:=(uh HS).1.2.2.1
 have hk0:=(uh HOK).lo
 have hk1:=(uh HOK).hi
 obtain ⟨k,hk⟩:∃ k,k=s.at_:=⟨_,rfl⟩
 rw [← hk] at hk0 hk1
 have HK:=hide hk
 clear hk hns
 have HSS:Hid (∀ W,Below w1.heap.size w1 W→W.cell? ⟨lb,0,none⟩=some v1∧W.cell? ⟨lb,1,none⟩=some (.slice a2 n cap2)):=hide (fun W hb=>⟨cell_below hb (uh H1).c0,cell_below hb (uh H1).c1⟩)
 have HC2:Hid (∀ W,Below w1.heap.size w1 W→W.cell? ⟨lb,2,none⟩=some (.int .i64 k)):=hide (fun W hb=>by rw [uh HK];exact cell_below hb (uh H1).c2)
 go_upto_region 33 with fail
 refine wp_region_held_drew (S:=fun W=>W.cell? ⟨lb,0,none⟩=some v1∧W.cell? ⟨lb,1,none⟩=some (.slice a2 n cap2)) (by kernel_rfl) (uh HSS _ (Below.refl _ _).drew) (fun hHeld=>?_)
 refine tka 0 150 ?hy0a hHeld ?r0a (v:=?v0a)
 case hy0a=>intro wx hSw;obtain ⟨s0,s1⟩:=hSw;go_simp;with_reducible rfl
 simp only [Act.put,sx1,sx2,sx3]
 refine tka 1 151 ?hy1a hHeld ?r1a (v:=?v1a)
 case hy1a=>intro wx hSw;obtain ⟨s0,s1⟩:=hSw;go_simp;with_reducible rfl
 simp only [Act.put,sx1,sx2,sx3]
 refine tka 2 152 ?hy2a hHeld ?r2a (v:=?v2a)
 case hy2a=>intro wx hSw;obtain ⟨s0,s1⟩:=hSw;go_simp;with_reducible rfl
 simp only [Act.put,sx1,sx2,sx3]
 refine tka 3 153 ?hy3a hHeld ?r3a (v:=?v3a)
 case hy3a=>intro wx hSw;obtain ⟨s0,s1⟩:=hSw;go_simp;with_reducible rfl
 simp only [Act.put,sx1,sx2,sx3]
 refine tka 4 154 ?hy4a hHeld ?r4a (v:=?v4a)
 case hy4a=>intro wx hSw;obtain ⟨s0,s1⟩:=hSw;go_simp;with_reducible rfl
 simp only [Act.put,sx1,sx2,sx3]
 refine tka 5 155 ?hy5a hHeld ?r5a (v:=?v5a)
 case hy5a=>intro wx hSw;obtain ⟨s0,s1⟩:=hSw;go_simp;with_reducible rfl
 simp only [Act.put,sx1,sx2,sx3]
 refine tka 6 156 ?hy6a hHeld ?r6a (v:=?v6a)
 case hy6a=>intro wx hSw;obtain ⟨s0,s1⟩:=hSw;go_simp;with_reducible rfl
 simp only [Act.put,sx1,sx2,sx3]
 refine tka 7 157 ?hy7a hHeld ?r7a (v:=?v7a)
 case hy7a=>intro wx hSw;obtain ⟨s0,s1⟩:=hSw;go_simp;with_reducible rfl
 simp only [Act.put,sx1,sx2,sx3]
 refine wpAnyH_ready (rs:=[8]) (by kernel_rfl) (by simp) ?_
 refine AllReadyH.cons rfl (fun KK hK=>?_) AllReadyH.nil
 have q2:=uh HC2 _ (Below.refl w1.heap.size w1).drew
 go_simp
 refine hK.out _ _ (uh HSS _ (Below.refl _ _).drew) (fun hHeld=>?_)
 clear hK KK q2
 try simp only [Act.put,sx1,sx4,sx5,sx6,sx2,sx3]
 refine wpAnyH_ready (rs:=[9]) (by kernel_rfl) (by simp) ?_
 refine AllReadyH.cons rfl (fun KK hK=>?_) AllReadyH.nil
 have hdr:=(Below.refl w1.heap.size w1).drew
 go_simp
 refine (l4leave_any lo _ _ nf fns n f k 3 1 _ ((uh H2 _ ((uh HB1).mono hB)).below hdr) (uh HS) hk0 hk1 (by omega) (by omega)).mono ?_
 rintro e w2 ⟨⟨z,rfl,hz⟩,hbx⟩
 have hb2:Below w1.heap.size w1 w2:=hdr.trans hbx
 have HZ:=hide hz
 clear hz hbx
 have H2b:=hide ((uh H1).below hb2)
 have A2:=hide ((uh A1).go hb2)
 have HB2:=hide ((uh HB1).trans (hb2.mono (uh HB1).size))
 refine hK.out _ _ (uh HSS _ hb2) (fun hHeld=>?_)
 clear hK KK hb2 hdr
 try simp only [Act.put,sx1,sx4,sx5,sx6,sx2,sx3]
 refine wpAnyH_ready (rs:=[10]) (by kernel_rfl) (by simp) ?_
 refine AllReadyH.cons rfl (fun KK hK=>?_) AllReadyH.nil
 go_simp
 refine (l5move_any B lb v1 _ _ pv n f s z w2 (uh H2b) (by have:=uh HP;omega) (Nat.le_trans hB (uh HB2).size)).mono ?_
 rintro e w3 ⟨rfl,⟨pv',hl3⟩,hb3,hk3⟩
 have A3:=hide ((uh A2).same hk3)
 have HL3:=hide hl3
 have HB3:=hide (((uh HB2).mono hB).trans hb3)
 have HK3:=hide ((Same.of_below (P:=KindL) (uh HB2)).trans hk3)
 clear hb3 hk3
 refine hK.out _ _ ⟨hl3.c0,hl3.c1⟩ (fun hHeld=>?_)
 clear hK KK hHeld hl3
 try simp only [Act.put,sx1,sx4,sx5,sx6,sx2,sx3]
 refine wpAnyH_done (by kernel_rfl) ?_ _
 obtain ⟨⟨r0,r1,r2,r3,r4,r5⟩,x0,x1,x2,x3,x4,x5⟩:=(uh A3).rc
 obtain ⟨⟨o0,o1,o2,o3,o4,o5⟩,ofz⟩:=(uh A3).oc
 have y1:=ofz 1
 have y2:=ofz 2
 have y3:=ofz 3
 have y4:=ofz 4
 have y5:=ofz 5
 clear ofz
 have hne:w.heap.size + 1 + 1 ≠ w.heap.size + 1:=by omega
 have hne':w.heap.size + 1 ≠ w.heap.size + 1 + 1:=by omega
 clear a0
 go_wp2
 refine bodyPost_ret (v:=.agg #[.int .i64 0,.int .i64 0,.int .i64 0,.string ⟨#[]⟩,.slice none 0 0,.slice none 0 0]) (by simp [results,Tryz.results38,go_sem,r0,r1,r2,r3,r4,r5]) rfl ?_
 exact sask_end (AskIs.move (z:=z) (uh HO) (.inl ⟨by show (3:Int)≤7;omega,by show (7:Int)≤7;omega⟩) (by unfold MoveTo;rw [if_neg (by show ¬ (7:Int)=3;omega)];rw [if_neg (by show ¬ (7:Int)=4;omega)];rw [if_neg (by show ¬ (7:Int)=5;omega)];rw [if_neg (by show ¬ (7:Int)=6;omega)];rw [if_pos rfl];rw [← uh HK];exact .inl ⟨by omega,by rw [← leave_out];exact uh HZ⟩)) rfl rfl rfl (uh HL3) (uh A3) (frs_nil _ _) (VsAt.nil _ _) (uh HB3) (uh HK3) hB
end Go.Proofs.YtmnmeaeicjhkhaaGreatDoor
namespace Go.Proofs.YtmnmeaeicjhkhaaGreatDoor
open Go.RowKit
theorem HitsAt.snoc {B:Nat} {W:World} {hv':Value} {ns n:Nat} {f:Nat→M} {ss ss':Nat→Sp} {st:Sp} {bs:Nat→Nat} {b':Nat} (ro:W.ownsRow B 157 1 hv' (ns + 1) ((List.range ns).map (fun i=>Value.slice (some ⟨bs i,0,none⟩) n n) ++ [.slice (some ⟨b',0,none⟩) n n]))
  (hk:∀ i,i < ns→Bools (bs i) W n (hit f (ss i))) (hb:Bools b' W n (hit f st)) (e1:∀ i,i < ns→ss' i=ss i) (e2:ss' ns=st):HitsAt B W hv' (ns + 1) n f ss':=by
 refine ⟨fun i=>if i < ns then bs i else b',?_,fun i hi=>?_⟩
 ·rw [List.range_succ,List.map_append,List.map_singleton]
  dsimp only
  rw [if_neg (Nat.lt_irrefl ns)]
  have e:(List.range ns).map (fun i=>Value.slice (some ⟨if i < ns then bs i else b',0,none⟩) n n)=(List.range ns).map (fun i=>Value.slice (some ⟨bs i,0,none⟩) n n):=by
   apply List.map_congr_left
   intro i hi
   rw [if_pos (List.mem_range.1 hi)]
  rw [e]
  exact ro
 ·dsimp only
  by_cases h:i < ns
  ·rw [if_pos h,e1 i h];exact hk i h
  ·obtain rfl:i=ns:=by omega
   rw [if_neg h,e2];exact hb
theorem ss_snoc {s:LS} {st:Sp}:(∀ i,i < s.stops.length→LS.ss ⟨s.at_,s.stops ++ [st],s.past⟩ i=s.ss i)∧LS.ss ⟨s.at_,s.stops ++ [st],s.past⟩ s.stops.length=st:=by
 constructor
 ·intro i hi
  unfold LS.ss
  dsimp only
  rw [List.getD_eq_getElem?_getD,List.getD_eq_getElem?_getD,List.getElem?_append_left hi]
 ·unfold LS.ss
  dsimp only
  rw [List.getD_eq_getElem?_getD,List.getElem?_append_right (Nat.le_refl _)]
  simp
theorem SL.grownHits {B lb n:Nat} {W W1 W':World} {v1 v2 hv pv:Value} {f:Nat→M} {s:LS} (h:SL B W lb v1 v2 n f s hv pv) (hb:Below W.heap.size W W1) (hg:W1.grownBy W' hv.ownBlock) (hB:B≤W.heap.size) :
  W'.heap[lb]?=some (.cells #[v1,v2,.int .i64 s.at_,hv,pv] 82 (0,0))∧W'.ownsRow B 3 1 pv s.past.length (s.past.map (Value.int .i64))∧Same (fun t=>t ≠ 157) W1 W'∧Same KindL W W'∧Below B W W':=by
 obtain ⟨bs,r,k⟩:=h.hits
 have ha:=owns_below r hb
 have h1:Same (fun t=>t ≠ 157) W1 W':=Same.grown ha hg (fun q=>q rfl)
 have h0:∀ P,Same P W W1:=fun P=>Same.of_below hb
 exact ⟨h1 _ _ _ _ (h0 (fun _=>True) _ _ _ _ h.box trivial) (by decide),owns_same (owns_below h.past hb) h1 (by decide),h1,(h0 _).trans (h1.mono (fun t q=>q.2.1)),(hb.mono hB).grown hg (Nat.le_trans hB hb.size) (fun b e=>(owns_kd ha b e).1)⟩
theorem Bools.same {P:TypeId→Prop} {b:Nat} {w w':World} {n:Nat} {F:Nat→Bool} (h:Bools b w n F) (hs:Same P w w') (hp:P 4):Bools b w' n F:=by
 obtain ⟨⟨cs,hb⟩,hc⟩:=h
 exact Bools.of_block ⟨⟨cs,hb⟩,hc⟩ ((hs _ _ _ _ hb hp).trans hb.symm)
theorem specAsk_stop (B lb lo:Nat) (v1 v2 hv pv:Value) (nf:Nat) (fns:Nat→ByteArray) (n:Nat) (f:Nat→M) (s:LS) (nn:Int) (name:ByteArray) (kd fn line:Int) (sn:ByteArray) (w:World) (h:SL B w lb v1 v2 n f s hv pv) (h2:∀ W,Below B w W→MomsAt lo W v2 n f) (hs:Sound nf fns n f) (hok:LsOk n s) (hp:s.past.length≤10000) (hB:B≤w.heap.size) (hz:name.size≤maxLen) (hz2:sn.size≤maxLen) (ho:OkAsk (⟨1,nn,name,⟨kd,fn,line,sn⟩⟩:Ak)) :
  Calls Tryz.prog 38 #[.pointer (some ⟨lb,0,none⟩),.agg #[.int .i64 1,.int .i64 nn,.string name,.int .i64 kd,.int .i64 fn,.int .i64 line,.string sn]] w fun e w'=>SAsk B lb v1 v2 n f s (⟨1,nn,name,⟨kd,fn,line,sn⟩⟩:Ak) w e w':=by
 have H:=hide h
 have H2:=hide h2
 have HS:=hide hs
 have HOK:=hide hok
 have HP:=hide hp
 clear hp
 have A0:=hide (AB.new w (⟨1,nn,name,⟨kd,fn,line,sn⟩⟩:Ak))
 have HBW:=hide (((below_new w (.cells #[.int .i64 1,.int .i64 nn,.string name,.int .i64 kd,.int .i64 fn,.int .i64 line,.string sn] 47)).alloc (by simp) (.cells #[.int .i64 0,.int .i64 0,.int .i64 0,.string ⟨#[]⟩,.slice none 0 0,.slice none 0 0] 38)).alloc (by simp;omega) (.cells #[.int .i64 0,.int .i64 0,.int .i64 0,.string ⟨#[]⟩,.slice none 0 0,.slice none 0 0] 38))
 clear h h2 hs hok
 go_enter Tryz.func38,Tryz.ntmps38
 go_wp2_with fail
 refine (l5askOk_any 1 nn name kd fn line sn _ hz hz2).mono ?_
 rintro e w1 ⟨⟨b,rfl,hbb⟩,hbl⟩
 have A1:=hide ((uh A0).go hbl)
 have HB1:=hide ((uh HBW).trans (hbl.mono (uh HBW).size))
 have H1:=hide ((uh H).below (uh HB1))
 obtain rfl:b=true:=hbb.2 ho
 clear hbb hbl
 have HO:=hide ho
 clear ho
 have a0:w1.cell? ⟨w.heap.size,0,none⟩=some (.int .i64 1):=(uh A1).a0
 obtain ⟨ha,hc,hve⟩:=(uh H1).hslice
 obtain ⟨ns,hns⟩:∃ ns,ns=s.stops.length:=⟨_,rfl⟩
 rw [← hns] at hve
 subst hve
 have HNS:=hide hns
 have hn50:ns≤50:=by rw [hns];exact (uh HOK).st
 have c3:=(uh H1).c3
 clear hns
 by_cases h50:ns=50
 ·have hb50:((ns:Int) == 50)=true:=by rw [h50];rfl
  have HE:Hid (s.stops.length=50):=hide (by rw [← uh HNS];exact h50)
  clear h50
  obtain ⟨⟨r0,r1,r2,r3,r4,r5⟩,x0,x1,x2,x3,x4,x5⟩:=(uh A1).rc
  obtain ⟨⟨o0,o1,o2,o3,o4,o5⟩,ofz⟩:=(uh A1).oc
  have y1:=ofz 1
  have y2:=ofz 2
  have y3:=ofz 3
  have y4:=ofz 4
  have y5:=ofz 5
  clear ofz
  have hne:w.heap.size + 1 + 1 ≠ w.heap.size + 1:=by omega
  have hne':w.heap.size + 1 ≠ w.heap.size + 1 + 1:=by omega
  go_wp2
  refine bodyPost_ret (v:=.agg #[.int .i64 0,.int .i64 2,.int .i64 0,.string ⟨#[]⟩,.slice none 0 0,.slice none 0 0]) (by simp [results,Tryz.results38,go_sem,r0,r1,r2,r3,r4,r5]) rfl ?_
  exact sask_end (AskIs.stop50 (uh HO) rfl (uh HE)) rfl rfl rfl ((uh H1).told (uh A1) 1 (.int .i64 2)) ((uh A1).set1 2) (frs_nil _ _) (VsAt.nil _ _) (((uh HB1).mono hB).setCell (p:=⟨w.heap.size + 1 + 1,1,none⟩) (show B≤w.heap.size + 1 + 1 by omega) _) ((Same.of_below (uh HB1)).far (by omega)) hB
 have hb50:((ns:Int) == 50)=false:=by simp;omega
 obtain ⟨i0,hi0,hz0,hz1,hz2'⟩:=info_parts info_bools
 have II:=hide (And.intro hi0 (And.intro hz0 (And.intro hz1 hz2')));clear hi0 hz0 hz1 hz2'
 obtain ⟨bs,hrow,hbo⟩:=(uh H1).hits
 rw [← uh HNS] at hrow hbo
 have HROW:=hide hrow
 have HBO:=hide hbo
 clear hrow hbo
 have HSS:Hid (∀ W,Below w1.heap.size w1 W→W.cell? ⟨lb,0,none⟩=some v1∧W.cell? ⟨lb,1,none⟩=some v2∧W.cell? ⟨w.heap.size,3,none⟩=some (.int .i64 kd)∧W.cell? ⟨w.heap.size,4,none⟩=some (.int .i64 fn)∧W.cell? ⟨w.heap.size,5,none⟩=some (.int .i64 line)∧W.cell? ⟨w.heap.size,6,none⟩=some (.string sn)):=hide (fun W hb=>⟨cell_below hb (uh H1).c0,cell_below hb (uh H1).c1,cell_below hb (uh A1).a3,cell_below hb (uh A1).a4,cell_below hb (uh A1).a5,cell_below hb (uh A1).a6⟩)
 have HC3:Hid (∀ W,Below w1.heap.size w1 W→W.cell? ⟨lb,3,none⟩=some (.slice ha ns hc)):=hide (fun W hb=>cell_below hb (uh H1).c3)
 go_upto_region 10 with fail
 clear c3 a0
 refine wp_region_held_drew (S:=fun W=>W.cell? ⟨lb,0,none⟩=some v1∧W.cell? ⟨lb,1,none⟩=some v2∧W.cell? ⟨w.heap.size,3,none⟩=some (.int .i64 kd)∧W.cell? ⟨w.heap.size,4,none⟩=some (.int .i64 fn)∧W.cell? ⟨w.heap.size,5,none⟩=some (.int .i64 line)∧W.cell? ⟨w.heap.size,6,none⟩=some (.string sn)) (by kernel_rfl) (uh HSS _ (Below.refl _ _).drew) (fun hHeld=>?_)
 refine tka 0 32 ?hy0a hHeld ?r0a (v:=?v0a)
 case hy0a=>intro wx hSw;obtain ⟨s0,s1,s2,s3,s4,s5⟩:=hSw;go_simp;with_reducible rfl
 simp only [Act.put,sx1,sx2,sx3]
 refine tka 1 33 ?hy1a hHeld ?r1a (v:=?v1a)
 case hy1a=>intro wx hSw;obtain ⟨s0,s1,s2,s3,s4,s5⟩:=hSw;go_simp;with_reducible rfl
 simp only [Act.put,sx1,sx2,sx3]
 refine tka 2 34 ?hy2a hHeld ?r2a (v:=?v2a)
 case hy2a=>intro wx hSw;obtain ⟨s0,s1,s2,s3,s4,s5⟩:=hSw;go_simp;with_reducible rfl
 simp only [Act.put,sx1,sx2,sx3]
 refine tka 3 35 ?hy3a hHeld ?r3a (v:=?v3a)
 case hy3a=>intro wx hSw;obtain ⟨s0,s1,s2,s3,s4,s5⟩:=hSw;go_simp;with_reducible rfl
 simp only [Act.put,sx1,sx2,sx3]
 refine tka 5 37 ?hy5a hHeld ?r5a (v:=?v5a)
 case hy5a=>intro wx hSw;obtain ⟨s0,s1,s2,s3,s4,s5⟩:=hSw;go_simp;with_reducible rfl
 simp only [Act.put,sx1,sx2,sx3]
 refine tka 6 38 ?hy6a hHeld ?r6a (v:=?v6a)
 case hy6a=>intro wx hSw;obtain ⟨s0,s1,s2,s3,s4,s5⟩:=hSw;go_simp;with_reducible rfl
 simp only [Act.put,sx1,sx2,sx3]
 refine tka 7 39 ?hy7a hHeld ?r7a (v:=?v7a)
 case hy7a=>intro wx hSw;obtain ⟨s0,s1,s2,s3,s4,s5⟩:=hSw;go_simp;with_reducible rfl
 simp only [Act.put,sx1,sx2,sx3]
 refine tka 8 40 ?hy8a hHeld ?r8a (v:=?v8a)
 case hy8a=>intro wx hSw;obtain ⟨s0,s1,s2,s3,s4,s5⟩:=hSw;go_simp;with_reducible rfl
 simp only [Act.put,sx1,sx2,sx3]
 refine tka 9 41 ?hy9a hHeld ?r9a (v:=?v9a)
 case hy9a=>intro wx hSw;obtain ⟨s0,s1,s2,s3,s4,s5⟩:=hSw;go_simp;with_reducible rfl
 simp only [Act.put,sx1,sx2,sx3]
 refine tka 10 42 ?hy10a hHeld ?r10a (v:=?v10a)
 case hy10a=>intro wx hSw;obtain ⟨s0,s1,s2,s3,s4,s5⟩:=hSw;go_simp;with_reducible rfl
 simp only [Act.put,sx1,sx2,sx3]
 have HB0:=hide ((Below.refl w1.heap.size w1).drew)
 refine wpAnyH_ready (rs:=[4,11]) (by kernel_rfl) (by simp) ?_
 refine AllReadyH.cons rfl (fun KK hK=>?_) (AllReadyH.cons rfl (fun KK hK=>?_) AllReadyH.nil)
 ·have q3:=uh HC3 _ (uh HB0)
  go_simp
  refine hK.out _ _ (uh HSS _ (uh HB0)) (fun hHeld=>?_)
  clear hK KK q3
  try simp only [Act.put,sx1,sx4,sx5,sx6,sx2,sx3]
  refine wpAnyH_ready (rs:=[11]) (by kernel_rfl) (by simp) ?_
  refine AllReadyH.cons rfl (fun KK hK=>?_) AllReadyH.nil
  go_simp
  refine (l3hits_any lo _ _ nf fns n f ⟨kd,fn,line,sn⟩ _ ((uh H2 _ ((uh HB1).mono hB)).below (uh HB0)) (uh HS)).mono ?_
  rintro e w2 ⟨⟨b1,rfl,hbo,hb1⟩,hbx⟩
  have hb2:Below w1.heap.size w1 w2:=(uh HB0).trans hbx
  have HB2:=hide hb2
  have HN1:=hide hbo
  have HB3:Hid (Below w1.heap.size w1 (w2.alloc (.cells #[.slice (some ⟨b1,0,none⟩) n n] 157))):=hide (hb2.trans ((below_new w2 _).mono hb2.size))
  refine hK.out _ _ (uh HSS _ hb2) (fun hHeld=>?_)
  clear hK KK hb2 hbo hb1 hbx
  try simp only [Act.put,sx1,sx4,sx5,sx6,sx2,sx3]
  refine wpAnyH_ready (rs:=[12]) (by kernel_rfl) (by simp) ?_
  refine AllReadyH.cons rfl (fun KK hK=>?_) AllReadyH.nil
  go_simp
  refine hK.out _ _ (uh HSS _ (uh HB3)) (fun hHeld=>?_)
  clear hK KK
  try simp only [Act.put,sx1,sx4,sx5,sx6,sx2,sx3]
  have hrw:=owns_below (uh HROW) (uh HB3)
  refine wpAnyH_ready (rs:=[13]) (by kernel_rfl) (by simp) ?_
  refine AllReadyH.cons rfl (fun KK hK=>?_) AllReadyH.nil
  refine step_append_lies _ (by rfl) _ _ _ (by rfl) B 157 i0 _ 1 24 Tryz.underlying79 (uh II).1 (uh II).2.1 (uh II).2.2.1 (uh II).2.2.2 rfl (by omega) (.slice ha ns hc) ns _ (by rfl) hrw
   ⟨w2.heap.size,0,none⟩ 1 1 [.slice (some ⟨b1,0,none⟩) n n] (by rfl) (by rfl) (World.news_of_block (cs:=#[.slice (some ⟨b1,0,none⟩) n n]) (t:=157) (fr:=(0,0)) (heap_alloc_new w2 _)) (by simp [Value.oneCell'])
   (by omega) (by unfold maxLen;omega) (by omega) (by have:=(uh HB3).size;have:=(uh HB1).size;omega) _ rfl ?_
  intro g2 cp2 w7 hown hgrow _ _
  obtain ⟨hq,hpa,hs1,hs2,hbl⟩:=(uh H1).grownHits (uh HB3) hgrow (Nat.le_trans hB (uh HB1).size)
  have HL:Hid (SL B (w7.setCell ⟨lb,3,none⟩ (.slice (some ⟨g2,0,none⟩) (ns + 1) cp2)) lb v1 v2 n f ⟨s.at_,s.stops ++ [⟨kd,fn,line,sn⟩],s.past⟩ (.slice (some ⟨g2,0,none⟩) (ns + 1) cp2) pv):=hide (by
   have hs7:Same (fun t=>t ≠ 82) w7 (w7.setCell ⟨lb,3,none⟩ (.slice (some ⟨g2,0,none⟩) (ns + 1) cp2)):=Same.set hq (fun q=>q rfl)
   have hh:HitsAt B w7 (.slice (some ⟨g2,0,none⟩) (ns + 1) cp2) (ns + 1) n f (LS.ss ⟨s.at_,s.stops ++ [⟨kd,fn,line,sn⟩],s.past⟩):=HitsAt.snoc hown (fun i hi=>(((uh HBO) i hi).below (uh HB3)).same hs1 (by decide)) (((uh HN1).below (below_new w2 _)).same hs1 (by decide)) (fun i hi=>ss_snoc.1 i (by rw [← uh HNS];exact hi)) (by have:=(ss_snoc (s:=s) (st:=⟨kd,fn,line,sn⟩)).2;rw [← uh HNS] at this;exact this)
   have el:(s.stops ++ [(⟨kd,fn,line,sn⟩:Sp)]).length=ns + 1:=by rw [List.length_append,← uh HNS];rfl
   exact ⟨by simp [World.setCell,Array.getElem?_modify,hq],by rw [el];exact hh.same hs7 (by decide) (by decide),owns_same hpa hs7 (by decide),(uh H).lbB⟩)
  have HQ:=hide hq
  have HSA:Hid (Same KindL w1 (w7.setCell ⟨lb,3,none⟩ (.slice (some ⟨g2,0,none⟩) (ns + 1) cp2))):=hide (hs2.trans (Same.set hq KindL.no))
  have HBL:Hid (Below B w1 (w7.setCell ⟨lb,3,none⟩ (.slice (some ⟨g2,0,none⟩) (ns + 1) cp2))):=hide (hbl.setCell (p:=⟨lb,3,none⟩) (uh H).lbB _)
  have A7:=hide ((uh A1).same hs2)
  have A8:=hide ((uh A1).same (uh HSA))
  clear hown hgrow hq hpa hs1 hs2 hbl hrw
  have k0:w7.cell? ⟨lb,0,none⟩=some v1:=by rw [cell_of_row w7 _ 0 _ _ _ (uh HQ)];rfl
  have k1:w7.cell? ⟨lb,1,none⟩=some v2:=by rw [cell_of_row w7 _ 1 _ _ _ (uh HQ)];rfl
  have k3:w7.cell? ⟨lb,3,none⟩=some (.slice ha ns hc):=by rw [cell_of_row w7 _ 3 _ _ _ (uh HQ)];rfl
  have f3:w7.frozen? ⟨lb,3,none⟩=false:=frozen_of_row _ _ _ _ _ (uh HQ)
  refine hK.out _ _ ⟨k0,k1,(uh A7).a3,(uh A7).a4,(uh A7).a5,(uh A7).a6⟩ (fun hHeld=>?_)
  clear hK KK
  try simp only [Act.put,sx1,sx4,sx5,sx6,sx2,sx3]
  refine tka 14 46 ?hy14b hHeld ?r14b (v:=?v14b)
  case hy14b=>intro wx hSw;obtain ⟨s0,s1,s2,s3,s4,s5⟩:=hSw;go_simp;with_reducible rfl
  simp only [Act.put,sx1,sx2,sx3]
  refine tka 15 47 ?hy15b hHeld ?r15b (v:=?v15b)
  case hy15b=>intro wx hSw;obtain ⟨s0,s1,s2,s3,s4,s5⟩:=hSw;go_simp;with_reducible rfl
  simp only [Act.put,sx1,sx2,sx3]
  refine wpAnyH_ready (rs:=[16]) (by kernel_rfl) (by simp) ?_
  refine AllReadyH.cons rfl (fun KK hK=>?_) AllReadyH.nil
  go_simp
  have d3:=(uh HL).c3
  refine hK.out _ _ ⟨(uh HL).c0,(uh HL).c1,(uh A8).a3,(uh A8).a4,(uh A8).a5,(uh A8).a6⟩ (fun hHeld=>?_)
  clear hK KK hHeld k0 k1 k3 f3
  try simp only [Act.put,sx1,sx4,sx5,sx6,sx2,sx3]
  refine wpAnyH_done (by kernel_rfl) ?_ _
  obtain ⟨W8,hW8⟩:∃ W8,W8=w7.setCell ⟨lb,3,none⟩ (.slice (some ⟨g2,0,none⟩) (ns + 1) cp2):=⟨_,rfl⟩
  rw [← hW8] at HL HSA HBL A8 d3 ⊢
  clear hW8 HQ A7
  have wn:IntKind.i64.wrap (((ns + 1:Nat):Int) - 1)=(ns:Int):=by rw [IntKind.wrap_i64];omega
  obtain ⟨⟨r0,r1,r2,r3,r4,r5⟩,x0,x1,x2,x3,x4,x5⟩:=(uh A8).rc
  obtain ⟨⟨o0,o1,o2,o3,o4,o5⟩,ofz⟩:=(uh A8).oc
  have y1:=ofz 1
  have y2:=ofz 2
  have y3:=ofz 3
  have y4:=ofz 4
  have y5:=ofz 5
  clear ofz
  have hne:w.heap.size + 1 + 1 ≠ w.heap.size + 1:=by omega
  have hne':w.heap.size + 1 ≠ w.heap.size + 1 + 1:=by omega
  go_wp2
  refine bodyPost_ret (v:=.agg #[.int .i64 0,.int .i64 0,.int .i64 (ns:Int),.string ⟨#[]⟩,.slice none 0 0,.slice none 0 0]) (by simp [results,Tryz.results38,go_sem,r0,r1,r2,r3,r4,r5]) rfl ?_
  exact sask_end (AskIs.stop (uh HO) rfl (by rw [← uh HNS];exact h50)) rfl (by rw [uh HNS]) rfl ((uh HL).told (uh A8) 2 (.int .i64 (ns:Int))) ((uh A8).set2 (ns:Int)) (frs_nil _ _) (VsAt.nil _ _) ((((uh HB1).mono hB).trans (uh HBL)).setCell (p:=⟨w.heap.size + 1 + 1,2,none⟩) (show B≤w.heap.size + 1 + 1 by omega) _) (((Same.of_below (uh HB1)).trans (uh HSA)).far (by omega)) hB
 ·go_simp
  refine (l3hits_any lo _ _ nf fns n f ⟨kd,fn,line,sn⟩ _ ((uh H2 _ ((uh HB1).mono hB)).below (uh HB0)) (uh HS)).mono ?_
  rintro e w2 ⟨⟨b1,rfl,hbo,hb1⟩,hbx⟩
  have hb2:Below w1.heap.size w1 w2:=(uh HB0).trans hbx
  have HB2:=hide hb2
  have HN1:=hide hbo
  have HB3:Hid (Below w1.heap.size w1 (w2.alloc (.cells #[.slice (some ⟨b1,0,none⟩) n n] 157))):=hide (hb2.trans ((below_new w2 _).mono hb2.size))
  refine hK.out _ _ (uh HSS _ hb2) (fun hHeld=>?_)
  clear hK KK hb2 hbo hb1 hbx
  try simp only [Act.put,sx1,sx4,sx5,sx6,sx2,sx3]
  refine wpAnyH_ready (rs:=[4,12]) (by kernel_rfl) (by simp) ?_
  refine AllReadyH.cons rfl (fun KK hK=>?_) (AllReadyH.cons rfl (fun KK hK=>?_) AllReadyH.nil)
  ·have q3:=uh HC3 _ (uh HB2)
   go_simp
   refine hK.out _ _ (uh HSS _ (uh HB2)) (fun hHeld=>?_)
   clear hK KK q3
   try simp only [Act.put,sx1,sx4,sx5,sx6,sx2,sx3]
   refine wpAnyH_ready (rs:=[12]) (by kernel_rfl) (by simp) ?_
   refine AllReadyH.cons rfl (fun KK hK=>?_) AllReadyH.nil
   go_simp
   refine hK.out _ _ (uh HSS _ (uh HB3)) (fun hHeld=>?_)
   clear hK KK
   try simp only [Act.put,sx1,sx4,sx5,sx6,sx2,sx3]
   have hrw:=owns_below (uh HROW) (uh HB3)
   refine wpAnyH_ready (rs:=[13]) (by kernel_rfl) (by simp) ?_
   refine AllReadyH.cons rfl (fun KK hK=>?_) AllReadyH.nil
   refine step_append_lies _ (by rfl) _ _ _ (by rfl) B 157 i0 _ 1 24 Tryz.underlying79 (uh II).1 (uh II).2.1 (uh II).2.2.1 (uh II).2.2.2 rfl (by omega) (.slice ha ns hc) ns _ (by rfl) hrw
    ⟨w2.heap.size,0,none⟩ 1 1 [.slice (some ⟨b1,0,none⟩) n n] (by rfl) (by rfl) (World.news_of_block (cs:=#[.slice (some ⟨b1,0,none⟩) n n]) (t:=157) (fr:=(0,0)) (heap_alloc_new w2 _)) (by simp [Value.oneCell'])
    (by omega) (by unfold maxLen;omega) (by omega) (by have:=(uh HB3).size;have:=(uh HB1).size;omega) _ rfl ?_
   intro g2 cp2 w7 hown hgrow _ _
   obtain ⟨hq,hpa,hs1,hs2,hbl⟩:=(uh H1).grownHits (uh HB3) hgrow (Nat.le_trans hB (uh HB1).size)
   have HL:Hid (SL B (w7.setCell ⟨lb,3,none⟩ (.slice (some ⟨g2,0,none⟩) (ns + 1) cp2)) lb v1 v2 n f ⟨s.at_,s.stops ++ [⟨kd,fn,line,sn⟩],s.past⟩ (.slice (some ⟨g2,0,none⟩) (ns + 1) cp2) pv):=hide (by
    have hs7:Same (fun t=>t ≠ 82) w7 (w7.setCell ⟨lb,3,none⟩ (.slice (some ⟨g2,0,none⟩) (ns + 1) cp2)):=Same.set hq (fun q=>q rfl)
    have hh:HitsAt B w7 (.slice (some ⟨g2,0,none⟩) (ns + 1) cp2) (ns + 1) n f (LS.ss ⟨s.at_,s.stops ++ [⟨kd,fn,line,sn⟩],s.past⟩):=HitsAt.snoc hown (fun i hi=>(((uh HBO) i hi).below (uh HB3)).same hs1 (by decide)) (((uh HN1).below (below_new w2 _)).same hs1 (by decide)) (fun i hi=>ss_snoc.1 i (by rw [← uh HNS];exact hi)) (by have:=(ss_snoc (s:=s) (st:=⟨kd,fn,line,sn⟩)).2;rw [← uh HNS] at this;exact this)
    have el:(s.stops ++ [(⟨kd,fn,line,sn⟩:Sp)]).length=ns + 1:=by rw [List.length_append,← uh HNS];rfl
    exact ⟨by simp [World.setCell,Array.getElem?_modify,hq],by rw [el];exact hh.same hs7 (by decide) (by decide),owns_same hpa hs7 (by decide),(uh H).lbB⟩)
   have HQ:=hide hq
   have HSA:Hid (Same KindL w1 (w7.setCell ⟨lb,3,none⟩ (.slice (some ⟨g2,0,none⟩) (ns + 1) cp2))):=hide (hs2.trans (Same.set hq KindL.no))
   have HBL:Hid (Below B w1 (w7.setCell ⟨lb,3,none⟩ (.slice (some ⟨g2,0,none⟩) (ns + 1) cp2))):=hide (hbl.setCell (p:=⟨lb,3,none⟩) (uh H).lbB _)
   have A7:=hide ((uh A1).same hs2)
   have A8:=hide ((uh A1).same (uh HSA))
   clear hown hgrow hq hpa hs1 hs2 hbl hrw
   have k0:w7.cell? ⟨lb,0,none⟩=some v1:=by rw [cell_of_row w7 _ 0 _ _ _ (uh HQ)];rfl
   have k1:w7.cell? ⟨lb,1,none⟩=some v2:=by rw [cell_of_row w7 _ 1 _ _ _ (uh HQ)];rfl
   have k3:w7.cell? ⟨lb,3,none⟩=some (.slice ha ns hc):=by rw [cell_of_row w7 _ 3 _ _ _ (uh HQ)];rfl
   have f3:w7.frozen? ⟨lb,3,none⟩=false:=frozen_of_row _ _ _ _ _ (uh HQ)
   refine hK.out _ _ ⟨k0,k1,(uh A7).a3,(uh A7).a4,(uh A7).a5,(uh A7).a6⟩ (fun hHeld=>?_)
   clear hK KK
   try simp only [Act.put,sx1,sx4,sx5,sx6,sx2,sx3]
   refine tka 14 46 ?hy14c hHeld ?r14c (v:=?v14c)
   case hy14c=>intro wx hSw;obtain ⟨s0,s1,s2,s3,s4,s5⟩:=hSw;go_simp;with_reducible rfl
   simp only [Act.put,sx1,sx2,sx3]
   refine tka 15 47 ?hy15c hHeld ?r15c (v:=?v15c)
   case hy15c=>intro wx hSw;obtain ⟨s0,s1,s2,s3,s4,s5⟩:=hSw;go_simp;with_reducible rfl
   simp only [Act.put,sx1,sx2,sx3]
   refine wpAnyH_ready (rs:=[16]) (by kernel_rfl) (by simp) ?_
   refine AllReadyH.cons rfl (fun KK hK=>?_) AllReadyH.nil
   go_simp
   have d3:=(uh HL).c3
   refine hK.out _ _ ⟨(uh HL).c0,(uh HL).c1,(uh A8).a3,(uh A8).a4,(uh A8).a5,(uh A8).a6⟩ (fun hHeld=>?_)
   clear hK KK hHeld k0 k1 k3 f3
   try simp only [Act.put,sx1,sx4,sx5,sx6,sx2,sx3]
   refine wpAnyH_done (by kernel_rfl) ?_ _
   obtain ⟨W8,hW8⟩:∃ W8,W8=w7.setCell ⟨lb,3,none⟩ (.slice (some ⟨g2,0,none⟩) (ns + 1) cp2):=⟨_,rfl⟩
   rw [← hW8] at HL HSA HBL A8 d3 ⊢
   clear hW8 HQ A7
   have wn:IntKind.i64.wrap (((ns + 1:Nat):Int) - 1)=(ns:Int):=by rw [IntKind.wrap_i64];omega
   obtain ⟨⟨r0,r1,r2,r3,r4,r5⟩,x0,x1,x2,x3,x4,x5⟩:=(uh A8).rc
   obtain ⟨⟨o0,o1,o2,o3,o4,o5⟩,ofz⟩:=(uh A8).oc
   have y1:=ofz 1
   have y2:=ofz 2
   have y3:=ofz 3
   have y4:=ofz 4
   have y5:=ofz 5
   clear ofz
   have hne:w.heap.size + 1 + 1 ≠ w.heap.size + 1:=by omega
   have hne':w.heap.size + 1 ≠ w.heap.size + 1 + 1:=by omega
   go_wp2
   refine bodyPost_ret (v:=.agg #[.int .i64 0,.int .i64 0,.int .i64 (ns:Int),.string ⟨#[]⟩,.slice none 0 0,.slice none 0 0]) (by simp [results,Tryz.results38,go_sem,r0,r1,r2,r3,r4,r5]) rfl ?_
   exact sask_end (AskIs.stop (uh HO) rfl (by rw [← uh HNS];exact h50)) rfl (by rw [uh HNS]) rfl ((uh HL).told (uh A8) 2 (.int .i64 (ns:Int))) ((uh A8).set2 (ns:Int)) (frs_nil _ _) (VsAt.nil _ _) ((((uh HB1).mono hB).trans (uh HBL)).setCell (p:=⟨w.heap.size + 1 + 1,2,none⟩) (show B≤w.heap.size + 1 + 1 by omega) _) (((Same.of_below (uh HB1)).trans (uh HSA)).far (by omega)) hB
  ·go_simp
   refine hK.out _ _ (uh HSS _ (uh HB3)) (fun hHeld=>?_)
   clear hK KK
   try simp only [Act.put,sx1,sx4,sx5,sx6,sx2,sx3]
   refine wpAnyH_ready (rs:=[4]) (by kernel_rfl) (by simp) ?_
   refine AllReadyH.cons rfl (fun KK hK=>?_) AllReadyH.nil
   have q3:=uh HC3 _ (uh HB3)
   go_simp
   refine hK.out _ _ (uh HSS _ (uh HB3)) (fun hHeld=>?_)
   clear hK KK q3
   try simp only [Act.put,sx1,sx4,sx5,sx6,sx2,sx3]
   have hrw:=owns_below (uh HROW) (uh HB3)
   refine wpAnyH_ready (rs:=[13]) (by kernel_rfl) (by simp) ?_
   refine AllReadyH.cons rfl (fun KK hK=>?_) AllReadyH.nil
   refine step_append_lies _ (by rfl) _ _ _ (by rfl) B 157 i0 _ 1 24 Tryz.underlying79 (uh II).1 (uh II).2.1 (uh II).2.2.1 (uh II).2.2.2 rfl (by omega) (.slice ha ns hc) ns _ (by rfl) hrw
    ⟨w2.heap.size,0,none⟩ 1 1 [.slice (some ⟨b1,0,none⟩) n n] (by rfl) (by rfl) (World.news_of_block (cs:=#[.slice (some ⟨b1,0,none⟩) n n]) (t:=157) (fr:=(0,0)) (heap_alloc_new w2 _)) (by simp [Value.oneCell'])
    (by omega) (by unfold maxLen;omega) (by omega) (by have:=(uh HB3).size;have:=(uh HB1).size;omega) _ rfl ?_
   intro g2 cp2 w7 hown hgrow _ _
   obtain ⟨hq,hpa,hs1,hs2,hbl⟩:=(uh H1).grownHits (uh HB3) hgrow (Nat.le_trans hB (uh HB1).size)
   have HL:Hid (SL B (w7.setCell ⟨lb,3,none⟩ (.slice (some ⟨g2,0,none⟩) (ns + 1) cp2)) lb v1 v2 n f ⟨s.at_,s.stops ++ [⟨kd,fn,line,sn⟩],s.past⟩ (.slice (some ⟨g2,0,none⟩) (ns + 1) cp2) pv):=hide (by
    have hs7:Same (fun t=>t ≠ 82) w7 (w7.setCell ⟨lb,3,none⟩ (.slice (some ⟨g2,0,none⟩) (ns + 1) cp2)):=Same.set hq (fun q=>q rfl)
    have hh:HitsAt B w7 (.slice (some ⟨g2,0,none⟩) (ns + 1) cp2) (ns + 1) n f (LS.ss ⟨s.at_,s.stops ++ [⟨kd,fn,line,sn⟩],s.past⟩):=HitsAt.snoc hown (fun i hi=>(((uh HBO) i hi).below (uh HB3)).same hs1 (by decide)) (((uh HN1).below (below_new w2 _)).same hs1 (by decide)) (fun i hi=>ss_snoc.1 i (by rw [← uh HNS];exact hi)) (by have:=(ss_snoc (s:=s) (st:=⟨kd,fn,line,sn⟩)).2;rw [← uh HNS] at this;exact this)
    have el:(s.stops ++ [(⟨kd,fn,line,sn⟩:Sp)]).length=ns + 1:=by rw [List.length_append,← uh HNS];rfl
    exact ⟨by simp [World.setCell,Array.getElem?_modify,hq],by rw [el];exact hh.same hs7 (by decide) (by decide),owns_same hpa hs7 (by decide),(uh H).lbB⟩)
   have HQ:=hide hq
   have HSA:Hid (Same KindL w1 (w7.setCell ⟨lb,3,none⟩ (.slice (some ⟨g2,0,none⟩) (ns + 1) cp2))):=hide (hs2.trans (Same.set hq KindL.no))
   have HBL:Hid (Below B w1 (w7.setCell ⟨lb,3,none⟩ (.slice (some ⟨g2,0,none⟩) (ns + 1) cp2))):=hide (hbl.setCell (p:=⟨lb,3,none⟩) (uh H).lbB _)
   have A7:=hide ((uh A1).same hs2)
   have A8:=hide ((uh A1).same (uh HSA))
   clear hown hgrow hq hpa hs1 hs2 hbl hrw
   have k0:w7.cell? ⟨lb,0,none⟩=some v1:=by rw [cell_of_row w7 _ 0 _ _ _ (uh HQ)];rfl
   have k1:w7.cell? ⟨lb,1,none⟩=some v2:=by rw [cell_of_row w7 _ 1 _ _ _ (uh HQ)];rfl
   have k3:w7.cell? ⟨lb,3,none⟩=some (.slice ha ns hc):=by rw [cell_of_row w7 _ 3 _ _ _ (uh HQ)];rfl
   have f3:w7.frozen? ⟨lb,3,none⟩=false:=frozen_of_row _ _ _ _ _ (uh HQ)
   refine hK.out _ _ ⟨k0,k1,(uh A7).a3,(uh A7).a4,(uh A7).a5,(uh A7).a6⟩ (fun hHeld=>?_)
   clear hK KK
   try simp only [Act.put,sx1,sx4,sx5,sx6,sx2,sx3]
   refine tka 14 46 ?hy14d hHeld ?r14d (v:=?v14d)
   case hy14d=>intro wx hSw;obtain ⟨s0,s1,s2,s3,s4,s5⟩:=hSw;go_simp;with_reducible rfl
   simp only [Act.put,sx1,sx2,sx3]
   refine tka 15 47 ?hy15d hHeld ?r15d (v:=?v15d)
   case hy15d=>intro wx hSw;obtain ⟨s0,s1,s2,s3,s4,s5⟩:=hSw;go_simp;with_reducible rfl
   simp only [Act.put,sx1,sx2,sx3]
   refine wpAnyH_ready (rs:=[16]) (by kernel_rfl) (by simp) ?_
   refine AllReadyH.cons rfl (fun KK hK=>?_) AllReadyH.nil
   go_simp
   have d3:=(uh HL).c3
   refine hK.out _ _ ⟨(uh HL).c0,(uh HL).c1,(uh A8).a3,(uh A8).a4,(uh A8).a5,(uh A8).a6⟩ (fun hHeld=>?_)
   clear hK KK hHeld k0 k1 k3 f3
   try simp only [Act.put,sx1,sx4,sx5,sx6,sx2,sx3]
   refine wpAnyH_done (by kernel_rfl) ?_ _
   obtain ⟨W8,hW8⟩:∃ W8,W8=w7.setCell ⟨lb,3,none⟩ (.slice (some ⟨g2,0,none⟩) (ns + 1) cp2):=⟨_,rfl⟩
   rw [← hW8] at HL HSA HBL A8 d3 ⊢
   clear hW8 HQ A7
   have wn:IntKind.i64.wrap (((ns + 1:Nat):Int) - 1)=(ns:Int):=by rw [IntKind.wrap_i64];omega
   obtain ⟨⟨r0,r1,r2,r3,r4,r5⟩,x0,x1,x2,x3,x4,x5⟩:=(uh A8).rc
   obtain ⟨⟨o0,o1,o2,o3,o4,o5⟩,ofz⟩:=(uh A8).oc
   have y1:=ofz 1
   have y2:=ofz 2
   have y3:=ofz 3
   have y4:=ofz 4
   have y5:=ofz 5
   clear ofz
   have hne:w.heap.size + 1 + 1 ≠ w.heap.size + 1:=by omega
   have hne':w.heap.size + 1 ≠ w.heap.size + 1 + 1:=by omega
   go_wp2
   refine bodyPost_ret (v:=.agg #[.int .i64 0,.int .i64 0,.int .i64 (ns:Int),.string ⟨#[]⟩,.slice none 0 0,.slice none 0 0]) (by simp [results,Tryz.results38,go_sem,r0,r1,r2,r3,r4,r5]) rfl ?_
   exact sask_end (AskIs.stop (uh HO) rfl (by rw [← uh HNS];exact h50)) rfl (by rw [uh HNS]) rfl ((uh HL).told (uh A8) 2 (.int .i64 (ns:Int))) ((uh A8).set2 (ns:Int)) (frs_nil _ _) (VsAt.nil _ _) ((((uh HB1).mono hB).trans (uh HBL)).setCell (p:=⟨w.heap.size + 1 + 1,2,none⟩) (show B≤w.heap.size + 1 + 1 by omega) _) (((Same.of_below (uh HB1)).trans (uh HSA)).far (by omega)) hB
end Go.Proofs.YtmnmeaeicjhkhaaGreatDoor
