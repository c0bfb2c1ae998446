import Derived.Test.YtmnmeaeicjhkhaaGreatDoorGYbx
import Derived.Test.YtmnmeaeicjhkhaaGreatDoorGYcx
set_option maxRecDepth 100000
set_option maxHeartbeats 16000000
namespace Go.Proofs.YtmnmeaeicjhkhaaGreatDoor
open Go.RowKit Go.Shelf
section
attribute [local go_sem] Oper.semAt_some
theorem jY.cd {W:World} {sb:Nat} {mv pv tv uv:Value} {k:Int} {D:Nat->Value} (h:jY W sb mv pv k tv uv D) (j:Nat) (h5:5<=j) (h75:j<75):W.cell? ⟨sb,j,none⟩=some (D j):=by
 obtain ⟨cs,hh,-,-,-,-,-,-,hd⟩:=h
 rw [cell_of_row W _ j _ _ _ hh];exact hd j h5 h75
theorem kM (o m:Nat) (le mo:Int) (tn ts:Bool) (B sb:Nat) (mv pv tv uv:Value) (D:Nat->Value) (n:Nat) (f:Nat->M) (s:LS) (nn:Int) (name:ByteArray) (kd fn line:Int) (sn:ByteArray) (w:World) (h:SS B w sb mv pv n f s tv uv D) (hB:B<=w.heap.size) (h1:1<=o) (h13:o<=13)
  (d0:D (5+o*5)=.func (.func m) #[.pointer (some ⟨sb,0,none⟩)] #[]) (d1:D (5+o*5+1)=.int .i64 le) (d2:D (5+o*5+2)=.int .i64 mo) (d3:D (5+o*5+3)=.bool tn) (d4:D (5+o*5+4)=.bool ts)
  (htk:∀ W,Calls Tryz.prog 158 #[.agg #[.func (.func m) #[.pointer (some ⟨sb,0,none⟩)] #[],.int .i64 le,.int .i64 mo,.bool tn,.bool ts],.agg #[.int .i64 (o:Int),.int .i64 nn,.string name,.int .i64 kd,.int .i64 fn,.int .i64 line,.string sn]] W fun e w'=>(∃ b:Bool,e=.returned (.bool b)/\(b=true↔cL (⟨(o:Int),nn,name,⟨kd,fn,line,sn⟩⟩:Ak)))/\Below W.heap.size W w')
  (hcf:∀ (args:Array Value) (w:World),Sem.run Tryz.prog (callFunc m args) w=.ok (.enter m args) w)
  (hdo:cL (⟨(o:Int),nn,name,⟨kd,fn,line,sn⟩⟩:Ak)->∀ W,Below w.heap.size w W->SS B W sb mv pv n f s tv uv D->Calls Tryz.prog m #[.pointer (some ⟨sb,0,none⟩),.agg #[.int .i64 (o:Int),.int .i64 nn,.string name,.int .i64 kd,.int .i64 fn,.int .i64 line,.string sn]] W fun e w'=>pK B sb mv pv n f D s (⟨(o:Int),nn,name,⟨kd,fn,line,sn⟩⟩:Ak) W e w') :
  Calls Tryz.prog 115 #[.pointer (some ⟨sb,0,none⟩),.agg #[.int .i64 (o:Int),.int .i64 nn,.string name,.int .i64 kd,.int .i64 fn,.int .i64 line,.string sn]] w fun e w'=>pK B sb mv pv n f D s (⟨(o:Int),nn,name,⟨kd,fn,line,sn⟩⟩:Ak) w e w':=by
 have H:=O h
 have HTK:=O htk
 have HDO:=O hdo
 have A1:=O (DB.new w (⟨(o:Int),nn,name,⟨kd,fn,line,sn⟩⟩:Ak))
 have HB1:Hid (Below w.heap.size w ((w.alloc (.cells #[.int .i64 (o:Int),.int .i64 nn,.string name,.int .i64 kd,.int .i64 fn,.int .i64 line,.string sn] 47)).alloc tz0)):=O ((bH w (.cells #[.int .i64 (o:Int),.int .i64 nn,.string name,.int .i64 kd,.int .i64 fn,.int .i64 line,.string sn] 47)).alloc (by simp) tz0)
 have H1:=O ((Z H).below (Z HB1))
 have hlt:=(Z H).lt
 have q1:decide ((o:Int)<1)=false:=decide_eq_false (by omega)
 have q2:decide ((13:Int)<(o:Int))=false:=decide_eq_false (by omega)
 have hi1:(0:Int)<=(o:Int):=by omega
 have hi2:(o:Int)<14:=by omega
 clear h htk hdo
 go_enter Tryz.func115,Tryz.ntmps115
 go_upto_region 3 with fail
 obtain ⟨w1,hw1⟩:∃ w1,w1=((w.alloc (.cells #[.int .i64 (o:Int),.int .i64 nn,.string name,.int .i64 kd,.int .i64 fn,.int .i64 line,.string sn] 47)).alloc tz0):=⟨_,rfl⟩
 have sz1:w1.heap.size=w.heap.size+2:=by rw [hw1];simp
 rw [<- hw1] at A1 HB1 H1 ⊢
 clear hw1
 have HSS:Hid (∀ W,Below w1.heap.size w1 W->W.cell? ⟨w.heap.size,0,none⟩=some (.int .i64 (o:Int))/\W.cell? ⟨sb,5+o*5,none⟩=some (.func (.func m) #[.pointer (some ⟨sb,0,none⟩)] #[])/\W.cell? ⟨sb,5+o*5+1,none⟩=some (.int .i64 le)/\W.cell? ⟨sb,5+o*5+2,none⟩=some (.int .i64 mo)/\W.cell? ⟨sb,5+o*5+3,none⟩=some (.bool tn)/\W.cell? ⟨sb,5+o*5+4,none⟩=some (.bool ts)):=O (by
  intro W hb
  have ha:=((Z A1).go hb).ak
  have hx:=((Z H1).below hb).box
  exact ⟨by rw [cell_of_row W _ 0 _ _ _ ha];rfl,by rw [<- d0];exact hx.cd _ (by omega) (by omega),by rw [<- d1];exact hx.cd _ (by omega) (by omega),by rw [<- d2];exact hx.cd _ (by omega) (by omega),by rw [<- d3];exact hx.cd _ (by omega) (by omega),by rw [<- d4];exact hx.cd _ (by omega) (by omega)⟩)
 clear d0 d1 d2 d3 d4 q1 q2
 refine wp_region_held_drew (S:=fun W=>W.cell? ⟨w.heap.size,0,none⟩=some (.int .i64 (o:Int))/\W.cell? ⟨sb,5+o*5,none⟩=some (.func (.func m) #[.pointer (some ⟨sb,0,none⟩)] #[])/\W.cell? ⟨sb,5+o*5+1,none⟩=some (.int .i64 le)/\W.cell? ⟨sb,5+o*5+2,none⟩=some (.int .i64 mo)/\W.cell? ⟨sb,5+o*5+3,none⟩=some (.bool tn)/\W.cell? ⟨sb,5+o*5+4,none⟩=some (.bool ts)) (by kernel_rfl) (Z HSS _ (Below.refl _ _).drew) (fun hHeld=>?_)
 refine tka 0 18 hHeld ?_
 refine tka 1 19 hHeld ?_
 refine tka 2 20 hHeld ?_
 refine tka 3 21 hHeld ?_
 refine tka 4 22 hHeld ?_
 refine tka 5 23 hHeld ?_
 refine tka 6 24 hHeld ?_
 refine rdy 7 fun KK hK=>?_
 go_simp
 have hba:Below w1.heap.size w1 (w1.alloc (.cells #[.nilFunc,.int .i64 0,.int .i64 0,.bool false,.bool false] 173)).drew:=(bH w1 _).drew
 refine hK.out _ _ (Z HSS _ hba) (fun hHeld=>?_)
 clear hK KK hba
 try simp only [Act.put,sy]
 refine rdy 8 fun KK hK=>?_
 go_simp
 have hb2:Below w1.heap.size w1 (w1.alloc (.cells #[.func (.func m) #[.pointer (some ⟨sb,0,none⟩)] #[],.int .i64 le,.int .i64 mo,.bool tn,.bool ts] 173)).drew:=(bH w1 _).drew
 have HX2:Hid ((w1.alloc (.cells #[.func (.func m) #[.pointer (some ⟨sb,0,none⟩)] #[],.int .i64 le,.int .i64 mo,.bool tn,.bool ts] 173)).drew.heap[w1.heap.size]?=some (.cells #[.func (.func m) #[.pointer (some ⟨sb,0,none⟩)] #[],.int .i64 le,.int .i64 mo,.bool tn,.bool ts] 173 (0,0))):=O (heap_alloc_new w1 _)
 rw [sz1] at HX2
 refine hK.out _ _ (Z HSS _ hb2) (fun hHeld=>?_)
 clear hK KK hHeld
 try simp only [Act.put,sy]
 refine wpAnyH_done (by kernel_rfl) ?_ _
 generalize hW2:(w1.alloc (.cells #[.func (.func m) #[.pointer (some ⟨sb,0,none⟩)] #[],.int .i64 le,.int .i64 mo,.bool tn,.bool ts] 173)).drew=w2 at hb2 HX2 ⊢
 clear hW2
 have A2:=O ((Z A1).go hb2)
 have HL2:=O ((Z H1).below hb2)
 have HB2:=hT HB1 hb2
 clear hb2 A1 H1 HSS
 have e0:w2.cell? ⟨w.heap.size+2,0,none⟩=some (.func (.func m) #[.pointer (some ⟨sb,0,none⟩)] #[]):=by rw [cell_of_row w2 _ 0 _ _ _ (Z HX2)];rfl
 have e1:w2.cell? ⟨w.heap.size+2,1,none⟩=some (.int .i64 le):=by rw [cell_of_row w2 _ 1 _ _ _ (Z HX2)];rfl
 have e2:w2.cell? ⟨w.heap.size+2,2,none⟩=some (.int .i64 mo):=by rw [cell_of_row w2 _ 2 _ _ _ (Z HX2)];rfl
 have e3:w2.cell? ⟨w.heap.size+2,3,none⟩=some (.bool tn):=by rw [cell_of_row w2 _ 3 _ _ _ (Z HX2)];rfl
 have e4:w2.cell? ⟨w.heap.size+2,4,none⟩=some (.bool ts):=by rw [cell_of_row w2 _ 4 _ _ _ (Z HX2)];rfl
 have a0:w2.cell? ⟨w.heap.size,0,none⟩=some (.int .i64 (o:Int)):=by rw [cell_of_row w2 _ 0 _ _ _ (Z A2).ak];rfl
 have a1:w2.cell? ⟨w.heap.size,1,none⟩=some (.int .i64 nn):=(Z A2).a1
 have a2:w2.cell? ⟨w.heap.size,2,none⟩=some (.string name):=(Z A2).a2
 have a3:w2.cell? ⟨w.heap.size,3,none⟩=some (.int .i64 kd):=(Z A2).a3
 have a4:w2.cell? ⟨w.heap.size,4,none⟩=some (.int .i64 fn):=(Z A2).a4
 have a5:w2.cell? ⟨w.heap.size,5,none⟩=some (.int .i64 line):=(Z A2).a5
 have a6:w2.cell? ⟨w.heap.size,6,none⟩=some (.string sn):=(Z A2).a6
 go_wp2_with fail
 refine (Z HTK _).mono ?_
 rintro e w3 ⟨⟨b,rfl,hbT⟩,hb3⟩
 clear e0 e1 e2 e3 e4 a0 a1 a2 a3 a4 a5 a6
 have A3:=O ((Z A2).go hb3)
 have HL3:=O ((Z HL2).below hb3)
 have HX3:=O ((hb3.block _ (cJ (Z HX2))).trans (Z HX2))
 have HB3:=hT HB2 hb3
 clear hb3 A2 HL2 HX2
 cases b with
 | false =>
  have HN:Hid (¬ cL (⟨(o:Int),nn,name,⟨kd,fn,line,sn⟩⟩:Ak)):=O (fun hO=>absurd (hbT.2 hO) (by decide))
  clear hbT
  obtain ⟨⟨r0,r1,r2,r3,r4,r5⟩,x0,x1,x2,x3,x4,x5⟩:=(Z A3).rc
  go_wp2
  refine bodyPost_ret (v:=.tuple #[.agg #[.int .i64 0,.int .i64 0,.int .i64 0,.string ⟨#[]⟩,.slice none 0 0,.slice none 0 0],.iface 180 (.agg #[.int .i64 1])]) (by simp [results,Tryz.results115,go_sem,r0,r1,r2,r3,r4,r5]) rfl ?_
  exact cX (bU.notOk (Z HN)) (.inr ⟨rfl,by show (1:Int)≠0;omega,rfl⟩) (Z HL3) (Z A3) (cD _ _) (dD.nil _ _) ((Z HB3).mono hB) (bM.of_below (Z HB3)) hB
 | true =>
  have HO:Hid (cL (⟨(o:Int),nn,name,⟨kd,fn,line,sn⟩⟩:Ak)):=O (hbT.1 rfl)
  clear hbT
  have e0:w3.cell? ⟨w.heap.size+2,0,none⟩=some (.func (.func m) #[.pointer (some ⟨sb,0,none⟩)] #[]):=by rw [cell_of_row w3 _ 0 _ _ _ (Z HX3)];rfl
  have a0:w3.cell? ⟨w.heap.size,0,none⟩=some (.int .i64 (o:Int)):=by rw [cell_of_row w3 _ 0 _ _ _ (Z A3).ak];rfl
  have a1:w3.cell? ⟨w.heap.size,1,none⟩=some (.int .i64 nn):=(Z A3).a1
  have a2:w3.cell? ⟨w.heap.size,2,none⟩=some (.string name):=(Z A3).a2
  have a3:w3.cell? ⟨w.heap.size,3,none⟩=some (.int .i64 kd):=(Z A3).a3
  have a4:w3.cell? ⟨w.heap.size,4,none⟩=some (.int .i64 fn):=(Z A3).a4
  have a5:w3.cell? ⟨w.heap.size,5,none⟩=some (.int .i64 line):=(Z A3).a5
  have a6:w3.cell? ⟨w.heap.size,6,none⟩=some (.string sn):=(Z A3).a6
  go_wp2_with fail
  refine (Z HDO (Z HO) w3 (Z HB3) (Z HL3)).mono ?_
  rintro e w4 ⟨s',d,m,t,v5,v6,er,rfl,hI,hd,⟨tv',uv',hL4⟩,h5,h6,hb4,hk4⟩
  clear e0 a0 a1 a2 a3 a4 a5 a6
  obtain ⟨va,vc,rfl⟩:=bR h5
  obtain ⟨ua,uc,rfl⟩:=bR h6.row
  generalize hx:d.fr.length=ln5 at h5
  generalize hy:d.vs.length=ln6 at h6
  clear hx hy
  have A4:=O ((Z A3).same hk4)
  have H5:Hid (eA w.heap.size w4 (.slice va ln5 vc) d.fr):=O (eD h5 (Z HB3).size)
  have H6:Hid (dD w.heap.size w4 (.slice ua ln6 uc) d.vs):=O (h6.low (Z HB3).size)
  have HB4:Hid (Below B w w4):=O (((Z HB3).mono hB).trans hb4)
  have HK4:Hid (bM dB w w4):=O ((bM.of_below (Z HB3)).trans hk4)
  have HL4:=O hL4
  have HI:=O hI
  have HD:=O hd
  clear hL4 h5 h6 hb4 hk4 hI hd
  obtain ⟨⟨r0,r1,r2,r3,r4,r5⟩,x0,x1,x2,x3,x4,x5⟩:=(Z A4).rc
  go_wp2
  refine bodyPost_ret (v:=.tuple #[.agg #[.int .i64 0,.int .i64 0,.int .i64 m,.string t,.slice va ln5 vc,.slice ua ln6 uc],er]) (by simp [results,Tryz.results115,go_sem,r0,r1,r2,r3,r4,r5]) rfl ?_
  exact cX (Z HI) (Z HD) (Z HL4) (Z A4) (Z H5) (Z H6) (Z HB4) (Z HK4) hB
theorem bL4 (o m:Nat) (le mo:Int) (tn ts:Bool) (b1 b2:Nat) (B sb:Nat) (mv pv tv uv:Value) (D:Nat->Value) (n:Nat) (f:Nat->M) (s:LS) (nn:Int) (name:ByteArray) (kd fn line:Int) (sn:ByteArray) (w:World) (h:SS B w sb mv pv n f s tv uv D) (hB:B<=w.heap.size) (h1:1<=o) (h13:o<=13)
  (d0:D (5+o*5)=.func (.func m) #[] #[.pointer (some ⟨b1,0,none⟩),.pointer (some ⟨b2,0,none⟩)]) (d1:D (5+o*5+1)=.int .i64 le) (d2:D (5+o*5+2)=.int .i64 mo) (d3:D (5+o*5+3)=.bool tn) (d4:D (5+o*5+4)=.bool ts)
  (htk:∀ W,Calls Tryz.prog 158 #[.agg #[.func (.func m) #[] #[.pointer (some ⟨b1,0,none⟩),.pointer (some ⟨b2,0,none⟩)],.int .i64 le,.int .i64 mo,.bool tn,.bool ts],.agg #[.int .i64 (o:Int),.int .i64 nn,.string name,.int .i64 kd,.int .i64 fn,.int .i64 line,.string sn]] W fun e w'=>(∃ b:Bool,e=.returned (.bool b)/\(b=true↔cL (⟨(o:Int),nn,name,⟨kd,fn,line,sn⟩⟩:Ak)))/\Below W.heap.size W w')
  (hcf:∀ (args:Array Value) (w:World),Sem.run Tryz.prog (callFunc m args) w=.ok (.enter m args) w)
  (hdo:cL (⟨(o:Int),nn,name,⟨kd,fn,line,sn⟩⟩:Ak)->∀ W,Below w.heap.size w W->SS B W sb mv pv n f s tv uv D->Calls Tryz.prog m #[.agg #[.int .i64 (o:Int),.int .i64 nn,.string name,.int .i64 kd,.int .i64 fn,.int .i64 line,.string sn],.pointer (some ⟨b1,0,none⟩),.pointer (some ⟨b2,0,none⟩)] W fun e w'=>pK B sb mv pv n f D s (⟨(o:Int),nn,name,⟨kd,fn,line,sn⟩⟩:Ak) W e w') :
  Calls Tryz.prog 115 #[.pointer (some ⟨sb,0,none⟩),.agg #[.int .i64 (o:Int),.int .i64 nn,.string name,.int .i64 kd,.int .i64 fn,.int .i64 line,.string sn]] w fun e w'=>pK B sb mv pv n f D s (⟨(o:Int),nn,name,⟨kd,fn,line,sn⟩⟩:Ak) w e w':=by
 have H:=O h
 have HTK:=O htk
 have HDO:=O hdo
 have A1:=O (DB.new w (⟨(o:Int),nn,name,⟨kd,fn,line,sn⟩⟩:Ak))
 have HB1:Hid (Below w.heap.size w ((w.alloc (.cells #[.int .i64 (o:Int),.int .i64 nn,.string name,.int .i64 kd,.int .i64 fn,.int .i64 line,.string sn] 47)).alloc tz0)):=O ((bH w (.cells #[.int .i64 (o:Int),.int .i64 nn,.string name,.int .i64 kd,.int .i64 fn,.int .i64 line,.string sn] 47)).alloc (by simp) tz0)
 have H1:=O ((Z H).below (Z HB1))
 have hlt:=(Z H).lt
 have q1:decide ((o:Int)<1)=false:=decide_eq_false (by omega)
 have q2:decide ((13:Int)<(o:Int))=false:=decide_eq_false (by omega)
 have hi1:(0:Int)<=(o:Int):=by omega
 have hi2:(o:Int)<14:=by omega
 clear h htk hdo
 go_enter Tryz.func115,Tryz.ntmps115
 go_upto_region 3 with fail
 obtain ⟨w1,hw1⟩:∃ w1,w1=((w.alloc (.cells #[.int .i64 (o:Int),.int .i64 nn,.string name,.int .i64 kd,.int .i64 fn,.int .i64 line,.string sn] 47)).alloc tz0):=⟨_,rfl⟩
 have sz1:w1.heap.size=w.heap.size+2:=by rw [hw1];simp
 rw [<- hw1] at A1 HB1 H1 ⊢
 clear hw1
 have HSS:Hid (∀ W,Below w1.heap.size w1 W->W.cell? ⟨w.heap.size,0,none⟩=some (.int .i64 (o:Int))/\W.cell? ⟨sb,5+o*5,none⟩=some (.func (.func m) #[] #[.pointer (some ⟨b1,0,none⟩),.pointer (some ⟨b2,0,none⟩)])/\W.cell? ⟨sb,5+o*5+1,none⟩=some (.int .i64 le)/\W.cell? ⟨sb,5+o*5+2,none⟩=some (.int .i64 mo)/\W.cell? ⟨sb,5+o*5+3,none⟩=some (.bool tn)/\W.cell? ⟨sb,5+o*5+4,none⟩=some (.bool ts)):=O (by
  intro W hb
  have ha:=((Z A1).go hb).ak
  have hx:=((Z H1).below hb).box
  exact ⟨by rw [cell_of_row W _ 0 _ _ _ ha];rfl,by rw [<- d0];exact hx.cd _ (by omega) (by omega),by rw [<- d1];exact hx.cd _ (by omega) (by omega),by rw [<- d2];exact hx.cd _ (by omega) (by omega),by rw [<- d3];exact hx.cd _ (by omega) (by omega),by rw [<- d4];exact hx.cd _ (by omega) (by omega)⟩)
 clear d0 d1 d2 d3 d4 q1 q2
 refine wp_region_held_drew (S:=fun W=>W.cell? ⟨w.heap.size,0,none⟩=some (.int .i64 (o:Int))/\W.cell? ⟨sb,5+o*5,none⟩=some (.func (.func m) #[] #[.pointer (some ⟨b1,0,none⟩),.pointer (some ⟨b2,0,none⟩)])/\W.cell? ⟨sb,5+o*5+1,none⟩=some (.int .i64 le)/\W.cell? ⟨sb,5+o*5+2,none⟩=some (.int .i64 mo)/\W.cell? ⟨sb,5+o*5+3,none⟩=some (.bool tn)/\W.cell? ⟨sb,5+o*5+4,none⟩=some (.bool ts)) (by kernel_rfl) (Z HSS _ (Below.refl _ _).drew) (fun hHeld=>?_)
 refine tka 0 18 hHeld ?_
 refine tka 1 19 hHeld ?_
 refine tka 2 20 hHeld ?_
 refine tka 3 21 hHeld ?_
 refine tka 4 22 hHeld ?_
 refine tka 5 23 hHeld ?_
 refine tka 6 24 hHeld ?_
 refine rdy 7 fun KK hK=>?_
 go_simp
 have hba:Below w1.heap.size w1 (w1.alloc (.cells #[.nilFunc,.int .i64 0,.int .i64 0,.bool false,.bool false] 173)).drew:=(bH w1 _).drew
 refine hK.out _ _ (Z HSS _ hba) (fun hHeld=>?_)
 clear hK KK hba
 try simp only [Act.put,sy]
 refine rdy 8 fun KK hK=>?_
 go_simp
 have hb2:Below w1.heap.size w1 (w1.alloc (.cells #[.func (.func m) #[] #[.pointer (some ⟨b1,0,none⟩),.pointer (some ⟨b2,0,none⟩)],.int .i64 le,.int .i64 mo,.bool tn,.bool ts] 173)).drew:=(bH w1 _).drew
 have HX2:Hid ((w1.alloc (.cells #[.func (.func m) #[] #[.pointer (some ⟨b1,0,none⟩),.pointer (some ⟨b2,0,none⟩)],.int .i64 le,.int .i64 mo,.bool tn,.bool ts] 173)).drew.heap[w1.heap.size]?=some (.cells #[.func (.func m) #[] #[.pointer (some ⟨b1,0,none⟩),.pointer (some ⟨b2,0,none⟩)],.int .i64 le,.int .i64 mo,.bool tn,.bool ts] 173 (0,0))):=O (heap_alloc_new w1 _)
 rw [sz1] at HX2
 refine hK.out _ _ (Z HSS _ hb2) (fun hHeld=>?_)
 clear hK KK hHeld
 try simp only [Act.put,sy]
 refine wpAnyH_done (by kernel_rfl) ?_ _
 generalize hW2:(w1.alloc (.cells #[.func (.func m) #[] #[.pointer (some ⟨b1,0,none⟩),.pointer (some ⟨b2,0,none⟩)],.int .i64 le,.int .i64 mo,.bool tn,.bool ts] 173)).drew=w2 at hb2 HX2 ⊢
 clear hW2
 have A2:=O ((Z A1).go hb2)
 have HL2:=O ((Z H1).below hb2)
 have HB2:=hT HB1 hb2
 clear hb2 A1 H1 HSS
 have e0:w2.cell? ⟨w.heap.size+2,0,none⟩=some (.func (.func m) #[] #[.pointer (some ⟨b1,0,none⟩),.pointer (some ⟨b2,0,none⟩)]):=by rw [cell_of_row w2 _ 0 _ _ _ (Z HX2)];rfl
 have e1:w2.cell? ⟨w.heap.size+2,1,none⟩=some (.int .i64 le):=by rw [cell_of_row w2 _ 1 _ _ _ (Z HX2)];rfl
 have e2:w2.cell? ⟨w.heap.size+2,2,none⟩=some (.int .i64 mo):=by rw [cell_of_row w2 _ 2 _ _ _ (Z HX2)];rfl
 have e3:w2.cell? ⟨w.heap.size+2,3,none⟩=some (.bool tn):=by rw [cell_of_row w2 _ 3 _ _ _ (Z HX2)];rfl
 have e4:w2.cell? ⟨w.heap.size+2,4,none⟩=some (.bool ts):=by rw [cell_of_row w2 _ 4 _ _ _ (Z HX2)];rfl
 have a0:w2.cell? ⟨w.heap.size,0,none⟩=some (.int .i64 (o:Int)):=by rw [cell_of_row w2 _ 0 _ _ _ (Z A2).ak];rfl
 have a1:w2.cell? ⟨w.heap.size,1,none⟩=some (.int .i64 nn):=(Z A2).a1
 have a2:w2.cell? ⟨w.heap.size,2,none⟩=some (.string name):=(Z A2).a2
 have a3:w2.cell? ⟨w.heap.size,3,none⟩=some (.int .i64 kd):=(Z A2).a3
 have a4:w2.cell? ⟨w.heap.size,4,none⟩=some (.int .i64 fn):=(Z A2).a4
 have a5:w2.cell? ⟨w.heap.size,5,none⟩=some (.int .i64 line):=(Z A2).a5
 have a6:w2.cell? ⟨w.heap.size,6,none⟩=some (.string sn):=(Z A2).a6
 go_wp2_with fail
 refine (Z HTK _).mono ?_
 rintro e w3 ⟨⟨b,rfl,hbT⟩,hb3⟩
 clear e0 e1 e2 e3 e4 a0 a1 a2 a3 a4 a5 a6
 have A3:=O ((Z A2).go hb3)
 have HL3:=O ((Z HL2).below hb3)
 have HX3:=O ((hb3.block _ (cJ (Z HX2))).trans (Z HX2))
 have HB3:=hT HB2 hb3
 clear hb3 A2 HL2 HX2
 cases b with
 | false =>
  have HN:Hid (¬ cL (⟨(o:Int),nn,name,⟨kd,fn,line,sn⟩⟩:Ak)):=O (fun hO=>absurd (hbT.2 hO) (by decide))
  clear hbT
  obtain ⟨⟨r0,r1,r2,r3,r4,r5⟩,x0,x1,x2,x3,x4,x5⟩:=(Z A3).rc
  go_wp2
  refine bodyPost_ret (v:=.tuple #[.agg #[.int .i64 0,.int .i64 0,.int .i64 0,.string ⟨#[]⟩,.slice none 0 0,.slice none 0 0],.iface 180 (.agg #[.int .i64 1])]) (by simp [results,Tryz.results115,go_sem,r0,r1,r2,r3,r4,r5]) rfl ?_
  exact cX (bU.notOk (Z HN)) (.inr ⟨rfl,by show (1:Int)≠0;omega,rfl⟩) (Z HL3) (Z A3) (cD _ _) (dD.nil _ _) ((Z HB3).mono hB) (bM.of_below (Z HB3)) hB
 | true =>
  have HO:Hid (cL (⟨(o:Int),nn,name,⟨kd,fn,line,sn⟩⟩:Ak)):=O (hbT.1 rfl)
  clear hbT
  have e0:w3.cell? ⟨w.heap.size+2,0,none⟩=some (.func (.func m) #[] #[.pointer (some ⟨b1,0,none⟩),.pointer (some ⟨b2,0,none⟩)]):=by rw [cell_of_row w3 _ 0 _ _ _ (Z HX3)];rfl
  have a0:w3.cell? ⟨w.heap.size,0,none⟩=some (.int .i64 (o:Int)):=by rw [cell_of_row w3 _ 0 _ _ _ (Z A3).ak];rfl
  have a1:w3.cell? ⟨w.heap.size,1,none⟩=some (.int .i64 nn):=(Z A3).a1
  have a2:w3.cell? ⟨w.heap.size,2,none⟩=some (.string name):=(Z A3).a2
  have a3:w3.cell? ⟨w.heap.size,3,none⟩=some (.int .i64 kd):=(Z A3).a3
  have a4:w3.cell? ⟨w.heap.size,4,none⟩=some (.int .i64 fn):=(Z A3).a4
  have a5:w3.cell? ⟨w.heap.size,5,none⟩=some (.int .i64 line):=(Z A3).a5
  have a6:w3.cell? ⟨w.heap.size,6,none⟩=some (.string sn):=(Z A3).a6
  go_wp2_with fail
  refine (Z HDO (Z HO) w3 (Z HB3) (Z HL3)).mono ?_
  rintro e w4 ⟨s',d,m,t,v5,v6,er,rfl,hI,hd,⟨tv',uv',hL4⟩,h5,h6,hb4,hk4⟩
  clear e0 a0 a1 a2 a3 a4 a5 a6
  obtain ⟨va,vc,rfl⟩:=bR h5
  obtain ⟨ua,uc,rfl⟩:=bR h6.row
  generalize hx:d.fr.length=ln5 at h5
  generalize hy:d.vs.length=ln6 at h6
  clear hx hy
  have A4:=O ((Z A3).same hk4)
  have H5:Hid (eA w.heap.size w4 (.slice va ln5 vc) d.fr):=O (eD h5 (Z HB3).size)
  have H6:Hid (dD w.heap.size w4 (.slice ua ln6 uc) d.vs):=O (h6.low (Z HB3).size)
  have HB4:Hid (Below B w w4):=O (((Z HB3).mono hB).trans hb4)
  have HK4:Hid (bM dB w w4):=O ((bM.of_below (Z HB3)).trans hk4)
  have HL4:=O hL4
  have HI:=O hI
  have HD:=O hd
  clear hL4 h5 h6 hb4 hk4 hI hd
  obtain ⟨⟨r0,r1,r2,r3,r4,r5⟩,x0,x1,x2,x3,x4,x5⟩:=(Z A4).rc
  go_wp2
  refine bodyPost_ret (v:=.tuple #[.agg #[.int .i64 0,.int .i64 0,.int .i64 m,.string t,.slice va ln5 vc,.slice ua ln6 uc],er]) (by simp [results,Tryz.results115,go_sem,r0,r1,r2,r3,r4,r5]) rfl ?_
  exact cX (Z HI) (Z HD) (Z HL4) (Z A4) (Z H5) (Z H6) (Z HB4) (Z HK4) hB
end
section
attribute [local go_sem] Oper.semAt_some
theorem bL5 (B sb lo lp:Nat) (mv pv tv uv:Value) (D:Nat->Value) (nf:Nat) (fns:Nat->ByteArray) (n:Nat) (f:Nat->M) (s:LS) (nn:Int) (name:ByteArray) (kd fn line:Int) (sn:ByteArray) (w:World) (h:SS B w sb mv pv n f s tv uv D) (h2:∀ W,Below B w W->bQ lo W mv n f) (hp:∀ W,Below B w W->bW lp W pv n f) (hs:cB nf fns n f) (hok:gF n s) (hpl:s.past.length<=10000) (hB:B<=w.heap.size) (ho:cL (⟨13,nn,name,⟨kd,fn,line,sn⟩⟩:Ak)) :
  Calls Tryz.prog 114 #[.pointer (some ⟨sb,0,none⟩),.agg #[.int .i64 13,.int .i64 nn,.string name,.int .i64 kd,.int .i64 fn,.int .i64 line,.string sn]] w fun e w'=>pK B sb mv pv n f D s (⟨13,nn,name,⟨kd,fn,line,sn⟩⟩:Ak) w e w':=by
 by_cases hge:(s.stops.length:Int)<=nn
 ·exact bL2 B sb lo lp mv pv tv uv D nf fns n f s nn name kd fn line sn w h h2 hp hs hok hpl hB ho hge
 exact bP3 B sb lo lp mv pv tv uv D nf fns n f s nn name kd fn line sn w h h2 hp hs hok hpl hB ho hge
end
end Go.Proofs.YtmnmeaeicjhkhaaGreatDoor
