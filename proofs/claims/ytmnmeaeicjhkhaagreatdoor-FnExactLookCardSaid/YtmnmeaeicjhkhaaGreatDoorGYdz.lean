import Derived.Test.YtmnmeaeicjhkhaaGreatDoorGYaz
import Derived.Test.YtmnmeaeicjhkhaaGreatDoorGYbz
import Derived.Test.YtmnmeaeicjhkhaaGreatDoorGYcz
set_option maxRecDepth 100000
set_option maxHeartbeats 16000000
namespace Go.Proofs.YtmnmeaeicjhkhaaGreatDoor
open Go.RowKit Go.Shelf
attribute [local go_sem] Oper.semAt_some
theorem SBox.cd {W:World} {sb:Nat} {mv pv tv uv:Value} {k:Int} {D:Nat→Value} (h:SBox W sb mv pv k tv uv D) (j:Nat) (h5:5≤j) (h75:j < 75):W.cell? ⟨sb,j,none⟩=some (D j):=by
 obtain ⟨cs,hh,-,-,-,-,-,-,hd⟩:=h
 rw [cell_of_row W _ j _ _ _ hh];exact hd j h5 h75
theorem tryM_any (o m:Nat) (le mo:Int) (tn ts:Bool) (B sb:Nat) (mv pv tv uv:Value) (D:Nat→Value) (n:Nat) (f:Nat→M) (s:LS) (nn:Int) (name:ByteArray) (kd fn line:Int) (sn:ByteArray) (w:World) (h:SS B w sb mv pv n f s tv uv D) (hB:B≤w.heap.size) (h1:1≤o) (h13:o≤13)
  (d0:D (5 + o * 5)=.func (.func m) #[.pointer (some ⟨sb,0,none⟩)] #[]) (d1:D (5 + o * 5 + 1)=.int .i64 le) (d2:D (5 + o * 5 + 2)=.int .i64 mo) (d3:D (5 + o * 5 + 3)=.bool tn) (d4:D (5 + o * 5 + 4)=.bool ts)
  (htk:∀ W,Calls Tryz.prog 158 #[.agg #[.func (.func m) #[.pointer (some ⟨sb,0,none⟩)] #[],.int .i64 le,.int .i64 mo,.bool tn,.bool ts],.agg #[.int .i64 (o:Int),.int .i64 nn,.string name,.int .i64 kd,.int .i64 fn,.int .i64 line,.string sn]] W fun e w'=>(∃ b:Bool,e=.returned (.bool b)∧(b=true ↔ OkAsk (⟨(o:Int),nn,name,⟨kd,fn,line,sn⟩⟩:Ak)))∧Below W.heap.size W w')
  (hcf:∀ (args:Array Value) (w:World),Sem.run Tryz.prog (callFunc m args) w=.ok (.enter m args) w)
  (hdo:OkAsk (⟨(o:Int),nn,name,⟨kd,fn,line,sn⟩⟩:Ak)→∀ W,Below w.heap.size w W→SS B W sb mv pv n f s tv uv D→Calls Tryz.prog m #[.pointer (some ⟨sb,0,none⟩),.agg #[.int .i64 (o:Int),.int .i64 nn,.string name,.int .i64 kd,.int .i64 fn,.int .i64 line,.string sn]] W fun e w'=>DSay B sb mv pv n f D s (⟨(o:Int),nn,name,⟨kd,fn,line,sn⟩⟩:Ak) W e w') :
  Calls Tryz.prog 115 #[.pointer (some ⟨sb,0,none⟩),.agg #[.int .i64 (o:Int),.int .i64 nn,.string name,.int .i64 kd,.int .i64 fn,.int .i64 line,.string sn]] w fun e w'=>DSay B sb mv pv n f D s (⟨(o:Int),nn,name,⟨kd,fn,line,sn⟩⟩:Ak) w e w':=by
 have H:=hide h
 have HTK:=hide htk
 have HDO:=hide hdo
 have A1:=hide (DB.new w (⟨(o:Int),nn,name,⟨kd,fn,line,sn⟩⟩:Ak))
 have HB1:Hid (Below w.heap.size w ((w.alloc (.cells #[.int .i64 (o:Int),.int .i64 nn,.string name,.int .i64 kd,.int .i64 fn,.int .i64 line,.string sn] 47)).alloc (.cells #[.int .i64 0,.int .i64 0,.int .i64 0,.string ⟨#[]⟩,.slice none 0 0,.slice none 0 0] 38))):=hide ((below_new w (.cells #[.int .i64 (o:Int),.int .i64 nn,.string name,.int .i64 kd,.int .i64 fn,.int .i64 line,.string sn] 47)).alloc (by simp) (.cells #[.int .i64 0,.int .i64 0,.int .i64 0,.string ⟨#[]⟩,.slice none 0 0,.slice none 0 0] 38))
 have H1:=hide ((uh H).below (uh HB1))
 have hlt:=(uh H).lt
 have q1:decide ((o:Int) < 1)=false:=decide_eq_false (by omega)
 have q2:decide ((13:Int) < (o:Int))=false:=decide_eq_false (by omega)
 have hi1:(0:Int)≤(o:Int):=by omega
 have hi2:(o:Int) < 14:=by omega
 clear h htk hdo
 go_enter Tryz.func115,Tryz.ntmps115
 go_upto_region 3 with fail
 obtain ⟨w1,hw1⟩:∃ w1,w1=((w.alloc (.cells #[.int .i64 (o:Int),.int .i64 nn,.string name,.int .i64 kd,.int .i64 fn,.int .i64 line,.string sn] 47)).alloc (.cells #[.int .i64 0,.int .i64 0,.int .i64 0,.string ⟨#[]⟩,.slice none 0 0,.slice none 0 0] 38)):=⟨_,rfl⟩
 have sz1:w1.heap.size=w.heap.size + 2:=by rw [hw1];simp
 rw [← hw1] at A1 HB1 H1 ⊢
 clear hw1
 have HSS:Hid (∀ W,Below w1.heap.size w1 W→W.cell? ⟨w.heap.size,0,none⟩=some (.int .i64 (o:Int))∧W.cell? ⟨sb,5 + o * 5,none⟩=some (.func (.func m) #[.pointer (some ⟨sb,0,none⟩)] #[])∧W.cell? ⟨sb,5 + o * 5 + 1,none⟩=some (.int .i64 le)∧W.cell? ⟨sb,5 + o * 5 + 2,none⟩=some (.int .i64 mo)∧W.cell? ⟨sb,5 + o * 5 + 3,none⟩=some (.bool tn)∧W.cell? ⟨sb,5 + o * 5 + 4,none⟩=some (.bool ts)):=hide (by
  intro W hb
  have ha:=((uh A1).go hb).ak
  have hx:=((uh H1).below hb).box
  exact ⟨by rw [cell_of_row W _ 0 _ _ _ ha];rfl,by rw [← d0];exact hx.cd _ (by omega) (by omega),by rw [← d1];exact hx.cd _ (by omega) (by omega),by rw [← d2];exact hx.cd _ (by omega) (by omega),by rw [← d3];exact hx.cd _ (by omega) (by omega),by rw [← d4];exact hx.cd _ (by omega) (by omega)⟩)
 clear d0 d1 d2 d3 d4 q1 q2
 refine wp_region_held_drew (S:=fun W=>W.cell? ⟨w.heap.size,0,none⟩=some (.int .i64 (o:Int))∧W.cell? ⟨sb,5 + o * 5,none⟩=some (.func (.func m) #[.pointer (some ⟨sb,0,none⟩)] #[])∧W.cell? ⟨sb,5 + o * 5 + 1,none⟩=some (.int .i64 le)∧W.cell? ⟨sb,5 + o * 5 + 2,none⟩=some (.int .i64 mo)∧W.cell? ⟨sb,5 + o * 5 + 3,none⟩=some (.bool tn)∧W.cell? ⟨sb,5 + o * 5 + 4,none⟩=some (.bool ts)) (by kernel_rfl) (uh HSS _ (Below.refl _ _).drew) (fun hHeld=>?_)
 refine tka 0 18 ?hy0a hHeld ?r0a (v:=?v0a)
 case hy0a=>intro wx hSw;obtain ⟨s0,s1,s2,s3,s4,s5⟩:=hSw;go_simp;with_reducible rfl
 simp only [Act.put,sx1,sx2,sx3]
 refine tka 1 19 ?hy1a hHeld ?r1a (v:=?v1a)
 case hy1a=>intro wx hSw;obtain ⟨s0,s1,s2,s3,s4,s5⟩:=hSw;go_simp;with_reducible rfl
 simp only [Act.put,sx1,sx2,sx3]
 refine tka 2 20 ?hy2a hHeld ?r2a (v:=?v2a)
 case hy2a=>intro wx hSw;obtain ⟨s0,s1,s2,s3,s4,s5⟩:=hSw;go_simp;with_reducible rfl
 simp only [Act.put,sx1,sx2,sx3]
 refine tka 3 21 ?hy3a hHeld ?r3a (v:=?v3a)
 case hy3a=>intro wx hSw;obtain ⟨s0,s1,s2,s3,s4,s5⟩:=hSw;go_simp;with_reducible rfl
 simp only [Act.put,sx1,sx2,sx3]
 refine tka 4 22 ?hy4a hHeld ?r4a (v:=?v4a)
 case hy4a=>intro wx hSw;obtain ⟨s0,s1,s2,s3,s4,s5⟩:=hSw;go_simp;with_reducible rfl
 simp only [Act.put,sx1,sx2,sx3]
 refine tka 5 23 ?hy5a hHeld ?r5a (v:=?v5a)
 case hy5a=>intro wx hSw;obtain ⟨s0,s1,s2,s3,s4,s5⟩:=hSw;go_simp;with_reducible rfl
 simp only [Act.put,sx1,sx2,sx3]
 refine tka 6 24 ?hy6a hHeld ?r6a (v:=?v6a)
 case hy6a=>intro wx hSw;obtain ⟨s0,s1,s2,s3,s4,s5⟩:=hSw;go_simp;with_reducible rfl
 simp only [Act.put,sx1,sx2,sx3]
 refine wpAnyH_ready (rs:=[7]) (by kernel_rfl) (by simp) ?_
 refine AllReadyH.cons rfl (fun KK hK=>?_) AllReadyH.nil
 go_simp
 have hba:Below w1.heap.size w1 (w1.alloc (.cells #[.nilFunc,.int .i64 0,.int .i64 0,.bool false,.bool false] 173)).drew:=(below_new w1 _).drew
 refine hK.out _ _ (uh HSS _ hba) (fun hHeld=>?_)
 clear hK KK hba
 try simp only [Act.put,sx1,sx4,sx5,sx6,sx2,sx3]
 refine wpAnyH_ready (rs:=[8]) (by kernel_rfl) (by simp) ?_
 refine AllReadyH.cons rfl (fun KK hK=>?_) AllReadyH.nil
 go_simp
 have hb2:Below w1.heap.size w1 (w1.alloc (.cells #[.func (.func m) #[.pointer (some ⟨sb,0,none⟩)] #[],.int .i64 le,.int .i64 mo,.bool tn,.bool ts] 173)).drew:=(below_new w1 _).drew
 have HX2:Hid ((w1.alloc (.cells #[.func (.func m) #[.pointer (some ⟨sb,0,none⟩)] #[],.int .i64 le,.int .i64 mo,.bool tn,.bool ts] 173)).drew.heap[w1.heap.size]?=some (.cells #[.func (.func m) #[.pointer (some ⟨sb,0,none⟩)] #[],.int .i64 le,.int .i64 mo,.bool tn,.bool ts] 173 (0,0))):=hide (heap_alloc_new w1 _)
 rw [sz1] at HX2
 refine hK.out _ _ (uh HSS _ hb2) (fun hHeld=>?_)
 clear hK KK hHeld
 try simp only [Act.put,sx1,sx4,sx5,sx6,sx2,sx3]
 refine wpAnyH_done (by kernel_rfl) ?_ _
 generalize hW2:(w1.alloc (.cells #[.func (.func m) #[.pointer (some ⟨sb,0,none⟩)] #[],.int .i64 le,.int .i64 mo,.bool tn,.bool ts] 173)).drew=w2 at hb2 HX2 ⊢
 clear hW2
 have A2:=hide ((uh A1).go hb2)
 have HL2:=hide ((uh H1).below hb2)
 have HB2:=hide ((uh HB1).trans (hb2.mono (uh HB1).size))
 clear hb2 A1 H1 HSS
 have e0:w2.cell? ⟨w.heap.size + 2,0,none⟩=some (.func (.func m) #[.pointer (some ⟨sb,0,none⟩)] #[]):=by rw [cell_of_row w2 _ 0 _ _ _ (uh HX2)];rfl
 have e1:w2.cell? ⟨w.heap.size + 2,1,none⟩=some (.int .i64 le):=by rw [cell_of_row w2 _ 1 _ _ _ (uh HX2)];rfl
 have e2:w2.cell? ⟨w.heap.size + 2,2,none⟩=some (.int .i64 mo):=by rw [cell_of_row w2 _ 2 _ _ _ (uh HX2)];rfl
 have e3:w2.cell? ⟨w.heap.size + 2,3,none⟩=some (.bool tn):=by rw [cell_of_row w2 _ 3 _ _ _ (uh HX2)];rfl
 have e4:w2.cell? ⟨w.heap.size + 2,4,none⟩=some (.bool ts):=by rw [cell_of_row w2 _ 4 _ _ _ (uh HX2)];rfl
 have a0:w2.cell? ⟨w.heap.size,0,none⟩=some (.int .i64 (o:Int)):=by rw [cell_of_row w2 _ 0 _ _ _ (uh A2).ak];rfl
 have a1:w2.cell? ⟨w.heap.size,1,none⟩=some (.int .i64 nn):=(uh A2).a1
 have a2:w2.cell? ⟨w.heap.size,2,none⟩=some (.string name):=(uh A2).a2
 have a3:w2.cell? ⟨w.heap.size,3,none⟩=some (.int .i64 kd):=(uh A2).a3
 have a4:w2.cell? ⟨w.heap.size,4,none⟩=some (.int .i64 fn):=(uh A2).a4
 have a5:w2.cell? ⟨w.heap.size,5,none⟩=some (.int .i64 line):=(uh A2).a5
 have a6:w2.cell? ⟨w.heap.size,6,none⟩=some (.string sn):=(uh A2).a6
 go_wp2_with fail
 refine (uh HTK _).mono ?_
 rintro e w3 ⟨⟨b,rfl,hbT⟩,hb3⟩
 clear e0 e1 e2 e3 e4 a0 a1 a2 a3 a4 a5 a6
 have A3:=hide ((uh A2).go hb3)
 have HL3:=hide ((uh HL2).below hb3)
 have HX3:=hide ((hb3.block _ (heap_ltx (uh HX2))).trans (uh HX2))
 have HB3:=hide ((uh HB2).trans (hb3.mono (uh HB2).size))
 clear hb3 A2 HL2 HX2
 cases b with
 | false =>
  have HN:Hid (¬ OkAsk (⟨(o:Int),nn,name,⟨kd,fn,line,sn⟩⟩:Ak)):=hide (fun hO=>absurd (hbT.2 hO) (by decide))
  clear hbT
  obtain ⟨⟨r0,r1,r2,r3,r4,r5⟩,x0,x1,x2,x3,x4,x5⟩:=(uh A3).rc
  go_wp2
  refine bodyPost_ret (v:=.tuple #[.agg #[.int .i64 0,.int .i64 0,.int .i64 0,.string ⟨#[]⟩,.slice none 0 0,.slice none 0 0],.iface 180 (.agg #[.int .i64 1])]) (by simp [results,Tryz.results115,go_sem,r0,r1,r2,r3,r4,r5]) rfl ?_
  exact dsay_end (AskIs.notOk (uh HN)) (.inr ⟨rfl,by show (1:Int) ≠ 0;omega,rfl⟩) (uh HL3) (uh A3) (frs_nil _ _) (VsAt.nil _ _) ((uh HB3).mono hB) (Same.of_below (uh HB3)) hB
 | true =>
  have HO:Hid (OkAsk (⟨(o:Int),nn,name,⟨kd,fn,line,sn⟩⟩:Ak)):=hide (hbT.1 rfl)
  clear hbT
  have e0:w3.cell? ⟨w.heap.size + 2,0,none⟩=some (.func (.func m) #[.pointer (some ⟨sb,0,none⟩)] #[]):=by rw [cell_of_row w3 _ 0 _ _ _ (uh HX3)];rfl
  have a0:w3.cell? ⟨w.heap.size,0,none⟩=some (.int .i64 (o:Int)):=by rw [cell_of_row w3 _ 0 _ _ _ (uh A3).ak];rfl
  have a1:w3.cell? ⟨w.heap.size,1,none⟩=some (.int .i64 nn):=(uh A3).a1
  have a2:w3.cell? ⟨w.heap.size,2,none⟩=some (.string name):=(uh A3).a2
  have a3:w3.cell? ⟨w.heap.size,3,none⟩=some (.int .i64 kd):=(uh A3).a3
  have a4:w3.cell? ⟨w.heap.size,4,none⟩=some (.int .i64 fn):=(uh A3).a4
  have a5:w3.cell? ⟨w.heap.size,5,none⟩=some (.int .i64 line):=(uh A3).a5
  have a6:w3.cell? ⟨w.heap.size,6,none⟩=some (.string sn):=(uh A3).a6
  go_wp2_with fail
  refine (uh HDO (uh HO) w3 (uh HB3) (uh HL3)).mono ?_
  rintro e w4 ⟨s',d,m,t,v5,v6,er,rfl,hI,hd,⟨tv',uv',hL4⟩,h5,h6,hb4,hk4⟩
  clear e0 a0 a1 a2 a3 a4 a5 a6
  obtain ⟨va,vc,rfl⟩:=owns_slice h5
  obtain ⟨ua,uc,rfl⟩:=owns_slice h6.row
  generalize hx:d.fr.length=ln5 at h5
  generalize hy:d.vs.length=ln6 at h6
  clear hx hy
  have A4:=hide ((uh A3).same hk4)
  have H5:Hid (FrsAt w.heap.size w4 (.slice va ln5 vc) d.fr):=hide (owns_low h5 (uh HB3).size)
  have H6:Hid (VsAt w.heap.size w4 (.slice ua ln6 uc) d.vs):=hide (h6.low (uh HB3).size)
  have HB4:Hid (Below B w w4):=hide (((uh HB3).mono hB).trans hb4)
  have HK4:Hid (Same KindS w w4):=hide ((Same.of_below (uh HB3)).trans hk4)
  have HL4:=hide hL4
  have HI:=hide hI
  have HD:=hide hd
  clear hL4 h5 h6 hb4 hk4 hI hd
  obtain ⟨⟨r0,r1,r2,r3,r4,r5⟩,x0,x1,x2,x3,x4,x5⟩:=(uh A4).rc
  go_wp2
  refine bodyPost_ret (v:=.tuple #[.agg #[.int .i64 0,.int .i64 0,.int .i64 m,.string t,.slice va ln5 vc,.slice ua ln6 uc],er]) (by simp [results,Tryz.results115,go_sem,r0,r1,r2,r3,r4,r5]) rfl ?_
  exact dsay_end (uh HI) (uh HD) (uh HL4) (uh A4) (uh H5) (uh H6) (uh HB4) (uh HK4) hB
theorem tryC_any (o m:Nat) (le mo:Int) (tn ts:Bool) (b1 b2:Nat) (B sb:Nat) (mv pv tv uv:Value) (D:Nat→Value) (n:Nat) (f:Nat→M) (s:LS) (nn:Int) (name:ByteArray) (kd fn line:Int) (sn:ByteArray) (w:World) (h:SS B w sb mv pv n f s tv uv D) (hB:B≤w.heap.size) (h1:1≤o) (h13:o≤13)
  (d0:D (5 + o * 5)=.func (.func m) #[] #[.pointer (some ⟨b1,0,none⟩),.pointer (some ⟨b2,0,none⟩)]) (d1:D (5 + o * 5 + 1)=.int .i64 le) (d2:D (5 + o * 5 + 2)=.int .i64 mo) (d3:D (5 + o * 5 + 3)=.bool tn) (d4:D (5 + o * 5 + 4)=.bool ts)
  (htk:∀ W,Calls Tryz.prog 158 #[.agg #[.func (.func m) #[] #[.pointer (some ⟨b1,0,none⟩),.pointer (some ⟨b2,0,none⟩)],.int .i64 le,.int .i64 mo,.bool tn,.bool ts],.agg #[.int .i64 (o:Int),.int .i64 nn,.string name,.int .i64 kd,.int .i64 fn,.int .i64 line,.string sn]] W fun e w'=>(∃ b:Bool,e=.returned (.bool b)∧(b=true ↔ OkAsk (⟨(o:Int),nn,name,⟨kd,fn,line,sn⟩⟩:Ak)))∧Below W.heap.size W w')
  (hcf:∀ (args:Array Value) (w:World),Sem.run Tryz.prog (callFunc m args) w=.ok (.enter m args) w)
  (hdo:OkAsk (⟨(o:Int),nn,name,⟨kd,fn,line,sn⟩⟩:Ak)→∀ W,Below w.heap.size w W→SS B W sb mv pv n f s tv uv D→Calls Tryz.prog m #[.agg #[.int .i64 (o:Int),.int .i64 nn,.string name,.int .i64 kd,.int .i64 fn,.int .i64 line,.string sn],.pointer (some ⟨b1,0,none⟩),.pointer (some ⟨b2,0,none⟩)] W fun e w'=>DSay B sb mv pv n f D s (⟨(o:Int),nn,name,⟨kd,fn,line,sn⟩⟩:Ak) W e w') :
  Calls Tryz.prog 115 #[.pointer (some ⟨sb,0,none⟩),.agg #[.int .i64 (o:Int),.int .i64 nn,.string name,.int .i64 kd,.int .i64 fn,.int .i64 line,.string sn]] w fun e w'=>DSay B sb mv pv n f D s (⟨(o:Int),nn,name,⟨kd,fn,line,sn⟩⟩:Ak) w e w':=by
 have H:=hide h
 have HTK:=hide htk
 have HDO:=hide hdo
 have A1:=hide (DB.new w (⟨(o:Int),nn,name,⟨kd,fn,line,sn⟩⟩:Ak))
 have HB1:Hid (Below w.heap.size w ((w.alloc (.cells #[.int .i64 (o:Int),.int .i64 nn,.string name,.int .i64 kd,.int .i64 fn,.int .i64 line,.string sn] 47)).alloc (.cells #[.int .i64 0,.int .i64 0,.int .i64 0,.string ⟨#[]⟩,.slice none 0 0,.slice none 0 0] 38))):=hide ((below_new w (.cells #[.int .i64 (o:Int),.int .i64 nn,.string name,.int .i64 kd,.int .i64 fn,.int .i64 line,.string sn] 47)).alloc (by simp) (.cells #[.int .i64 0,.int .i64 0,.int .i64 0,.string ⟨#[]⟩,.slice none 0 0,.slice none 0 0] 38))
 have H1:=hide ((uh H).below (uh HB1))
 have hlt:=(uh H).lt
 have q1:decide ((o:Int) < 1)=false:=decide_eq_false (by omega)
 have q2:decide ((13:Int) < (o:Int))=false:=decide_eq_false (by omega)
 have hi1:(0:Int)≤(o:Int):=by omega
 have hi2:(o:Int) < 14:=by omega
 clear h htk hdo
 go_enter Tryz.func115,Tryz.ntmps115
 go_upto_region 3 with fail
 obtain ⟨w1,hw1⟩:∃ w1,w1=((w.alloc (.cells #[.int .i64 (o:Int),.int .i64 nn,.string name,.int .i64 kd,.int .i64 fn,.int .i64 line,.string sn] 47)).alloc (.cells #[.int .i64 0,.int .i64 0,.int .i64 0,.string ⟨#[]⟩,.slice none 0 0,.slice none 0 0] 38)):=⟨_,rfl⟩
 have sz1:w1.heap.size=w.heap.size + 2:=by rw [hw1];simp
 rw [← hw1] at A1 HB1 H1 ⊢
 clear hw1
 have HSS:Hid (∀ W,Below w1.heap.size w1 W→W.cell? ⟨w.heap.size,0,none⟩=some (.int .i64 (o:Int))∧W.cell? ⟨sb,5 + o * 5,none⟩=some (.func (.func m) #[] #[.pointer (some ⟨b1,0,none⟩),.pointer (some ⟨b2,0,none⟩)])∧W.cell? ⟨sb,5 + o * 5 + 1,none⟩=some (.int .i64 le)∧W.cell? ⟨sb,5 + o * 5 + 2,none⟩=some (.int .i64 mo)∧W.cell? ⟨sb,5 + o * 5 + 3,none⟩=some (.bool tn)∧W.cell? ⟨sb,5 + o * 5 + 4,none⟩=some (.bool ts)):=hide (by
  intro W hb
  have ha:=((uh A1).go hb).ak
  have hx:=((uh H1).below hb).box
  exact ⟨by rw [cell_of_row W _ 0 _ _ _ ha];rfl,by rw [← d0];exact hx.cd _ (by omega) (by omega),by rw [← d1];exact hx.cd _ (by omega) (by omega),by rw [← d2];exact hx.cd _ (by omega) (by omega),by rw [← d3];exact hx.cd _ (by omega) (by omega),by rw [← d4];exact hx.cd _ (by omega) (by omega)⟩)
 clear d0 d1 d2 d3 d4 q1 q2
 refine wp_region_held_drew (S:=fun W=>W.cell? ⟨w.heap.size,0,none⟩=some (.int .i64 (o:Int))∧W.cell? ⟨sb,5 + o * 5,none⟩=some (.func (.func m) #[] #[.pointer (some ⟨b1,0,none⟩),.pointer (some ⟨b2,0,none⟩)])∧W.cell? ⟨sb,5 + o * 5 + 1,none⟩=some (.int .i64 le)∧W.cell? ⟨sb,5 + o * 5 + 2,none⟩=some (.int .i64 mo)∧W.cell? ⟨sb,5 + o * 5 + 3,none⟩=some (.bool tn)∧W.cell? ⟨sb,5 + o * 5 + 4,none⟩=some (.bool ts)) (by kernel_rfl) (uh HSS _ (Below.refl _ _).drew) (fun hHeld=>?_)
 refine tka 0 18 ?hy0a hHeld ?r0a (v:=?v0a)
 case hy0a=>intro wx hSw;obtain ⟨s0,s1,s2,s3,s4,s5⟩:=hSw;go_simp;with_reducible rfl
 simp only [Act.put,sx1,sx2,sx3]
 refine tka 1 19 ?hy1a hHeld ?r1a (v:=?v1a)
 case hy1a=>intro wx hSw;obtain ⟨s0,s1,s2,s3,s4,s5⟩:=hSw;go_simp;with_reducible rfl
 simp only [Act.put,sx1,sx2,sx3]
 refine tka 2 20 ?hy2a hHeld ?r2a (v:=?v2a)
 case hy2a=>intro wx hSw;obtain ⟨s0,s1,s2,s3,s4,s5⟩:=hSw;go_simp;with_reducible rfl
 simp only [Act.put,sx1,sx2,sx3]
 refine tka 3 21 ?hy3a hHeld ?r3a (v:=?v3a)
 case hy3a=>intro wx hSw;obtain ⟨s0,s1,s2,s3,s4,s5⟩:=hSw;go_simp;with_reducible rfl
 simp only [Act.put,sx1,sx2,sx3]
 refine tka 4 22 ?hy4a hHeld ?r4a (v:=?v4a)
 case hy4a=>intro wx hSw;obtain ⟨s0,s1,s2,s3,s4,s5⟩:=hSw;go_simp;with_reducible rfl
 simp only [Act.put,sx1,sx2,sx3]
 refine tka 5 23 ?hy5a hHeld ?r5a (v:=?v5a)
 case hy5a=>intro wx hSw;obtain ⟨s0,s1,s2,s3,s4,s5⟩:=hSw;go_simp;with_reducible rfl
 simp only [Act.put,sx1,sx2,sx3]
 refine tka 6 24 ?hy6a hHeld ?r6a (v:=?v6a)
 case hy6a=>intro wx hSw;obtain ⟨s0,s1,s2,s3,s4,s5⟩:=hSw;go_simp;with_reducible rfl
 simp only [Act.put,sx1,sx2,sx3]
 refine wpAnyH_ready (rs:=[7]) (by kernel_rfl) (by simp) ?_
 refine AllReadyH.cons rfl (fun KK hK=>?_) AllReadyH.nil
 go_simp
 have hba:Below w1.heap.size w1 (w1.alloc (.cells #[.nilFunc,.int .i64 0,.int .i64 0,.bool false,.bool false] 173)).drew:=(below_new w1 _).drew
 refine hK.out _ _ (uh HSS _ hba) (fun hHeld=>?_)
 clear hK KK hba
 try simp only [Act.put,sx1,sx4,sx5,sx6,sx2,sx3]
 refine wpAnyH_ready (rs:=[8]) (by kernel_rfl) (by simp) ?_
 refine AllReadyH.cons rfl (fun KK hK=>?_) AllReadyH.nil
 go_simp
 have hb2:Below w1.heap.size w1 (w1.alloc (.cells #[.func (.func m) #[] #[.pointer (some ⟨b1,0,none⟩),.pointer (some ⟨b2,0,none⟩)],.int .i64 le,.int .i64 mo,.bool tn,.bool ts] 173)).drew:=(below_new w1 _).drew
 have HX2:Hid ((w1.alloc (.cells #[.func (.func m) #[] #[.pointer (some ⟨b1,0,none⟩),.pointer (some ⟨b2,0,none⟩)],.int .i64 le,.int .i64 mo,.bool tn,.bool ts] 173)).drew.heap[w1.heap.size]?=some (.cells #[.func (.func m) #[] #[.pointer (some ⟨b1,0,none⟩),.pointer (some ⟨b2,0,none⟩)],.int .i64 le,.int .i64 mo,.bool tn,.bool ts] 173 (0,0))):=hide (heap_alloc_new w1 _)
 rw [sz1] at HX2
 refine hK.out _ _ (uh HSS _ hb2) (fun hHeld=>?_)
 clear hK KK hHeld
 try simp only [Act.put,sx1,sx4,sx5,sx6,sx2,sx3]
 refine wpAnyH_done (by kernel_rfl) ?_ _
 generalize hW2:(w1.alloc (.cells #[.func (.func m) #[] #[.pointer (some ⟨b1,0,none⟩),.pointer (some ⟨b2,0,none⟩)],.int .i64 le,.int .i64 mo,.bool tn,.bool ts] 173)).drew=w2 at hb2 HX2 ⊢
 clear hW2
 have A2:=hide ((uh A1).go hb2)
 have HL2:=hide ((uh H1).below hb2)
 have HB2:=hide ((uh HB1).trans (hb2.mono (uh HB1).size))
 clear hb2 A1 H1 HSS
 have e0:w2.cell? ⟨w.heap.size + 2,0,none⟩=some (.func (.func m) #[] #[.pointer (some ⟨b1,0,none⟩),.pointer (some ⟨b2,0,none⟩)]):=by rw [cell_of_row w2 _ 0 _ _ _ (uh HX2)];rfl
 have e1:w2.cell? ⟨w.heap.size + 2,1,none⟩=some (.int .i64 le):=by rw [cell_of_row w2 _ 1 _ _ _ (uh HX2)];rfl
 have e2:w2.cell? ⟨w.heap.size + 2,2,none⟩=some (.int .i64 mo):=by rw [cell_of_row w2 _ 2 _ _ _ (uh HX2)];rfl
 have e3:w2.cell? ⟨w.heap.size + 2,3,none⟩=some (.bool tn):=by rw [cell_of_row w2 _ 3 _ _ _ (uh HX2)];rfl
 have e4:w2.cell? ⟨w.heap.size + 2,4,none⟩=some (.bool ts):=by rw [cell_of_row w2 _ 4 _ _ _ (uh HX2)];rfl
 have a0:w2.cell? ⟨w.heap.size,0,none⟩=some (.int .i64 (o:Int)):=by rw [cell_of_row w2 _ 0 _ _ _ (uh A2).ak];rfl
 have a1:w2.cell? ⟨w.heap.size,1,none⟩=some (.int .i64 nn):=(uh A2).a1
 have a2:w2.cell? ⟨w.heap.size,2,none⟩=some (.string name):=(uh A2).a2
 have a3:w2.cell? ⟨w.heap.size,3,none⟩=some (.int .i64 kd):=(uh A2).a3
 have a4:w2.cell? ⟨w.heap.size,4,none⟩=some (.int .i64 fn):=(uh A2).a4
 have a5:w2.cell? ⟨w.heap.size,5,none⟩=some (.int .i64 line):=(uh A2).a5
 have a6:w2.cell? ⟨w.heap.size,6,none⟩=some (.string sn):=(uh A2).a6
 go_wp2_with fail
 refine (uh HTK _).mono ?_
 rintro e w3 ⟨⟨b,rfl,hbT⟩,hb3⟩
 clear e0 e1 e2 e3 e4 a0 a1 a2 a3 a4 a5 a6
 have A3:=hide ((uh A2).go hb3)
 have HL3:=hide ((uh HL2).below hb3)
 have HX3:=hide ((hb3.block _ (heap_ltx (uh HX2))).trans (uh HX2))
 have HB3:=hide ((uh HB2).trans (hb3.mono (uh HB2).size))
 clear hb3 A2 HL2 HX2
 cases b with
 | false =>
  have HN:Hid (¬ OkAsk (⟨(o:Int),nn,name,⟨kd,fn,line,sn⟩⟩:Ak)):=hide (fun hO=>absurd (hbT.2 hO) (by decide))
  clear hbT
  obtain ⟨⟨r0,r1,r2,r3,r4,r5⟩,x0,x1,x2,x3,x4,x5⟩:=(uh A3).rc
  go_wp2
  refine bodyPost_ret (v:=.tuple #[.agg #[.int .i64 0,.int .i64 0,.int .i64 0,.string ⟨#[]⟩,.slice none 0 0,.slice none 0 0],.iface 180 (.agg #[.int .i64 1])]) (by simp [results,Tryz.results115,go_sem,r0,r1,r2,r3,r4,r5]) rfl ?_
  exact dsay_end (AskIs.notOk (uh HN)) (.inr ⟨rfl,by show (1:Int) ≠ 0;omega,rfl⟩) (uh HL3) (uh A3) (frs_nil _ _) (VsAt.nil _ _) ((uh HB3).mono hB) (Same.of_below (uh HB3)) hB
 | true =>
  have HO:Hid (OkAsk (⟨(o:Int),nn,name,⟨kd,fn,line,sn⟩⟩:Ak)):=hide (hbT.1 rfl)
  clear hbT
  have e0:w3.cell? ⟨w.heap.size + 2,0,none⟩=some (.func (.func m) #[] #[.pointer (some ⟨b1,0,none⟩),.pointer (some ⟨b2,0,none⟩)]):=by rw [cell_of_row w3 _ 0 _ _ _ (uh HX3)];rfl
  have a0:w3.cell? ⟨w.heap.size,0,none⟩=some (.int .i64 (o:Int)):=by rw [cell_of_row w3 _ 0 _ _ _ (uh A3).ak];rfl
  have a1:w3.cell? ⟨w.heap.size,1,none⟩=some (.int .i64 nn):=(uh A3).a1
  have a2:w3.cell? ⟨w.heap.size,2,none⟩=some (.string name):=(uh A3).a2
  have a3:w3.cell? ⟨w.heap.size,3,none⟩=some (.int .i64 kd):=(uh A3).a3
  have a4:w3.cell? ⟨w.heap.size,4,none⟩=some (.int .i64 fn):=(uh A3).a4
  have a5:w3.cell? ⟨w.heap.size,5,none⟩=some (.int .i64 line):=(uh A3).a5
  have a6:w3.cell? ⟨w.heap.size,6,none⟩=some (.string sn):=(uh A3).a6
  go_wp2_with fail
  refine (uh HDO (uh HO) w3 (uh HB3) (uh HL3)).mono ?_
  rintro e w4 ⟨s',d,m,t,v5,v6,er,rfl,hI,hd,⟨tv',uv',hL4⟩,h5,h6,hb4,hk4⟩
  clear e0 a0 a1 a2 a3 a4 a5 a6
  obtain ⟨va,vc,rfl⟩:=owns_slice h5
  obtain ⟨ua,uc,rfl⟩:=owns_slice h6.row
  generalize hx:d.fr.length=ln5 at h5
  generalize hy:d.vs.length=ln6 at h6
  clear hx hy
  have A4:=hide ((uh A3).same hk4)
  have H5:Hid (FrsAt w.heap.size w4 (.slice va ln5 vc) d.fr):=hide (owns_low h5 (uh HB3).size)
  have H6:Hid (VsAt w.heap.size w4 (.slice ua ln6 uc) d.vs):=hide (h6.low (uh HB3).size)
  have HB4:Hid (Below B w w4):=hide (((uh HB3).mono hB).trans hb4)
  have HK4:Hid (Same KindS w w4):=hide ((Same.of_below (uh HB3)).trans hk4)
  have HL4:=hide hL4
  have HI:=hide hI
  have HD:=hide hd
  clear hL4 h5 h6 hb4 hk4 hI hd
  obtain ⟨⟨r0,r1,r2,r3,r4,r5⟩,x0,x1,x2,x3,x4,x5⟩:=(uh A4).rc
  go_wp2
  refine bodyPost_ret (v:=.tuple #[.agg #[.int .i64 0,.int .i64 0,.int .i64 m,.string t,.slice va ln5 vc,.slice ua ln6 uc],er]) (by simp [results,Tryz.results115,go_sem,r0,r1,r2,r3,r4,r5]) rfl ?_
  exact dsay_end (uh HI) (uh HD) (uh HL4) (uh A4) (uh H5) (uh H6) (uh HB4) (uh HK4) hB
end Go.Proofs.YtmnmeaeicjhkhaaGreatDoor
namespace Go.Proofs.YtmnmeaeicjhkhaaGreatDoor
open Go.RowKit Go.Shelf
attribute [local go_sem] Oper.semAt_some
theorem tellCounts_any (B sb lo lp:Nat) (mv pv tv uv:Value) (D:Nat→Value) (nf:Nat) (fns:Nat→ByteArray) (n:Nat) (f:Nat→M) (s:LS) (nn:Int) (name:ByteArray) (kd fn line:Int) (sn:ByteArray) (w:World) (h:SS B w sb mv pv n f s tv uv D) (h2:∀ W,Below B w W→MomsAt lo W mv n f) (hp:∀ W,Below B w W→PlacesAt lp W pv n f) (hs:Sound nf fns n f) (hok:LsOk n s) (hpl:s.past.length≤10000) (hB:B≤w.heap.size) (ho:OkAsk (⟨13,nn,name,⟨kd,fn,line,sn⟩⟩:Ak)) :
  Calls Tryz.prog 114 #[.pointer (some ⟨sb,0,none⟩),.agg #[.int .i64 13,.int .i64 nn,.string name,.int .i64 kd,.int .i64 fn,.int .i64 line,.string sn]] w fun e w'=>DSay B sb mv pv n f D s (⟨13,nn,name,⟨kd,fn,line,sn⟩⟩:Ak) w e w':=by
 by_cases hge:(s.stops.length:Int)≤nn
 ·exact tellCount2_any B sb lo lp mv pv tv uv D nf fns n f s nn name kd fn line sn w h h2 hp hs hok hpl hB ho hge
 ·exact tellCount_any B sb lo lp mv pv tv uv D nf fns n f s nn name kd fn line sn w h h2 hp hs hok hpl hB ho hge
end Go.Proofs.YtmnmeaeicjhkhaaGreatDoor
