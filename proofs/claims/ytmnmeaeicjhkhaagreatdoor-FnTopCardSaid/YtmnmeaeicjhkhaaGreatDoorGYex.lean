import Derived.Test.YtmnmeaeicjhkhaaGreatDoorGYdx
import Derived.Test.YtmnmeaeicjhkhaaGreatDoorV5x
set_option maxRecDepth 100000
set_option maxHeartbeats 16000000
namespace Go.Proofs.YtmnmeaeicjhkhaaGreatDoor
open Go.RowKit Go.Shelf
section
attribute [local go_sem] Oper.semAt_some
theorem tryNo_any (op:Int) (B sb:Nat) (mv pv tv uv:Value) (D:Nat->Value) (n:Nat) (f:Nat->M) (s:LS) (nn:Int) (name:ByteArray) (kd fn line:Int) (sn:ByteArray) (w:World) (h:SS B w sb mv pv n f s tv uv D) (hB:B<=w.heap.size) (hop:op<1∨13<op) :
  Calls Tryz.prog 115 #[.pointer (some ⟨sb,0,none⟩),.agg #[.int .i64 op,.int .i64 nn,.string name,.int .i64 kd,.int .i64 fn,.int .i64 line,.string sn]] w fun e w'=>pK B sb mv pv n f D s (⟨op,nn,name,⟨kd,fn,line,sn⟩⟩:Ak) w e w':=by
 have H:=O h
 have HNO:=O (okAskNo (n:=nn) (nm:=name) (st:=⟨kd,fn,line,sn⟩) hop)
 have A1:=O (DB.new w (⟨op,nn,name,⟨kd,fn,line,sn⟩⟩:Ak))
 have HB1:Hid (Below w.heap.size w ((w.alloc (.cells #[.int .i64 op,.int .i64 nn,.string name,.int .i64 kd,.int .i64 fn,.int .i64 line,.string sn] 47)).alloc tz0)):=O ((bH w (.cells #[.int .i64 op,.int .i64 nn,.string name,.int .i64 kd,.int .i64 fn,.int .i64 line,.string sn] 47)).alloc (by simp) tz0)
 have H1:=O ((Z H).below (Z HB1))
 clear h
 go_enter Tryz.func115,Tryz.ntmps115
 go_upto_region 1 with fail
 obtain ⟨w1,hw1⟩:∃ w1,w1=((w.alloc (.cells #[.int .i64 op,.int .i64 nn,.string name,.int .i64 kd,.int .i64 fn,.int .i64 line,.string sn] 47)).alloc tz0):=⟨_,rfl⟩
 rw [<- hw1] at A1 HB1 H1 ⊢
 clear hw1
 have a0:w1.cell? ⟨w.heap.size,0,none⟩=some (.int .i64 op):=by rw [cell_of_row w1 _ 0 _ _ _ (Z A1).ak];rfl
 obtain ⟨⟨r0,r1,r2,r3,r4,r5⟩,x0,x1,x2,x3,x4,x5⟩:=(Z A1).rc
 by_cases q:op<1
 ·have q1:decide (op<1)=true:=decide_eq_true q
  go_wp2
  refine bodyPost_ret (v:=.tuple #[.agg #[.int .i64 0,.int .i64 0,.int .i64 0,.string ⟨#[]⟩,.slice none 0 0,.slice none 0 0],.iface 180 (.agg #[.int .i64 1])]) (by simp [results,Tryz.results115,go_sem,r0,r1,r2,r3,r4,r5]) rfl ?_
  exact cX (bU.notOk (Z HNO)) (.inr ⟨rfl,by show (1:Int)≠0;omega,rfl⟩) (Z H1) (Z A1) (cD _ _) (dD.nil _ _) ((Z HB1).mono hB) (bM.of_below (Z HB1)) hB
 have q1:decide (op<1)=false:=decide_eq_false q
 have q2:decide (13<op)=true:=decide_eq_true (by omega)
 go_wp2
 refine bodyPost_ret (v:=.tuple #[.agg #[.int .i64 0,.int .i64 0,.int .i64 0,.string ⟨#[]⟩,.slice none 0 0,.slice none 0 0],.iface 180 (.agg #[.int .i64 1])]) (by simp [results,Tryz.results115,go_sem,r0,r1,r2,r3,r4,r5]) rfl ?_
 exact cX (bU.notOk (Z HNO)) (.inr ⟨rfl,by show (1:Int)≠0;omega,rfl⟩) (Z H1) (Z A1) (cD _ _) (dD.nil _ _) ((Z HB1).mono hB) (bM.of_below (Z HB1)) hB
structure vY (w:World) (sb:Nat) (D:Nat->Value) (b1 b2 b3 b4 b5 b6:Nat):Prop where
 d1:D 10=.func (.func 104) #[.pointer (some ⟨sb,0,none⟩)] #[]/\D 11=.int .i64 0/\D 12=.int .i64 0/\D 13=.bool false/\D 14=.bool true
 d2:D 15=.func (.func 105) #[.pointer (some ⟨sb,0,none⟩)] #[]/\D 16=.int .i64 0/\D 17=.int .i64 49/\D 18=.bool false/\D 19=.bool false
 d3:D 20=.func (.func 106) #[.pointer (some ⟨sb,0,none⟩)] #[]/\D 21=.int .i64 0/\D 22=.int .i64 0/\D 23=.bool false/\D 24=.bool false
 d4:D 25=.func (.func 107) #[.pointer (some ⟨sb,0,none⟩)] #[]/\D 26=.int .i64 0/\D 27=.int .i64 0/\D 28=.bool false/\D 29=.bool false
 d5:D 30=.func (.func 152) #[] #[.pointer (some ⟨b1,0,none⟩),.pointer (some ⟨b2,0,none⟩)]/\D 31=.int .i64 0/\D 32=.int .i64 0/\D 33=.bool false/\D 34=.bool false
 d6:D 35=.func (.func 152) #[] #[.pointer (some ⟨b3,0,none⟩),.pointer (some ⟨b4,0,none⟩)]/\D 36=.int .i64 0/\D 37=.int .i64 0/\D 38=.bool false/\D 39=.bool false
 d7:D 40=.func (.func 152) #[] #[.pointer (some ⟨b5,0,none⟩),.pointer (some ⟨b6,0,none⟩)]/\D 41=.int .i64 0/\D 42=.int .i64 0/\D 43=.bool false/\D 44=.bool false
 d8:D 45=.func (.func 109) #[.pointer (some ⟨sb,0,none⟩)] #[]/\D 46=.int .i64 0/\D 47=.int .i64 0/\D 48=.bool false/\D 49=.bool false
 d9:D 50=.func (.func 110) #[.pointer (some ⟨sb,0,none⟩)] #[]/\D 51=.int .i64 (-1)/\D 52=.int .i64 3000/\D 53=.bool false/\D 54=.bool false
 d10:D 55=.func (.func 111) #[.pointer (some ⟨sb,0,none⟩)] #[]/\D 56=.int .i64 0/\D 57=.int .i64 100/\D 58=.bool false/\D 59=.bool false
 d11:D 60=.func (.func 112) #[.pointer (some ⟨sb,0,none⟩)] #[]/\D 61=.int .i64 0/\D 62=.int .i64 0/\D 63=.bool false/\D 64=.bool false
 d12:D 65=.func (.func 113) #[.pointer (some ⟨sb,0,none⟩)] #[]/\D 66=.int .i64 0/\D 67=.int .i64 0/\D 68=.bool true/\D 69=.bool false
 d13:D 70=.func (.func 114) #[.pointer (some ⟨sb,0,none⟩)] #[]/\D 71=.int .i64 0/\D 72=.int .i64 49/\D 73=.bool false/\D 74=.bool false
 g1:w.heap[b1]?=some (.cells #[.pointer (some ⟨sb,0,none⟩)] 87 (0,0))
 g2:w.heap[b2]?=some (.cells #[.int .i64 0] 3 (0,0))
 g3:w.heap[b3]?=some (.cells #[.pointer (some ⟨sb,0,none⟩)] 87 (0,0))
 g4:w.heap[b4]?=some (.cells #[.int .i64 1] 3 (0,0))
 g5:w.heap[b5]?=some (.cells #[.pointer (some ⟨sb,0,none⟩)] 87 (0,0))
 g6:w.heap[b6]?=some (.cells #[.int .i64 2] 3 (0,0))
theorem vY.same {P:TypeId->Prop} {w w':World} {sb:Nat} {D:Nat->Value} {b1 b2 b3 b4 b5 b6:Nat} (h:vY w sb D b1 b2 b3 b4 b5 b6) (hs:bM P w w') (p1:P 87) (p2:P 3):vY w' sb D b1 b2 b3 b4 b5 b6 :=
 ⟨h.d1,h.d2,h.d3,h.d4,h.d5,h.d6,h.d7,h.d8,h.d9,h.d10,h.d11,h.d12,h.d13,hs _ _ _ _ h.g1 p1,hs _ _ _ _ h.g2 p2,hs _ _ _ _ h.g3 p1,hs _ _ _ _ h.g4 p2,hs _ _ _ _ h.g5 p1,hs _ _ _ _ h.g6 p2⟩
theorem try_any (op:Int) (B sb lo lp:Nat) (mv pv tv uv:Value) (D:Nat->Value) (nf:Nat) (fns:Nat->ByteArray) (n:Nat) (f:Nat->M) (s:LS) (nn:Int) (name:ByteArray) (kd fn line:Int) (sn:ByteArray) (w:World) (h:SS B w sb mv pv n f s tv uv D) (h2:∀ W,Below B w W->bQ lo W mv n f) (hp:∀ W,Below B w W->bW lp W pv n f) (hs:cB nf fns n f) (hok:gF n s) (hpl:s.past.length<=10000) (hB:B<=w.heap.size) (hz:name.size<=maxLen) (hzs:sn.size<=maxLen) (b1 b2 b3 b4 b5 b6:Nat) (hD:vY w sb D b1 b2 b3 b4 b5 b6) :
  Calls Tryz.prog 115 #[.pointer (some ⟨sb,0,none⟩),.agg #[.int .i64 op,.int .i64 nn,.string name,.int .i64 kd,.int .i64 fn,.int .i64 line,.string sn]] w fun e w'=>pK B sb mv pv n f D s (⟨op,nn,name,⟨kd,fn,line,sn⟩⟩:Ak) w e w':=by
 by_cases hop:op<1∨13<op
 ·exact tryNo_any op B sb mv pv tv uv D n f s nn name kd fn line sn w h hB hop
 obtain ⟨o,ho⟩:∃ o:Nat,op=(o:Int):=⟨op.toNat,by omega⟩
 subst ho
 have h1:1<=o:=by omega
 have h13:o<=13:=by omega
 clear hop
 by_cases o1:o=1
 ·subst o1
  obtain ⟨e0,e1,e2,e3,e4⟩:=hD.d1
  exact kM 1 104 0 0 false true B sb mv pv tv uv D n f s nn name kd fn line sn w h hB (by decide) (by decide) e0 e1 e2 e3 e4
   (fun W=>(takesS_any _ _ _ 1 nn name kd fn line sn W hz hzs).mono (by rintro e w' ⟨⟨b,rfl,hbT⟩,hb⟩;exact ⟨⟨b,rfl,⟨fun hb=>by have hT:=hbT.1 hb;exact tW.2 ⟨(Int.le_antisymm hT.2.1 hT.1),(by have q:=hT.2.2.2;rwa [if_neg (by simp)] at q),(by have q:=hT.2.2.1;rwa [if_pos rfl] at q)⟩,fun hO=>hbT.2 (by have h:=tW.1 hO;exact ⟨Int.le_of_eq h.1.symm,Int.le_of_eq h.1,(by rw [if_pos rfl];exact h.2.2),(by rw [if_neg (by simp)];exact h.2.1)⟩)⟩⟩,hb⟩))
   Tryz.call104 (fun ho W hb hL=>addStop_any B sb lo lp mv pv tv uv D nf fns n f s nn name kd fn line sn W hL (fun W' q=>h2 W' ((hb.mono hB).trans q)) (fun W' q=>hp W' ((hb.mono hB).trans q)) hs hok hpl (Nat.le_trans hB hb.size) ho)
 by_cases o2:o=2
 ·subst o2
  obtain ⟨e0,e1,e2,e3,e4⟩:=hD.d2
  exact kM 2 105 0 49 false false B sb mv pv tv uv D n f s nn name kd fn line sn w h hB (by decide) (by decide) e0 e1 e2 e3 e4
   (fun W=>(gP _ _ _ 2 nn name kd fn line sn W hz hzs).mono (by rintro e w' ⟨⟨b,rfl,hbT⟩,hb⟩;exact ⟨⟨b,rfl,⟨fun hb=>by have hT:=hbT.1 hb;exact (gN (by omega)).2 ⟨⟨hT.1,hT.2.1⟩,(by have q:=hT.2.2.2;rwa [if_neg (by simp)] at q),(by have q:=hT.2.2.1;rwa [if_neg (by simp)] at q)⟩,fun hO=>hbT.2 (by have h:=(gN (by omega)).1 hO;exact ⟨h.1.1,h.1.2,(by rw [if_neg (by simp)];exact h.2.2),(by rw [if_neg (by simp)];exact h.2.1)⟩)⟩⟩,hb⟩))
   Tryz.call105 (fun ho W hb hL=>bP1 B sb lo lp mv pv tv uv D nf fns n f s nn name kd fn line sn W hL (fun W' q=>h2 W' ((hb.mono hB).trans q)) (fun W' q=>hp W' ((hb.mono hB).trans q)) hs hok hpl (Nat.le_trans hB hb.size) ho)
 by_cases o3:o=3
 ·subst o3
  obtain ⟨e0,e1,e2,e3,e4⟩:=hD.d3
  exact kM 3 106 0 0 false false B sb mv pv tv uv D n f s nn name kd fn line sn w h hB (by decide) (by decide) e0 e1 e2 e3 e4
   (fun W=>(gP _ _ _ 3 nn name kd fn line sn W hz hzs).mono (by rintro e w' ⟨⟨b,rfl,hbT⟩,hb⟩;exact ⟨⟨b,rfl,⟨fun hb=>by have hT:=hbT.1 hb;exact (dC (by omega)).2 ⟨(Int.le_antisymm hT.2.1 hT.1),(by have q:=hT.2.2.2;rwa [if_neg (by simp)] at q),(by have q:=hT.2.2.1;rwa [if_neg (by simp)] at q)⟩,fun hO=>hbT.2 (by have h:=(dC (by omega)).1 hO;exact ⟨Int.le_of_eq h.1.symm,Int.le_of_eq h.1,(by rw [if_neg (by simp)];exact h.2.2),(by rw [if_neg (by simp)];exact h.2.1)⟩)⟩⟩,hb⟩))
   Tryz.call106 (fun ho W hb hL=>goOn_any B sb lo lp mv pv tv uv D nf fns n f s nn name kd fn line sn W hL (fun W' q=>h2 W' ((hb.mono hB).trans q)) (fun W' q=>hp W' ((hb.mono hB).trans q)) hs hok hpl (Nat.le_trans hB hb.size) ho)
 by_cases o4:o=4
 ·subst o4
  obtain ⟨e0,e1,e2,e3,e4⟩:=hD.d4
  exact kM 4 107 0 0 false false B sb mv pv tv uv D n f s nn name kd fn line sn w h hB (by decide) (by decide) e0 e1 e2 e3 e4
   (fun W=>(gP _ _ _ 4 nn name kd fn line sn W hz hzs).mono (by rintro e w' ⟨⟨b,rfl,hbT⟩,hb⟩;exact ⟨⟨b,rfl,⟨fun hb=>by have hT:=hbT.1 hb;exact (dC (by omega)).2 ⟨(Int.le_antisymm hT.2.1 hT.1),(by have q:=hT.2.2.2;rwa [if_neg (by simp)] at q),(by have q:=hT.2.2.1;rwa [if_neg (by simp)] at q)⟩,fun hO=>hbT.2 (by have h:=(dC (by omega)).1 hO;exact ⟨Int.le_of_eq h.1.symm,Int.le_of_eq h.1,(by rw [if_neg (by simp)];exact h.2.2),(by rw [if_neg (by simp)];exact h.2.1)⟩)⟩⟩,hb⟩))
   Tryz.call107 (fun ho W hb hL=>goBack_any B sb lo lp mv pv tv uv D nf fns n f s nn name kd fn line sn W hL (fun W' q=>h2 W' ((hb.mono hB).trans q)) (fun W' q=>hp W' ((hb.mono hB).trans q)) hs hok hpl (Nat.le_trans hB hb.size) ho)
 by_cases o5:o=5
 ·subst o5
  obtain ⟨e0,e1,e2,e3,e4⟩:=hD.d5
  exact bL4 5 152 0 0 false false b1 b2 B sb mv pv tv uv D n f s nn name kd fn line sn w h hB (by decide) (by decide) e0 e1 e2 e3 e4
   (fun W=>(gP _ _ _ 5 nn name kd fn line sn W hz hzs).mono (by rintro e w' ⟨⟨b,rfl,hbT⟩,hb⟩;exact ⟨⟨b,rfl,⟨fun hb=>by have hT:=hbT.1 hb;exact (dC (by omega)).2 ⟨(Int.le_antisymm hT.2.1 hT.1),(by have q:=hT.2.2.2;rwa [if_neg (by simp)] at q),(by have q:=hT.2.2.1;rwa [if_neg (by simp)] at q)⟩,fun hO=>hbT.2 (by have h:=(dC (by omega)).1 hO;exact ⟨Int.le_of_eq h.1.symm,Int.le_of_eq h.1,(by rw [if_neg (by simp)];exact h.2.2),(by rw [if_neg (by simp)];exact h.2.1)⟩)⟩⟩,hb⟩))
   Tryz.call152 (fun ho W hb hL=>stepInto_any B sb lo lp mv pv tv uv D nf fns n f s nn name kd fn line sn W hL (fun W' q=>h2 W' ((hb.mono hB).trans q)) (fun W' q=>hp W' ((hb.mono hB).trans q)) hs hok hpl (Nat.le_trans hB hb.size) ho b1 b2 (bM.of_below (P:=fun _=>True) hb _ _ _ _ hD.g1 trivial) (bM.of_below (P:=fun _=>True) hb _ _ _ _ hD.g2 trivial))
 by_cases o6:o=6
 ·subst o6
  obtain ⟨e0,e1,e2,e3,e4⟩:=hD.d6
  exact bL4 6 152 0 0 false false b3 b4 B sb mv pv tv uv D n f s nn name kd fn line sn w h hB (by decide) (by decide) e0 e1 e2 e3 e4
   (fun W=>(gP _ _ _ 6 nn name kd fn line sn W hz hzs).mono (by rintro e w' ⟨⟨b,rfl,hbT⟩,hb⟩;exact ⟨⟨b,rfl,⟨fun hb=>by have hT:=hbT.1 hb;exact (dC (by omega)).2 ⟨(Int.le_antisymm hT.2.1 hT.1),(by have q:=hT.2.2.2;rwa [if_neg (by simp)] at q),(by have q:=hT.2.2.1;rwa [if_neg (by simp)] at q)⟩,fun hO=>hbT.2 (by have h:=(dC (by omega)).1 hO;exact ⟨Int.le_of_eq h.1.symm,Int.le_of_eq h.1,(by rw [if_neg (by simp)];exact h.2.2),(by rw [if_neg (by simp)];exact h.2.1)⟩)⟩⟩,hb⟩))
   Tryz.call152 (fun ho W hb hL=>stepOver_any B sb lo lp mv pv tv uv D nf fns n f s nn name kd fn line sn W hL (fun W' q=>h2 W' ((hb.mono hB).trans q)) (fun W' q=>hp W' ((hb.mono hB).trans q)) hs hok hpl (Nat.le_trans hB hb.size) ho b3 b4 (bM.of_below (P:=fun _=>True) hb _ _ _ _ hD.g3 trivial) (bM.of_below (P:=fun _=>True) hb _ _ _ _ hD.g4 trivial))
 by_cases o7:o=7
 ·subst o7
  obtain ⟨e0,e1,e2,e3,e4⟩:=hD.d7
  exact bL4 7 152 0 0 false false b5 b6 B sb mv pv tv uv D n f s nn name kd fn line sn w h hB (by decide) (by decide) e0 e1 e2 e3 e4
   (fun W=>(gP _ _ _ 7 nn name kd fn line sn W hz hzs).mono (by rintro e w' ⟨⟨b,rfl,hbT⟩,hb⟩;exact ⟨⟨b,rfl,⟨fun hb=>by have hT:=hbT.1 hb;exact (dC (by omega)).2 ⟨(Int.le_antisymm hT.2.1 hT.1),(by have q:=hT.2.2.2;rwa [if_neg (by simp)] at q),(by have q:=hT.2.2.1;rwa [if_neg (by simp)] at q)⟩,fun hO=>hbT.2 (by have h:=(dC (by omega)).1 hO;exact ⟨Int.le_of_eq h.1.symm,Int.le_of_eq h.1,(by rw [if_neg (by simp)];exact h.2.2),(by rw [if_neg (by simp)];exact h.2.1)⟩)⟩⟩,hb⟩))
   Tryz.call152 (fun ho W hb hL=>stepOut_any B sb lo lp mv pv tv uv D nf fns n f s nn name kd fn line sn W hL (fun W' q=>h2 W' ((hb.mono hB).trans q)) (fun W' q=>hp W' ((hb.mono hB).trans q)) hs hok hpl (Nat.le_trans hB hb.size) ho b5 b6 (bM.of_below (P:=fun _=>True) hb _ _ _ _ hD.g5 trivial) (bM.of_below (P:=fun _=>True) hb _ _ _ _ hD.g6 trivial))
 by_cases o8:o=8
 ·subst o8
  obtain ⟨e0,e1,e2,e3,e4⟩:=hD.d8
  exact kM 8 109 0 0 false false B sb mv pv tv uv D n f s nn name kd fn line sn w h hB (by decide) (by decide) e0 e1 e2 e3 e4
   (fun W=>(gP _ _ _ 8 nn name kd fn line sn W hz hzs).mono (by rintro e w' ⟨⟨b,rfl,hbT⟩,hb⟩;exact ⟨⟨b,rfl,⟨fun hb=>by have hT:=hbT.1 hb;exact (dC (by omega)).2 ⟨(Int.le_antisymm hT.2.1 hT.1),(by have q:=hT.2.2.2;rwa [if_neg (by simp)] at q),(by have q:=hT.2.2.1;rwa [if_neg (by simp)] at q)⟩,fun hO=>hbT.2 (by have h:=(dC (by omega)).1 hO;exact ⟨Int.le_of_eq h.1.symm,Int.le_of_eq h.1,(by rw [if_neg (by simp)];exact h.2.2),(by rw [if_neg (by simp)];exact h.2.1)⟩)⟩⟩,hb⟩))
   Tryz.call109 (fun ho W hb hL=>undo_any B sb lo lp mv pv tv uv D nf fns n f s nn name kd fn line sn W hL (fun W' q=>h2 W' ((hb.mono hB).trans q)) (fun W' q=>hp W' ((hb.mono hB).trans q)) hs hok hpl (Nat.le_trans hB hb.size) ho)
 by_cases o9:o=9
 ·subst o9
  obtain ⟨e0,e1,e2,e3,e4⟩:=hD.d9
  exact kM 9 110 (-1) 3000 false false B sb mv pv tv uv D n f s nn name kd fn line sn w h hB (by decide) (by decide) e0 e1 e2 e3 e4
   (fun W=>(gP _ _ _ 9 nn name kd fn line sn W hz hzs).mono (by rintro e w' ⟨⟨b,rfl,hbT⟩,hb⟩;exact ⟨⟨b,rfl,⟨fun hb=>by have hT:=hbT.1 hb;exact zP.2 ⟨⟨hT.1,hT.2.1⟩,(by have q:=hT.2.2.2;rwa [if_neg (by simp)] at q),(by have q:=hT.2.2.1;rwa [if_neg (by simp)] at q)⟩,fun hO=>hbT.2 (by have h:=zP.1 hO;exact ⟨h.1.1,h.1.2,(by rw [if_neg (by simp)];exact h.2.2),(by rw [if_neg (by simp)];exact h.2.1)⟩)⟩⟩,hb⟩))
   Tryz.call110 (fun ho W hb hL=>goTo_any B sb lo lp mv pv tv uv D nf fns n f s nn name kd fn line sn W hL (fun W' q=>h2 W' ((hb.mono hB).trans q)) (fun W' q=>hp W' ((hb.mono hB).trans q)) hs hok hpl (Nat.le_trans hB hb.size) ho)
 by_cases o10:o=10
 ·subst o10
  obtain ⟨e0,e1,e2,e3,e4⟩:=hD.d10
  exact kM 10 111 0 100 false false B sb mv pv tv uv D n f s nn name kd fn line sn w h hB (by decide) (by decide) e0 e1 e2 e3 e4
   (fun W=>(gP _ _ _ 10 nn name kd fn line sn W hz hzs).mono (by rintro e w' ⟨⟨b,rfl,hbT⟩,hb⟩;exact ⟨⟨b,rfl,⟨fun hb=>by have hT:=hbT.1 hb;exact mX.2 ⟨⟨hT.1,hT.2.1⟩,(by have q:=hT.2.2.2;rwa [if_neg (by simp)] at q),(by have q:=hT.2.2.1;rwa [if_neg (by simp)] at q)⟩,fun hO=>hbT.2 (by have h:=mX.1 hO;exact ⟨h.1.1,h.1.2,(by rw [if_neg (by simp)];exact h.2.2),(by rw [if_neg (by simp)];exact h.2.1)⟩)⟩⟩,hb⟩))
   Tryz.call111 (fun ho W hb hL=>where_any B sb lo lp mv pv tv uv D nf fns n f s nn name kd fn line sn W hL (fun W' q=>h2 W' ((hb.mono hB).trans q)) (fun W' q=>hp W' ((hb.mono hB).trans q)) hs hok hpl (Nat.le_trans hB hb.size) ho)
 by_cases o11:o=11
 ·subst o11
  obtain ⟨e0,e1,e2,e3,e4⟩:=hD.d11
  exact kM 11 112 0 0 false false B sb mv pv tv uv D n f s nn name kd fn line sn w h hB (by decide) (by decide) e0 e1 e2 e3 e4
   (fun W=>(gP _ _ _ 11 nn name kd fn line sn W hz hzs).mono (by rintro e w' ⟨⟨b,rfl,hbT⟩,hb⟩;exact ⟨⟨b,rfl,⟨fun hb=>by have hT:=hbT.1 hb;exact (dC (by omega)).2 ⟨(Int.le_antisymm hT.2.1 hT.1),(by have q:=hT.2.2.2;rwa [if_neg (by simp)] at q),(by have q:=hT.2.2.1;rwa [if_neg (by simp)] at q)⟩,fun hO=>hbT.2 (by have h:=(dC (by omega)).1 hO;exact ⟨Int.le_of_eq h.1.symm,Int.le_of_eq h.1,(by rw [if_neg (by simp)];exact h.2.2),(by rw [if_neg (by simp)];exact h.2.1)⟩)⟩⟩,hb⟩))
   Tryz.call112 (fun ho W hb hL=>tellVars_any B sb lo lp mv pv tv uv D nf fns n f s nn name kd fn line sn W hL (fun W' q=>h2 W' ((hb.mono hB).trans q)) (fun W' q=>hp W' ((hb.mono hB).trans q)) hs hok hpl (Nat.le_trans hB hb.size) ho)
 by_cases o12:o=12
 ·subst o12
  obtain ⟨e0,e1,e2,e3,e4⟩:=hD.d12
  exact kM 12 113 0 0 true false B sb mv pv tv uv D n f s nn name kd fn line sn w h hB (by decide) (by decide) e0 e1 e2 e3 e4
   (fun W=>(takesN_any _ _ _ 12 nn name kd fn line sn W hz hzs).mono (by rintro e w' ⟨⟨b,rfl,hbT⟩,hb⟩;exact ⟨⟨b,rfl,⟨fun hb=>by have hT:=hbT.1 hb;exact rR.2 ⟨(Int.le_antisymm hT.2.1 hT.1),(by have q:=hT.2.2.2;rwa [if_pos rfl] at q),(by have q:=hT.2.2.1;rwa [if_neg (by simp)] at q)⟩,fun hO=>hbT.2 (by have h:=rR.1 hO;exact ⟨Int.le_of_eq h.1.symm,Int.le_of_eq h.1,(by rw [if_neg (by simp)];exact h.2.2),(by rw [if_pos rfl];exact h.2.1)⟩)⟩⟩,hb⟩))
   Tryz.call113 (fun ho W hb hL=>value_any B sb lo lp mv pv tv uv D nf fns n f s nn name kd fn line sn W hL (fun W' q=>h2 W' ((hb.mono hB).trans q)) (fun W' q=>hp W' ((hb.mono hB).trans q)) hs hok hpl (Nat.le_trans hB hb.size) ho)
 by_cases o13:o=13
 ·subst o13
  obtain ⟨e0,e1,e2,e3,e4⟩:=hD.d13
  exact kM 13 114 0 49 false false B sb mv pv tv uv D n f s nn name kd fn line sn w h hB (by decide) (by decide) e0 e1 e2 e3 e4
   (fun W=>(gP _ _ _ 13 nn name kd fn line sn W hz hzs).mono (by rintro e w' ⟨⟨b,rfl,hbT⟩,hb⟩;exact ⟨⟨b,rfl,⟨fun hb=>by have hT:=hbT.1 hb;exact (gN (by omega)).2 ⟨⟨hT.1,hT.2.1⟩,(by have q:=hT.2.2.2;rwa [if_neg (by simp)] at q),(by have q:=hT.2.2.1;rwa [if_neg (by simp)] at q)⟩,fun hO=>hbT.2 (by have h:=(gN (by omega)).1 hO;exact ⟨h.1.1,h.1.2,(by rw [if_neg (by simp)];exact h.2.2),(by rw [if_neg (by simp)];exact h.2.1)⟩)⟩⟩,hb⟩))
   Tryz.call114 (fun ho W hb hL=>bL5 B sb lo lp mv pv tv uv D nf fns n f s nn name kd fn line sn W hL (fun W' q=>h2 W' ((hb.mono hB).trans q)) (fun W' q=>hp W' ((hb.mono hB).trans q)) hs hok hpl (Nat.le_trans hB hb.size) ho)
 exfalso;omega
end
section
attribute [local go_sem] Oper.semAt_some
def mH (W:World) (b:Nat) (k c m:Int) (t:ByteArray) (v5 v6:Value):World :=
 (((((W.setCell ⟨b,0,none⟩ (.int .i64 k)).setCell ⟨b,1,none⟩ (.int .i64 c)).setCell ⟨b,2,none⟩ (.int .i64 m)).setCell ⟨b,3,none⟩ (.string t)).setCell ⟨b,4,none⟩ v5).setCell ⟨b,5,none⟩ v6
theorem yY (W:World) (q:Nat) (k c m:Int) (t:ByteArray) (v5 v6:Value) (b:Nat) (h:b≠q):(mH W q k c m t v5 v6).heap[b]?=W.heap[b]?:=by
 unfold mH
 rw [heap_setCell_other _ _ _ _ h,heap_setCell_other _ _ _ _ h,heap_setCell_other _ _ _ _ h,heap_setCell_other _ _ _ _ h,heap_setCell_other _ _ _ _ h,heap_setCell_other _ _ _ _ h]
theorem putAll_row {W:World} {q:Nat} {k c m:Int} {t:ByteArray} {v5 v6 a0 a1 a2 a3 a4 a5:Value} {ty:TypeId} {fr:Nat × Nat} (h:W.heap[q]?=some (.cells #[a0,a1,a2,a3,a4,a5] ty fr)):(mH W q k c m t v5 v6).heap[q]?=some (.cells #[.int .i64 k,.int .i64 c,.int .i64 m,.string t,v5,v6] ty fr):=by
 simp [mH,World.setCell,Array.getElem?_modify,h]
theorem putAll_same {P:TypeId->Prop} {W:World} {q:Nat} {k c m:Int} {t:ByteArray} {v5 v6:Value} {cs:Array Value} {ty:TypeId} {fr:Nat × Nat} (hq:W.heap[q]?=some (.cells cs ty fr)) (hp:¬ P ty):bM P W (mH W q k c m t v5 v6):=fun b cs' t' fr' hh hp'=>by
 rw [yY _ _ _ _ _ _ _ _ _ (fun e=>by subst e;rw [hh] at hq;cases hq;exact hp hp')]
 exact hh
theorem putAll_far {P:TypeId->Prop} {w W:World} {q:Nat} {k c m:Int} {t:ByteArray} {v5 v6:Value} (h:bM P w W) (hq:w.heap.size<=q):bM P w (mH W q k c m t v5 v6):=fun b cs ty fr hh hp =>
 (yY _ _ _ _ _ _ _ _ _ (by have:=cJ hh;omega)).trans (h b cs ty fr hh hp)
theorem yZ {B:Nat} {w W:World} {q:Nat} {k c m:Int} {t:ByteArray} {v5 v6:Value} (h:Below B w W) (hq:B<=q):Below B w (mH W q k c m t v5 v6):=by
 unfold mH
 exact (((((h.setCell (p:=⟨q,0,none⟩) hq _).setCell (p:=⟨q,1,none⟩) hq _).setCell (p:=⟨q,2,none⟩) hq _).setCell (p:=⟨q,3,none⟩) hq _).setCell (p:=⟨q,4,none⟩) hq _).setCell (p:=⟨q,5,none⟩) hq _
def TSay (B sb:Nat) (mv pv:Value) (n:Nat) (f:Nat->M) (D:Nat->Value) (s:LS) (a:Ak) (w:World) (e:Ending) (w':World):Prop :=
 ∃ s' d v5 v6,e=.returned (.agg #[.int .i64 s'.at_,.int .i64 d.code,.int .i64 d.num,.string d.text,v5,v6])/\bU n f s a s' d/\(∃ tv' uv',SS B w' sb mv pv n f s' tv' uv' D)/\eA w.heap.size w' v5 d.fr/\dD w.heap.size w' v6 d.vs/\Below B w w'/\bM dB w w'
theorem cell_below' {B:Nat} {w W:World} {b i:Nat} {v:Value} (h:Below B w W) (hb:b<B) (hc:w.cell? ⟨b,i,none⟩=some v):W.cell? ⟨b,i,none⟩=some v:=by
 have e:=h.block b hb
 simp only [World.cell?] at hc ⊢
 rw [e];exact hc
theorem tsay_end {B sb:Nat} {mv pv tv' uv' v5 v6:Value} {n:Nat} {f:Nat->M} {D:Nat->Value} {s s':LS} {a:Ak} {d:Td} {k c m:Int} {t:ByteArray} {w W:World} (hI:bU n f s a s' d) (hk:k=s'.at_) (hc:c=d.code) (hm:m=d.num) (ht:t=d.text) (hL:SS B W sb mv pv n f s' tv' uv' D) (hA:DB w a W)
  (h5:eA w.heap.size W v5 d.fr) (h6:dD w.heap.size W v6 d.vs) (hb:Below B w W) (hs:bM dB w W) (hB:B<=w.heap.size) :
  TSay B sb mv pv n f D s a w (.returned (.agg #[.int .i64 k,.int .i64 c,.int .i64 m,.string t,v5,v6])) (mH W (w.heap.size+1) k c m t v5 v6):=by
 subst hk hc hm ht
 have hq:bM (fun q=>q≠38) W (mH W (w.heap.size+1) s'.at_ d.code d.num d.text v5 v6):=putAll_same hA.rb (fun q=>q rfl)
 exact ⟨s',d,v5,v6,rfl,hI,⟨tv',uv',hL.same hq (by decide) (by decide) (by decide) (by decide) (by decide) (by decide) (by decide) (by decide) (by decide)⟩,cK h5 hq (by decide),h6.same hq (by decide),yZ hb (by omega),putAll_far hs (by omega)⟩
theorem tell_any (B sb lo lp:Nat) (mv pv tv uv:Value) (D:Nat->Value) (nf:Nat) (fns:Nat->ByteArray) (n:Nat) (f:Nat->M) (s:LS) (a:Ak) (w:World) (h:SS B w sb mv pv n f s tv uv D) (h2:∀ W,Below B w W->bQ lo W mv n f) (hp:∀ W,Below B w W->bW lp W pv n f) (hs:cB nf fns n f) (hok:gF n s) (hpl:s.past.length<=10000) (hB:B<=w.heap.size) (hz:a.name.size<=maxLen) (hzs:a.stop.name.size<=maxLen) (b1 b2 b3 b4 b5 b6:Nat) (hD:vY w sb D b1 b2 b3 b4 b5 b6) (hB0:0<B) (hg:w.cell? ⟨0,0,none⟩=some (.iface 298 (.agg #[.pointer (some ⟨4,99,none⟩)]))) :
  Calls Tryz.prog 41 #[.pointer (some ⟨sb,0,none⟩),.agg #[.int .i64 a.op,.int .i64 a.n,.string a.name,.int .i64 a.stop.kind,.int .i64 a.stop.fn,.int .i64 a.stop.line,.string a.stop.name]] w fun e w'=>TSay B sb mv pv n f D s a w e w':=by
 have H:=O h
 have H2:=O h2
 have HP:=O hp
 have HS:=O hs
 have HOK:=O hok
 have HPL:=O hpl
 have HZ:=O hz
 have HZS:=O hzs
 have HDD:=O hD
 have HG:=O hg
 have A1:=O (DB.new w a)
 have HB1:Hid (Below w.heap.size w ((w.alloc (.cells #[.int .i64 a.op,.int .i64 a.n,.string a.name,.int .i64 a.stop.kind,.int .i64 a.stop.fn,.int .i64 a.stop.line,.string a.stop.name] 47)).alloc tz0)):=O ((bH w (.cells #[.int .i64 a.op,.int .i64 a.n,.string a.name,.int .i64 a.stop.kind,.int .i64 a.stop.fn,.int .i64 a.stop.line,.string a.stop.name] 47)).alloc (by simp) tz0)
 have H1:=O ((Z H).below (Z HB1))
 have hlt:=(Z H).lt
 clear h h2 hp hs hok hpl hz hzs hD hg
 go_enter Tryz.func41,Tryz.ntmps41
 go_upto_region 1 with fail
 obtain ⟨w1,hw1⟩:∃ w1,w1=((w.alloc (.cells #[.int .i64 a.op,.int .i64 a.n,.string a.name,.int .i64 a.stop.kind,.int .i64 a.stop.fn,.int .i64 a.stop.line,.string a.stop.name] 47)).alloc tz0):=⟨_,rfl⟩
 rw [<- hw1] at A1 HB1 H1 ⊢
 clear hw1
 have a0:w1.cell? ⟨w.heap.size,0,none⟩=some (.int .i64 a.op):=by rw [cell_of_row w1 _ 0 _ _ _ (Z A1).ak];rfl
 have a1:=(Z A1).a1
 have a2:=(Z A1).a2
 have a3:=(Z A1).a3
 have a4:=(Z A1).a4
 have a5:=(Z A1).a5
 have a6:=(Z A1).a6
 go_wp2_with fail
 refine (try_any a.op B sb lo lp mv pv tv uv D nf fns n f s a.n a.name a.stop.kind a.stop.fn a.stop.line a.stop.name w1 (Z H1) (fun W hb=>Z H2 W (((Z HB1).mono hB).trans hb)) (fun W hb=>Z HP W (((Z HB1).mono hB).trans hb)) (Z HS) (Z HOK) (Z HPL) (Nat.le_trans hB (Z HB1).size) (Z HZ) (Z HZS) b1 b2 b3 b4 b5 b6 ((Z HDD).same (bM.of_below (P:=fun _=>True) (Z HB1)) trivial trivial)).mono ?_
 rintro e w2 ⟨s',d,m,t,v5,v6,er,rfl,hI,hd,⟨tv',uv',hL2⟩,h5,h6,hb2,hk2⟩
 clear a0 a1 a2 a3 a4 a5 a6
 obtain ⟨va,vc,rfl⟩:=bR h5
 obtain ⟨ua,uc,rfl⟩:=bR h6.row
 generalize hx:d.fr.length=ln5 at h5
 generalize hy:d.vs.length=ln6 at h6
 clear hx hy
 have A2:=O ((Z A1).same hk2)
 have H5:Hid (eA w.heap.size w2 (.slice va ln5 vc) d.fr):=O (eD h5 (Z HB1).size)
 have H6:Hid (dD w.heap.size w2 (.slice ua ln6 uc) d.vs):=O (h6.low (Z HB1).size)
 have HB2:Hid (Below B w w2):=O (((Z HB1).mono hB).trans hb2)
 have HK2:Hid (bM dB w w2):=O ((bM.of_below (Z HB1)).trans hk2)
 have HL2:=O hL2
 have HI:=O hI
 clear hL2 h5 h6 hb2 hk2 hI A1 H1
 go_wp2_with fail
 have hb3:Below w2.heap.size w2 ((w2.alloc (.cells #[.int .i64 0,.int .i64 0,.int .i64 m,.string t,.slice va ln5 vc,.slice ua ln6 uc] 38)).alloc (.cells #[.int .i64 0] 180)):=(bH w2 (.cells #[.int .i64 0,.int .i64 0,.int .i64 m,.string t,.slice va ln5 vc,.slice ua ln6 uc] 38)).alloc (by simp) (.cells #[.int .i64 0] 180)
 have HR3:Hid (((w2.alloc (.cells #[.int .i64 0,.int .i64 0,.int .i64 m,.string t,.slice va ln5 vc,.slice ua ln6 uc] 38)).alloc (.cells #[.int .i64 0] 180)).heap[w2.heap.size+1]?=some (.cells #[.int .i64 0] 180 (0,0))):=O (by have h:=heap_alloc_new (w2.alloc (.cells #[.int .i64 0,.int .i64 0,.int .i64 m,.string t,.slice va ln5 vc,.slice ua ln6 uc] 38)) (.cells #[.int .i64 0] 180);rwa [World.size_alloc] at h)
 have HX3:Hid (((w2.alloc (.cells #[.int .i64 0,.int .i64 0,.int .i64 m,.string t,.slice va ln5 vc,.slice ua ln6 uc] 38)).alloc (.cells #[.int .i64 0] 180)).heap[w2.heap.size]?=some (.cells #[.int .i64 0,.int .i64 0,.int .i64 m,.string t,.slice va ln5 vc,.slice ua ln6 uc] 38 (0,0))):=O (((bH (w2.alloc (.cells #[.int .i64 0,.int .i64 0,.int .i64 m,.string t,.slice va ln5 vc,.slice ua ln6 uc] 38)) (.cells #[.int .i64 0] 180)).block _ (by simp)).trans (heap_alloc_new w2 (.cells #[.int .i64 0,.int .i64 0,.int .i64 m,.string t,.slice va ln5 vc,.slice ua ln6 uc] 38)))
 generalize hW3:((w2.alloc (.cells #[.int .i64 0,.int .i64 0,.int .i64 m,.string t,.slice va ln5 vc,.slice ua ln6 uc] 38)).alloc (.cells #[.int .i64 0] 180))=w3 at hb3 HR3 HX3 ⊢
 clear hW3
 have hsz2:w.heap.size+2<=w2.heap.size:=(Z A2).size
 rcases hd with ⟨hc,rfl,rfl,rfl⟩ | ⟨hbad,hc,rfl⟩
 ·refine (as_nil _ _).mono ?_
  rintro e w' ⟨rfl,hw⟩
  rw [hw]
  clear hw
  have HC:=O hc
  clear hc
  go_upto_region 5 with fail
  have k2:w3.cell? ⟨sb,2,none⟩=some (.int .i64 s'.at_):=((Z HL2).below hb3).box.c2
  have t0:w3.cell? ⟨w2.heap.size,0,none⟩=_:=cell_of_row w3 _ 0 _ _ _ (Z HX3)
  have y0:w3.frozen? ⟨w2.heap.size,0,none⟩=false:=frozen_of_row _ _ _ _ _ (Z HX3)
  have t1:w3.cell? ⟨w2.heap.size,1,none⟩=_:=cell_of_row w3 _ 1 _ _ _ (Z HX3)
  have y1:w3.frozen? ⟨w2.heap.size,1,none⟩=false:=frozen_of_row _ _ _ _ _ (Z HX3)
  have t2:w3.cell? ⟨w2.heap.size,2,none⟩=_:=cell_of_row w3 _ 2 _ _ _ (Z HX3)
  have y2:w3.frozen? ⟨w2.heap.size,2,none⟩=false:=frozen_of_row _ _ _ _ _ (Z HX3)
  have t3:w3.cell? ⟨w2.heap.size,3,none⟩=_:=cell_of_row w3 _ 3 _ _ _ (Z HX3)
  have y3:w3.frozen? ⟨w2.heap.size,3,none⟩=false:=frozen_of_row _ _ _ _ _ (Z HX3)
  have t4:w3.cell? ⟨w2.heap.size,4,none⟩=_:=cell_of_row w3 _ 4 _ _ _ (Z HX3)
  have y4:w3.frozen? ⟨w2.heap.size,4,none⟩=false:=frozen_of_row _ _ _ _ _ (Z HX3)
  have t5:w3.cell? ⟨w2.heap.size,5,none⟩=_:=cell_of_row w3 _ 5 _ _ _ (Z HX3)
  have y5:w3.frozen? ⟨w2.heap.size,5,none⟩=false:=frozen_of_row _ _ _ _ _ (Z HX3)
  simp at t0 t1 t2 t3 t4 t5
  go_upto_region 6 with fail
  have hb6:Below w2.heap.size w2 (w3.setCell ⟨w2.heap.size,0,none⟩ (.int .i64 s'.at_)):=hb3.setCell (p:=⟨w2.heap.size,0,none⟩) (Nat.le_refl _) _
  have HX6:Hid ((w3.setCell ⟨w2.heap.size,0,none⟩ (.int .i64 s'.at_)).heap[w2.heap.size]?=some (.cells #[.int .i64 s'.at_,.int .i64 0,.int .i64 d.num,.string d.text,.slice va ln5 vc,.slice ua ln6 uc] 38 (0,0))):=O (heap_setCell_same _ _ 0 _ _ _ (Z HX3))
  generalize hW6:w3.setCell ⟨w2.heap.size,0,none⟩ (.int .i64 s'.at_)=w6 at hb6 HX6 ⊢
  clear hW6 k2 t0 t1 t2 t3 t4 t5 y0 y1 y2 y3 y4 y5
  have A6:=O ((Z A2).go hb6)
  have HL6:=O ((Z HL2).below hb6)
  have HB6:Hid (Below B w w6):=O ((Z HB2).trans (hb6.mono (by have:=(Z HB2).size;omega)))
  have HK6:Hid (bM dB w w6):=O ((Z HK2).trans (bM.of_below hb6))
  have H56:Hid (eA w.heap.size w6 (.slice va ln5 vc) d.fr):=O (eA.below (Z H5) hb6)
  have H66:Hid (dD w.heap.size w6 (.slice ua ln6 uc) d.vs):=O ((Z H6).below hb6)
  clear hb6
  have t0:w6.cell? ⟨w2.heap.size,0,none⟩=_:=cell_of_row w6 _ 0 _ _ _ (Z HX6)
  have y0:w6.frozen? ⟨w2.heap.size,0,none⟩=false:=frozen_of_row _ _ _ _ _ (Z HX6)
  have t1:w6.cell? ⟨w2.heap.size,1,none⟩=_:=cell_of_row w6 _ 1 _ _ _ (Z HX6)
  have y1:w6.frozen? ⟨w2.heap.size,1,none⟩=false:=frozen_of_row _ _ _ _ _ (Z HX6)
  have t2:w6.cell? ⟨w2.heap.size,2,none⟩=_:=cell_of_row w6 _ 2 _ _ _ (Z HX6)
  have y2:w6.frozen? ⟨w2.heap.size,2,none⟩=false:=frozen_of_row _ _ _ _ _ (Z HX6)
  have t3:w6.cell? ⟨w2.heap.size,3,none⟩=_:=cell_of_row w6 _ 3 _ _ _ (Z HX6)
  have y3:w6.frozen? ⟨w2.heap.size,3,none⟩=false:=frozen_of_row _ _ _ _ _ (Z HX6)
  have t4:w6.cell? ⟨w2.heap.size,4,none⟩=_:=cell_of_row w6 _ 4 _ _ _ (Z HX6)
  have y4:w6.frozen? ⟨w2.heap.size,4,none⟩=false:=frozen_of_row _ _ _ _ _ (Z HX6)
  have t5:w6.cell? ⟨w2.heap.size,5,none⟩=_:=cell_of_row w6 _ 5 _ _ _ (Z HX6)
  have y5:w6.frozen? ⟨w2.heap.size,5,none⟩=false:=frozen_of_row _ _ _ _ _ (Z HX6)
  simp at t0 t1 t2 t3 t4 t5
  obtain ⟨⟨r0,r1,r2,r3,r4,r5⟩,x0,x1,x2,x3,x4,x5⟩:=(Z A6).rc
  go_wp2
  refine bodyPost_ret (v:=.agg #[.int .i64 s'.at_,.int .i64 0,.int .i64 d.num,.string d.text,.slice va ln5 vc,.slice ua ln6 uc]) (by simp [results,Tryz.results41,go_sem,r0,r1,r2,r3,r4,r5]) rfl ?_
  exact tsay_end (Z HI) rfl (Z HC).symm rfl rfl (Z HL6) (Z A6) (Z H56) (Z H66) (Z HB6) (Z HK6) hB
 have hg3:w3.cell? ⟨0,0,none⟩=some (.iface 298 (.agg #[.pointer (some ⟨4,99,none⟩)])):=cell_below' ((Z HB2).trans (hb3.mono (by have:=(Z HB2).size;omega))) hB0 (Z HG)
 refine (as_hit d.code (w2.heap.size+1) (.int .i64 0) w3 hg3 (by rw [cell_of_row w3 _ 0 _ _ _ (Z HR3)];rfl) (frozen_of_row _ _ _ _ _ (Z HR3))).mono ?_
 rintro e w' ⟨rfl,hw'⟩
 have sz3:w2.heap.size+2<=w3.heap.size:=cJ (Z HR3)
 have hb4:Below w2.heap.size w2 w':=by
  rw [hw']
  exact ((((hb3.alloc (by omega) _).alloc (by simp;omega) _).alloc (by simp;omega) _).alloc (by simp;omega) _).setCell (p:=⟨w2.heap.size+1,0,none⟩) (by show w2.heap.size<=w2.heap.size+1;omega) _
 have HX4:Hid (w'.heap[w2.heap.size]?=some (.cells #[.int .i64 0,.int .i64 0,.int .i64 m,.string t,.slice va ln5 vc,.slice ua ln6 uc] 38 (0,0))):=O (by
  rw [hw',heap_setCell_other _ _ _ _ (by show w2.heap.size≠w2.heap.size+1;omega),Below.heap_alloc _ _ _ (by simp;omega),Below.heap_alloc _ _ _ (by simp;omega),Below.heap_alloc _ _ _ (by simp;omega),Below.heap_alloc _ _ _ (by omega)]
  exact Z HX3)
 have HR4:Hid (w'.heap[w2.heap.size+1]?=some (.cells #[.int .i64 d.code] 180 (0,0))):=O (by
  rw [hw']
  refine heap_setCell_same _ _ 0 #[.int .i64 0] _ _ ?_
  rw [Below.heap_alloc _ _ _ (by simp;omega),Below.heap_alloc _ _ _ (by simp;omega),Below.heap_alloc _ _ _ (by simp;omega),Below.heap_alloc _ _ _ (by omega)]
  exact Z HR3)
 have HD:=O hbad
 clear hw' hbad hc hb3 HX3 HR3 hg3
 have q0:w'.cell? ⟨w2.heap.size+1,0,none⟩=some (.int .i64 d.code):=by rw [cell_of_row w' _ 0 _ _ _ (Z HR4)];rfl
 have t0:w'.cell? ⟨w2.heap.size,0,none⟩=_:=cell_of_row w' _ 0 _ _ _ (Z HX4)
 have y0:w'.frozen? ⟨w2.heap.size,0,none⟩=false:=frozen_of_row _ _ _ _ _ (Z HX4)
 have t1:w'.cell? ⟨w2.heap.size,1,none⟩=_:=cell_of_row w' _ 1 _ _ _ (Z HX4)
 have y1:w'.frozen? ⟨w2.heap.size,1,none⟩=false:=frozen_of_row _ _ _ _ _ (Z HX4)
 have t2:w'.cell? ⟨w2.heap.size,2,none⟩=_:=cell_of_row w' _ 2 _ _ _ (Z HX4)
 have y2:w'.frozen? ⟨w2.heap.size,2,none⟩=false:=frozen_of_row _ _ _ _ _ (Z HX4)
 have t3:w'.cell? ⟨w2.heap.size,3,none⟩=_:=cell_of_row w' _ 3 _ _ _ (Z HX4)
 have y3:w'.frozen? ⟨w2.heap.size,3,none⟩=false:=frozen_of_row _ _ _ _ _ (Z HX4)
 have t4:w'.cell? ⟨w2.heap.size,4,none⟩=_:=cell_of_row w' _ 4 _ _ _ (Z HX4)
 have y4:w'.frozen? ⟨w2.heap.size,4,none⟩=false:=frozen_of_row _ _ _ _ _ (Z HX4)
 have t5:w'.cell? ⟨w2.heap.size,5,none⟩=_:=cell_of_row w' _ 5 _ _ _ (Z HX4)
 have y5:w'.frozen? ⟨w2.heap.size,5,none⟩=false:=frozen_of_row _ _ _ _ _ (Z HX4)
 simp at t0 t1 t2 t3 t4 t5
 go_upto_region 5 with fail
 have hb5:Below w2.heap.size w2 (mH w' w2.heap.size 0 d.code 0 ⟨#[]⟩ (.slice none 0 0) (.slice none 0 0)):=yZ hb4 (Nat.le_refl _)
 have HX5:Hid ((mH w' w2.heap.size 0 d.code 0 ⟨#[]⟩ (.slice none 0 0) (.slice none 0 0)).heap[w2.heap.size]?=some (.cells #[.int .i64 0,.int .i64 d.code,.int .i64 0,.string ⟨#[]⟩,.slice none 0 0,.slice none 0 0] 38 (0,0))):=O (putAll_row (Z HX4))
 change Code.wp _ _ _ _ (mH w' w2.heap.size 0 d.code 0 ⟨#[]⟩ (.slice none 0 0) (.slice none 0 0))
 generalize hW5:mH w' w2.heap.size 0 d.code 0 ⟨#[]⟩ (.slice none 0 0) (.slice none 0 0)=w5 at hb5 HX5 ⊢
 clear hW5 q0 t0 t1 t2 t3 t4 t5 y0 y1 y2 y3 y4 y5 hb4 HX4 HR4
 have e5:d.fr=[]:=by rw [Z HD];rfl
 have e6:d.vs=[]:=by rw [Z HD];rfl
 have e7:(0:Int)=d.num:=by rw [Z HD];rfl
 have e8:(⟨#[]⟩:ByteArray)=d.text:=by rw [Z HD];rfl
 have E5:=O e5
 have E6:=O e6
 have E7:=O e7
 have E8:=O e8
 clear e5 e6 e7 e8
 have k2:w5.cell? ⟨sb,2,none⟩=some (.int .i64 s'.at_):=((Z HL2).below hb5).box.c2
 have t0:w5.cell? ⟨w2.heap.size,0,none⟩=_:=cell_of_row w5 _ 0 _ _ _ (Z HX5)
 have y0:w5.frozen? ⟨w2.heap.size,0,none⟩=false:=frozen_of_row _ _ _ _ _ (Z HX5)
 have t1:w5.cell? ⟨w2.heap.size,1,none⟩=_:=cell_of_row w5 _ 1 _ _ _ (Z HX5)
 have y1:w5.frozen? ⟨w2.heap.size,1,none⟩=false:=frozen_of_row _ _ _ _ _ (Z HX5)
 have t2:w5.cell? ⟨w2.heap.size,2,none⟩=_:=cell_of_row w5 _ 2 _ _ _ (Z HX5)
 have y2:w5.frozen? ⟨w2.heap.size,2,none⟩=false:=frozen_of_row _ _ _ _ _ (Z HX5)
 have t3:w5.cell? ⟨w2.heap.size,3,none⟩=_:=cell_of_row w5 _ 3 _ _ _ (Z HX5)
 have y3:w5.frozen? ⟨w2.heap.size,3,none⟩=false:=frozen_of_row _ _ _ _ _ (Z HX5)
 have t4:w5.cell? ⟨w2.heap.size,4,none⟩=_:=cell_of_row w5 _ 4 _ _ _ (Z HX5)
 have y4:w5.frozen? ⟨w2.heap.size,4,none⟩=false:=frozen_of_row _ _ _ _ _ (Z HX5)
 have t5:w5.cell? ⟨w2.heap.size,5,none⟩=_:=cell_of_row w5 _ 5 _ _ _ (Z HX5)
 have y5:w5.frozen? ⟨w2.heap.size,5,none⟩=false:=frozen_of_row _ _ _ _ _ (Z HX5)
 simp at t0 t1 t2 t3 t4 t5
 go_upto_region 6 with fail
 have hb6:Below w2.heap.size w2 (w5.setCell ⟨w2.heap.size,0,none⟩ (.int .i64 s'.at_)):=hb5.setCell (p:=⟨w2.heap.size,0,none⟩) (Nat.le_refl _) _
 have HX6:Hid ((w5.setCell ⟨w2.heap.size,0,none⟩ (.int .i64 s'.at_)).heap[w2.heap.size]?=some (.cells #[.int .i64 s'.at_,.int .i64 d.code,.int .i64 0,.string ⟨#[]⟩,.slice none 0 0,.slice none 0 0] 38 (0,0))):=O (heap_setCell_same _ _ 0 _ _ _ (Z HX5))
 generalize hW6:w5.setCell ⟨w2.heap.size,0,none⟩ (.int .i64 s'.at_)=w6 at hb6 HX6 ⊢
 clear hW6 k2 t0 t1 t2 t3 t4 t5 y0 y1 y2 y3 y4 y5
 have A6:=O ((Z A2).go hb6)
 have HL6:=O ((Z HL2).below hb6)
 have HB6:Hid (Below B w w6):=O ((Z HB2).trans (hb6.mono (by have:=(Z HB2).size;omega)))
 have HK6:Hid (bM dB w w6):=O ((Z HK2).trans (bM.of_below hb6))
 have H56:Hid (eA w.heap.size w6 (.slice none 0 0) d.fr):=O (by rw [Z E5];exact cD _ _)
 have H66:Hid (dD w.heap.size w6 (.slice none 0 0) d.vs):=O (by rw [Z E6];exact dD.nil _ _)
 clear hb6
 have t0:w6.cell? ⟨w2.heap.size,0,none⟩=_:=cell_of_row w6 _ 0 _ _ _ (Z HX6)
 have y0:w6.frozen? ⟨w2.heap.size,0,none⟩=false:=frozen_of_row _ _ _ _ _ (Z HX6)
 have t1:w6.cell? ⟨w2.heap.size,1,none⟩=_:=cell_of_row w6 _ 1 _ _ _ (Z HX6)
 have y1:w6.frozen? ⟨w2.heap.size,1,none⟩=false:=frozen_of_row _ _ _ _ _ (Z HX6)
 have t2:w6.cell? ⟨w2.heap.size,2,none⟩=_:=cell_of_row w6 _ 2 _ _ _ (Z HX6)
 have y2:w6.frozen? ⟨w2.heap.size,2,none⟩=false:=frozen_of_row _ _ _ _ _ (Z HX6)
 have t3:w6.cell? ⟨w2.heap.size,3,none⟩=_:=cell_of_row w6 _ 3 _ _ _ (Z HX6)
 have y3:w6.frozen? ⟨w2.heap.size,3,none⟩=false:=frozen_of_row _ _ _ _ _ (Z HX6)
 have t4:w6.cell? ⟨w2.heap.size,4,none⟩=_:=cell_of_row w6 _ 4 _ _ _ (Z HX6)
 have y4:w6.frozen? ⟨w2.heap.size,4,none⟩=false:=frozen_of_row _ _ _ _ _ (Z HX6)
 have t5:w6.cell? ⟨w2.heap.size,5,none⟩=_:=cell_of_row w6 _ 5 _ _ _ (Z HX6)
 have y5:w6.frozen? ⟨w2.heap.size,5,none⟩=false:=frozen_of_row _ _ _ _ _ (Z HX6)
 simp at t0 t1 t2 t3 t4 t5
 obtain ⟨⟨r0,r1,r2,r3,r4,r5⟩,x0,x1,x2,x3,x4,x5⟩:=(Z A6).rc
 go_wp2
 refine bodyPost_ret (v:=.agg #[.int .i64 s'.at_,.int .i64 d.code,.int .i64 0,.string ⟨#[]⟩,.slice none 0 0,.slice none 0 0]) (by simp [results,Tryz.results41,go_sem,r0,r1,r2,r3,r4,r5]) rfl ?_
 exact tsay_end (Z HI) rfl rfl (Z E7) (Z E8) (Z HL6) (Z A6) (Z H56) (Z H66) (Z HB6) (Z HK6) hB
end
section
attribute [local go_sem] Oper.semAt_some
theorem vH (sb:Nat) (k:Int) (w:World) :
  Calls Tryz.prog 108 #[.pointer (some ⟨sb,0,none⟩),.int .i64 k] w fun e w'=>e=.returned (.func (.func 152) #[] #[.pointer (some ⟨w.heap.size,0,none⟩),.pointer (some ⟨w.heap.size+1,0,none⟩)])/\w'=(w.alloc (.cells #[.pointer (some ⟨sb,0,none⟩)] 87)).alloc (.cells #[.int .i64 k] 3):=by
 go_enter Tryz.func108,Tryz.ntmps108
 go_wp2
 go_ret
 exact ⟨rfl,rfl⟩
def bA7 (sb b1 b2 b3 b4 b5 b6:Nat):List Value:=[.nilFunc,.int .i64 0,.int .i64 0,.bool false,.bool false,.func (.func 104) #[.pointer (some ⟨sb,0,none⟩)] #[],.int .i64 0,.int .i64 0,.bool false,.bool true,.func (.func 105) #[.pointer (some ⟨sb,0,none⟩)] #[],.int .i64 0,.int .i64 49,.bool false,.bool false,.func (.func 106) #[.pointer (some ⟨sb,0,none⟩)] #[],.int .i64 0,.int .i64 0,.bool false,.bool false,.func (.func 107) #[.pointer (some ⟨sb,0,none⟩)] #[],.int .i64 0,.int .i64 0,.bool false,.bool false,.func (.func 152) #[] #[.pointer (some ⟨b1,0,none⟩),.pointer (some ⟨b2,0,none⟩)],.int .i64 0,.int .i64 0,.bool false,.bool false,.func (.func 152) #[] #[.pointer (some ⟨b3,0,none⟩),.pointer (some ⟨b4,0,none⟩)],.int .i64 0,.int .i64 0,.bool false,.bool false,.func (.func 152) #[] #[.pointer (some ⟨b5,0,none⟩),.pointer (some ⟨b6,0,none⟩)],.int .i64 0,.int .i64 0,.bool false,.bool false,.func (.func 109) #[.pointer (some ⟨sb,0,none⟩)] #[],.int .i64 0,.int .i64 0,.bool false,.bool false,.func (.func 110) #[.pointer (some ⟨sb,0,none⟩)] #[],.int .i64 (-1),.int .i64 3000,.bool false,.bool false,.func (.func 111) #[.pointer (some ⟨sb,0,none⟩)] #[],.int .i64 0,.int .i64 100,.bool false,.bool false,.func (.func 112) #[.pointer (some ⟨sb,0,none⟩)] #[],.int .i64 0,.int .i64 0,.bool false,.bool false,.func (.func 113) #[.pointer (some ⟨sb,0,none⟩)] #[],.int .i64 0,.int .i64 0,.bool true,.bool false,.func (.func 114) #[.pointer (some ⟨sb,0,none⟩)] #[],.int .i64 0,.int .i64 49,.bool false,.bool false]
def bL7 (sb b1 b2 b3 b4 b5 b6:Nat) (j:Nat):Value:=(bA7 sb b1 b2 b3 b4 b5 b6).getD (j - 5) .nilFunc
theorem deeds_of (w:World) (sb b1 b2 b3 b4 b5 b6:Nat) (g1:w.heap[b1]?=some (.cells #[.pointer (some ⟨sb,0,none⟩)] 87 (0,0))) (g2:w.heap[b2]?=some (.cells #[.int .i64 0] 3 (0,0))) (g3:w.heap[b3]?=some (.cells #[.pointer (some ⟨sb,0,none⟩)] 87 (0,0))) (g4:w.heap[b4]?=some (.cells #[.int .i64 1] 3 (0,0))) (g5:w.heap[b5]?=some (.cells #[.pointer (some ⟨sb,0,none⟩)] 87 (0,0))) (g6:w.heap[b6]?=some (.cells #[.int .i64 2] 3 (0,0))) :
  vY w sb (bL7 sb b1 b2 b3 b4 b5 b6) b1 b2 b3 b4 b5 b6 :=
 ⟨⟨rfl,rfl,rfl,rfl,rfl⟩,⟨rfl,rfl,rfl,rfl,rfl⟩,⟨rfl,rfl,rfl,rfl,rfl⟩,⟨rfl,rfl,rfl,rfl,rfl⟩,⟨rfl,rfl,rfl,rfl,rfl⟩,⟨rfl,rfl,rfl,rfl,rfl⟩,⟨rfl,rfl,rfl,rfl,rfl⟩,⟨rfl,rfl,rfl,rfl,rfl⟩,⟨rfl,rfl,rfl,rfl,rfl⟩,⟨rfl,rfl,rfl,rfl,rfl⟩,⟨rfl,rfl,rfl,rfl,rfl⟩,⟨rfl,rfl,rfl,rfl,rfl⟩,⟨rfl,rfl,rfl,rfl,rfl⟩,g1,g2,g3,g4,g5,g6⟩
theorem wp_run_value {P:Program} {o:Oper} {a:Act} {w:World} {K:Act->World->Prop} {Q:Exit->Act->World->Prop} (v:Value) (h:(execOp a.eval o).run P w=.ok (.value v) w) (hk:K (a.put o.dst v) w):o.wp P a w K Q:=by
 unfold Oper.wp
 rw [h]
 exact hk
theorem zA (b:Nat) (t:TypeId):∀ (vs:List Value) (o:Nat) (cs:Array Value) (w:World),w.heap[b]?=some (.cells cs t (0,0))->∃ cs',(w.setCells b o vs).heap[b]?=some (.cells cs' t (0,0))/\cs'.size=cs.size/\(∀ j,j<o->cs'[j]?=cs[j]?)/\(∀ j,j<vs.length->o+j<cs.size->cs'[o+j]?=vs[j]?)
 | [],o,cs,w,h=>⟨cs,h,rfl,fun _ _=>rfl,fun j hj=>absurd hj (Nat.not_lt_zero _)⟩
 | v :: r,o,cs,w,h=>by
  have h1:(w.setCell ⟨b,o,none⟩ v).heap[b]?=some (.cells (cs.setIfInBounds o v) t (0,0)):=heap_setCell_same _ _ o cs _ _ h
  obtain ⟨cs',e,hz,h2,h3⟩:=zA b t r (o+1) _ _ h1
  refine ⟨cs',e,by simpa using hz,fun j hj=>?_,fun j hj hb=>?_⟩
  ·rw [h2 j (by omega),Array.getElem?_setIfInBounds_ne (by omega)]
  cases j with
  | zero=>rw [Nat.add_zero,h2 o (by omega),Array.getElem?_setIfInBounds_self_of_lt (by simpa using hb)];rfl
  | succ j =>
   have:=h3 j (by simpa using hj) (by simp;omega)
   rw [show o+(j+1)=o+1+j by omega,this];rfl
theorem six_boxes (w:World) (o0:Obj) (b0:Nat) (h:w.heap[b0]?=some o0) (hb:b0<w.heap.size) (o1 o2 o3 o4 o5 o6:Obj):∃ W,W=(((((w.alloc o1).alloc o2).alloc o3).alloc o4).alloc o5).alloc o6/\W.heap[b0]?=some o0/\W.heap[w.heap.size]?=some o1/\W.heap[w.heap.size+1]?=some o2/\W.heap[w.heap.size+1+1]?=some o3/\W.heap[w.heap.size+1+1+1]?=some o4/\W.heap[w.heap.size+1+1+1+1]?=some o5/\W.heap[w.heap.size+1+1+1+1+1]?=some o6/\Below w.heap.size w W:=by
 have h1:=World.alloc_heap_new w o1
 have h2:=World.alloc_heap_new (w.alloc o1) o2
 have h3:=World.alloc_heap_new ((w.alloc o1).alloc o2) o3
 have h4:=World.alloc_heap_new (((w.alloc o1).alloc o2).alloc o3) o4
 have h5:=World.alloc_heap_new ((((w.alloc o1).alloc o2).alloc o3).alloc o4) o5
 have h6:=World.alloc_heap_new (((((w.alloc o1).alloc o2).alloc o3).alloc o4).alloc o5) o6
 simp only [World.size_alloc] at h1 h2 h3 h4 h5 h6
 refine ⟨_,rfl,?_,?_,?_,?_,?_,?_,h6,?_⟩
 ·rw [Below.heap_alloc _ _ _ (by simp<;>omega),Below.heap_alloc _ _ _ (by simp<;>omega),Below.heap_alloc _ _ _ (by simp<;>omega),Below.heap_alloc _ _ _ (by simp<;>omega),Below.heap_alloc _ _ _ (by simp<;>omega),Below.heap_alloc _ _ _ hb];exact h
 ·rw [Below.heap_alloc _ _ _ (by simp<;>omega),Below.heap_alloc _ _ _ (by simp<;>omega),Below.heap_alloc _ _ _ (by simp<;>omega),Below.heap_alloc _ _ _ (by simp<;>omega),Below.heap_alloc _ _ _ (by simp)];exact h1
 ·rw [Below.heap_alloc _ _ _ (by simp<;>omega),Below.heap_alloc _ _ _ (by simp<;>omega),Below.heap_alloc _ _ _ (by simp<;>omega),Below.heap_alloc _ _ _ (by simp)];exact h2
 ·rw [Below.heap_alloc _ _ _ (by simp<;>omega),Below.heap_alloc _ _ _ (by simp<;>omega),Below.heap_alloc _ _ _ (by simp)];exact h3
 ·rw [Below.heap_alloc _ _ _ (by simp<;>omega),Below.heap_alloc _ _ _ (by simp)];exact h4
 ·rw [Below.heap_alloc _ _ _ (by simp)];exact h5
 exact ((((((Below.refl _ _).alloc (Nat.le_refl _) _).alloc (by simp) _).alloc (by simp<;>omega) _).alloc (by simp<;>omega) _).alloc (by simp<;>omega) _).alloc (by simp<;>omega) _
theorem zero_session (ma pa:Option Addr) (ml mc pl pc:Nat):(((Tryz.zeroCells176.setIfInBounds 0 (.slice ma ml mc)).setIfInBounds 1 (.slice pa pl pc)).setIfInBounds 2 (.int .i64 (-1))).size=75/\(((Tryz.zeroCells176.setIfInBounds 0 (.slice ma ml mc)).setIfInBounds 1 (.slice pa pl pc)).setIfInBounds 2 (.int .i64 (-1)))[0]?=some (.slice ma ml mc)/\(((Tryz.zeroCells176.setIfInBounds 0 (.slice ma ml mc)).setIfInBounds 1 (.slice pa pl pc)).setIfInBounds 2 (.int .i64 (-1)))[1]?=some (.slice pa pl pc)/\(((Tryz.zeroCells176.setIfInBounds 0 (.slice ma ml mc)).setIfInBounds 1 (.slice pa pl pc)).setIfInBounds 2 (.int .i64 (-1)))[2]?=some (.int .i64 (-1))/\(((Tryz.zeroCells176.setIfInBounds 0 (.slice ma ml mc)).setIfInBounds 1 (.slice pa pl pc)).setIfInBounds 2 (.int .i64 (-1)))[3]?=some (.slice none 0 0)/\(((Tryz.zeroCells176.setIfInBounds 0 (.slice ma ml mc)).setIfInBounds 1 (.slice pa pl pc)).setIfInBounds 2 (.int .i64 (-1)))[4]?=some (.slice none 0 0) :=
 ⟨by simp [Tryz.zeroCells176_size],by kernel_rfl,by kernel_rfl,by kernel_rfl,by kernel_rfl,by kernel_rfl⟩
theorem bL8 (ma pa:Option Addr) (ml mc pl pc:Nat) (w:World) :
  Calls Tryz.prog 40 #[.slice ma ml mc,.slice pa pl pc] w fun e w'=>∃ sb b1 b2 b3 b4 b5 b6,e=.returned (.pointer (some ⟨sb,0,none⟩))/\w.heap.size<=sb/\jY w' sb (.slice ma ml mc) (.slice pa pl pc) (-1) (.slice none 0 0) (.slice none 0 0) (bL7 sb b1 b2 b3 b4 b5 b6)/\vY w' sb (bL7 sb b1 b2 b3 b4 b5 b6) b1 b2 b3 b4 b5 b6/\Below w.heap.size w w':=by
 go_enter Tryz.func40,Tryz.ntmps40
 go_wp2_with fail
 have H1:Hid ((w.alloc (.cells (((Tryz.zeroCells176.setIfInBounds 0 (.slice ma ml mc)).setIfInBounds 1 (.slice pa pl pc)).setIfInBounds 2 (.int .i64 (-1))) 176)).heap[w.heap.size]?=_):=O (heap_alloc_new w _)
 have HB1:Hid (Below w.heap.size w (w.alloc (.cells (((Tryz.zeroCells176.setIfInBounds 0 (.slice ma ml mc)).setIfInBounds 1 (.slice pa pl pc)).setIfInBounds 2 (.int .i64 (-1))) 176))):=O (bH w _)
 have sz1:(w.alloc (.cells (((Tryz.zeroCells176.setIfInBounds 0 (.slice ma ml mc)).setIfInBounds 1 (.slice pa pl pc)).setIfInBounds 2 (.int .i64 (-1))) 176)).heap.size=w.heap.size+1:=by simp
 have HC0:=O (zero_session ma pa ml mc pl pc)
 generalize (((Tryz.zeroCells176.setIfInBounds 0 (.slice ma ml mc)).setIfInBounds 1 (.slice pa pl pc)).setIfInBounds 2 (.int .i64 (-1)))=C0 at H1 HB1 sz1 HC0 ⊢
 generalize hW1:w.alloc (.cells C0 176)=w1 at H1 HB1 sz1 ⊢
 clear hW1
 refine (vH w.heap.size 0 _).mono ?_
 rintro e w2 ⟨rfl,hw2⟩
 subst hw2
 go_wp2_with fail
 refine (vH w.heap.size 1 _).mono ?_
 rintro e w3 ⟨rfl,hw3⟩
 subst hw3
 go_wp2_with fail
 refine (vH w.heap.size 2 _).mono ?_
 rintro e w4 ⟨rfl,hw4⟩
 subst hw4
 rename_i KA hKA
 refine hKA _ _ ?_
 clear hKA
 simp only [World.size_alloc,sz1]
 refine wpList_plain rfl (fun KK hK=>?_)
 go_simp
 refine hK _ _ ?_
 clear hK KK
 try simp only [Act.put,sy]
 refine wpList_plain rfl (fun KK hK=>?_)
 go_simp
 refine hK _ _ ?_
 clear hK KK
 try simp only [Act.put,sy]
 refine wpList_plain rfl (fun KK hK=>?_)
 go_simp
 refine hK _ _ ?_
 clear hK KK
 try simp only [Act.put,sy]
 refine wpList_plain rfl (fun KK hK=>?_)
 go_simp
 refine hK _ _ ?_
 clear hK KK
 try simp only [Act.put,sy]
 refine wpList_plain rfl (fun KK hK=>?_)
 go_simp
 refine hK _ _ ?_
 clear hK KK
 try simp only [Act.put,sy]
 refine wpList_plain rfl (fun KK hK=>?_)
 go_simp
 refine hK _ _ ?_
 clear hK KK
 try simp only [Act.put,sy]
 refine wpList_plain rfl (fun KK hK=>?_)
 go_simp
 refine hK _ _ ?_
 clear hK KK
 try simp only [Act.put,sy]
 refine wpList_plain rfl (fun KK hK=>?_)
 go_simp
 refine hK _ _ ?_
 clear hK KK
 try simp only [Act.put,sy]
 refine wpList_plain rfl (fun KK hK=>?_)
 go_simp
 refine hK _ _ ?_
 clear hK KK
 try simp only [Act.put,sy]
 refine wpList_plain rfl (fun KK hK=>?_)
 go_simp
 refine hK _ _ ?_
 clear hK KK
 try simp only [Act.put,sy]
 refine wpList_plain rfl (fun KK hK=>?_)
 go_simp
 refine hK _ _ ?_
 clear hK KK
 try simp only [Act.put,sy]
 refine wpList_plain rfl (fun KK hK=>?_)
 go_simp
 refine hK _ _ ?_
 clear hK KK
 try simp only [Act.put,sy]
 refine wpList_plain rfl (fun KK hK=>?_)
 go_simp
 refine hK _ _ ?_
 clear hK KK
 try simp only [Act.put,sy]
 refine wpList_plain rfl (fun KK hK=>?_)
 go_simp
 refine hK _ _ ?_
 clear hK KK
 try simp only [Act.put,sy]
 refine wpList_plain rfl (fun KK hK=>?_)
 go_simp
 refine hK _ _ ?_
 clear hK KK
 try simp only [Act.put,sy]
 refine wpList_plain rfl (fun KK hK=>?_)
 go_simp
 refine hK _ _ ?_
 clear hK KK
 try simp only [Act.put,sy]
 refine wpList_plain rfl (fun KK hK=>?_)
 go_simp
 refine hK _ _ ?_
 clear hK KK
 try simp only [Act.put,sy]
 refine wpList_plain rfl (fun KK hK=>?_)
 go_simp
 refine hK _ _ ?_
 clear hK KK
 try simp only [Act.put,sy]
 refine wpList_plain rfl (fun KK hK=>?_)
 go_simp
 refine hK _ _ ?_
 clear hK KK
 try simp only [Act.put,sy]
 refine wpList_plain rfl (fun KK hK=>?_)
 refine wp_run_value (.agg (bA7 (w.heap.size) (w.heap.size+1) (w.heap.size+1+1) (w.heap.size+1+1+1) (w.heap.size+1+1+1+1) (w.heap.size+1+1+1+1+1) (w.heap.size+1+1+1+1+1+1)).toArray) (by kernel_rfl) ?_
 refine hK _ _ ?_
 clear hK KK
 simp only [Act.put,sx]
 generalize hcs:bA7 (w.heap.size) (w.heap.size+1) (w.heap.size+1+1) (w.heap.size+1+1+1) (w.heap.size+1+1+1+1) (w.heap.size+1+1+1+1+1) (w.heap.size+1+1+1+1+1+1)=DC
 refine wpList_plain rfl (fun KK hK=>?_)
 go_simp
 refine hK _ _ ?_
 clear hK KK
 try simp only [Act.put,sy]
 refine wpList_plain rfl (fun KK hK=>?_)
 go_simp
 refine hK _ _ ?_
 clear hK KK
 try simp only [Act.put,sy]
 have hlen:DC.length=70:=by rw [<- hcs];rfl
 have hone:DC.toArray.all (·.oneCell')=true:=all_oneCell_toArray (List.all_eq_true.1 (by rw [<- hcs];rfl))
 have HCS:=O hcs
 clear hcs
 obtain ⟨W6,hW6,q0,q1,q2,q3,q4,q5,q6,qb⟩:=six_boxes w1 (.cells C0 176) w.heap.size (Z H1) (by omega) (.cells #[.pointer (some ⟨w.heap.size,0,none⟩)] 87) (.cells #[.int .i64 0] 3) (.cells #[.pointer (some ⟨w.heap.size,0,none⟩)] 87) (.cells #[.int .i64 1] 3) (.cells #[.pointer (some ⟨w.heap.size,0,none⟩)] 87) (.cells #[.int .i64 2] 3)
 rw [<- hW6]
 rw [sz1] at q1 q2 q3 q4 q5 q6
 clear hW6
 obtain ⟨z0,z1,z2,z3,z4,z5⟩:=Z HC0
 have hth:W6.there w.heap.size 5 DC.toArray.size:=fun j hj=>by
  rw [List.size_toArray,hlen] at hj
  refine ⟨?_,frozen_of_row _ _ _ _ _ q0⟩
  rw [cell_of_row W6 _ _ _ _ _ q0,Array.getElem?_eq_getElem (by omega)];rfl
 refine wpList_store_mid rfl 174 (.tmp 52) (.tmp 50) rfl w.heap.size 5 DC.toArray rfl rfl hth (by rw [List.size_toArray,hlen];kernel_rfl) hone ?_
 obtain ⟨cs',r0,rz,rl,rh⟩:=zA w.heap.size 176 DC 5 C0 W6 q0
 have HB7:Hid (Below w.heap.size w (W6.setCells w.heap.size 5 DC)):=O (mG _ _ _ _ ((Z HB1).trans (qb.mono (by omega))) (Nat.le_refl _))
 have HSB:Hid (jY (W6.setCells w.heap.size 5 DC) w.heap.size (.slice ma ml mc) (.slice pa pl pc) (-1) (.slice none 0 0) (.slice none 0 0) (bL7 (w.heap.size) (w.heap.size+1) (w.heap.size+1+1) (w.heap.size+1+1+1) (w.heap.size+1+1+1+1) (w.heap.size+1+1+1+1+1) (w.heap.size+1+1+1+1+1+1))):=O ⟨cs',r0,by omega,(rl 0 (by omega)).trans z1,(rl 1 (by omega)).trans z2,(rl 2 (by omega)).trans z3,(rl 3 (by omega)).trans z4,(rl 4 (by omega)).trans z5,fun j h5 h75=>by
  have h:=rh (j - 5) (by omega) (by omega)
  rw [show 5+(j - 5)=j by omega] at h
  rw [h,bL7,Z HCS,List.getD_eq_getElem?_getD,List.getElem?_eq_getElem (by omega)];rfl⟩
 have HDD:Hid (vY (W6.setCells w.heap.size 5 DC) w.heap.size (bL7 (w.heap.size) (w.heap.size+1) (w.heap.size+1+1) (w.heap.size+1+1+1) (w.heap.size+1+1+1+1) (w.heap.size+1+1+1+1+1) (w.heap.size+1+1+1+1+1+1)) (w.heap.size+1) (w.heap.size+1+1) (w.heap.size+1+1+1) (w.heap.size+1+1+1+1) (w.heap.size+1+1+1+1+1) (w.heap.size+1+1+1+1+1+1)):=O (deeds_of _ _ _ _ _ _ _ _ ((eP _ _ _ _ _ (by omega)).trans q1) ((eP _ _ _ _ _ (by omega)).trans q2) ((eP _ _ _ _ _ (by omega)).trans q3) ((eP _ _ _ _ _ (by omega)).trans q4) ((eP _ _ _ _ _ (by omega)).trans q5) ((eP _ _ _ _ _ (by omega)).trans q6))
 clear r0 rz rl rh q0 q1 q2 q3 q4 q5 q6 qb hth z0 z1 z2 z3 z4 z5
 rw [List.toList_toArray]
 generalize W6.setCells w.heap.size 5 DC=W7 at HB7 HSB HDD ⊢
 go_wp2
 go_ret
 exact ⟨_,_,_,_,_,_,_,rfl,Nat.le_refl _,Z HSB,Z HDD,Z HB7⟩
end
section
attribute [local go_sem] Oper.semAt_some
theorem dM.snocS {P:TypeId->Prop} {B:Nat} {w w2 W1 W':World} {v v':Value} {ts:List Tl} {x:Tl} (h:dM B w v ts) (hs:bM P w w2) (p1:P 38) (p2:P 42) (p3:P 40) (hb:Below w2.heap.size w2 W1) (hg:W1.grownBy W' v.ownBlock) (ho:W'.ownsRow B 38 6 v' (ts.length+1) (dP ts ++ [.int .i64 x.at_,.int .i64 x.d.code,.int .i64 x.d.num,.string x.d.text,x.v5,x.v6]))
  (hf:eA w.heap.size w2 x.v5 x.d.fr) (hv:dD w.heap.size w2 x.v6 x.d.vs) (hB:B<=w.heap.size):dM B W' v' (ts ++ [x]):=by
 have h2:=h.same hs p1 p2 p3
 have r1:=bN h2.row hb
 have s1:bM (fun t=>t≠38) W1 W':=bM.grown r1 hg (fun q=>q rfl)
 refine ⟨by rw [List.length_append,bB9];exact ho,fun y hy=>?_,fun y hy=>?_,?_⟩
 ·rcases List.mem_append.1 hy with hy | hy
  ·exact cK ((h2.fr y hy).below hb) s1 (by decide)
  rw [List.mem_singleton.1 hy]
  exact eD (cK (eA.below hf hb) s1 (by decide)) hB
 ·rcases List.mem_append.1 hy with hy | hy
  ·exact ((h2.vs y hy).below hb).same s1 (by decide)
  rw [List.mem_singleton.1 hy]
  exact ((hv.below hb).same s1 (by decide)).low hB
 refine List.pairwise_append.2 ⟨h.dis,List.pairwise_singleton _ _,fun y hy z hz=>?_⟩
 rw [List.mem_singleton.1 hz]
 constructor
 ·intro b e e'
  have h1:=cJ (eM (h.fr y hy) b e).2.choose_spec
  have h3:=(eM hf b e').1
  omega
 intro b e e'
 have h1:=cJ (eM (h.vs y hy).row b e).2.choose_spec
 have h3:=(eM hv.row b e').1
 omega
theorem dM.low {B B':Nat} {w:World} {v:Value} {ts:List Tl} (h:dM B w v ts) (hb:B'<=B):dM B' w v ts :=
 ⟨eD h.row hb,fun x hx=>eD (h.fr x hx) hb,fun x hx=>(h.vs x hx).low hb,h.dis⟩
theorem zB (lo la:Nat) (v1 v2 av:Value) (nf:Nat) (fns:Nat->ByteArray) (n:Nat) (f:Nat->M) (na:Nat) (A:Nat->Ak) (w:World) (h1:eE lo w v1 nf fns) (h2:bQ lo w v2 n f) (h3:bH6 la w av na A) (hg:w.cell? ⟨0,0,none⟩=some (.iface 298 (.agg #[.pointer (some ⟨4,99,none⟩)]))) :
  Calls Tryz.prog 11 #[.agg #[v1,v2],av] w fun e w'=>(∃ v ts,e=.returned v/\pR nf fns n f na A ts/\dM w.heap.size w' v ts)/\Below w.heap.size w w':=by
 by_cases hsd:¬ cB nf fns n f
 ·obtain ⟨aa,ac,rfl,-,-⟩:=h3
  refine (bL6 lo v1 v2 nf fns n f aa na ac w h1 h2 hsd).mono ?_
  rintro e w' ⟨rfl,hb⟩
  exact ⟨⟨_,[],rfl,.inr ⟨fun h=>hsd h.1,rfl⟩,dM.nil _ _⟩,hb⟩
 have hsd:=Classical.not_not.1 hsd
 have HS:=O hsd;clear hsd
 have H1:=O h1;clear h1
 have H2:=O h2
 have H3:=O h3
 have HG:=O hg
 have hgl:0<w.heap.size:=bV hg
 clear hg
 obtain ⟨aa,ac,rfl,hna,-⟩:=h3
 obtain ⟨a2,cap2,rfl,hn2,-⟩:=h2
 unfold maxLen at hna hn2
 have T0:=O (cS.new w v1 (.slice a2 n cap2))
 go_enter Tryz.func11,Tryz.ntmps11
 go_wp2_with fail
 refine (mU lo _ _ nf fns n f _ ((Z H1).below (Z T0).below) ((Z H2).below (Z T0).below)).mono ?_
 rintro e w1 ⟨⟨pv,c,m,rfl,ha,hp,pa,pn,pc,rfl⟩,hb1⟩
 have hc:c=0:=ha.zero.1.2 (Z HS)
 have hm:m=0:=ha.zero.2 hc
 subst hc
 subst hm
 have HP1:=O (hp rfl)
 clear hp
 have BA:=O (bH w1 (.cells #[.int .i64 0,.int .i64 0] 49))
 have T1:=O (((Z T0).go hb1).go (Z BA))
 have HP2:=O ((Z HP1).below (Z BA))
 clear hb1 T0 ha HP1
 by_cases h5:¬ na<=500
 ·have hd5:decide ((500:Int)<(na:Int))=true:=by simp;omega
  go_wp2
  go_ret
  exact ⟨⟨_,[],rfl,.inr ⟨fun h=>h5 h.2,rfl⟩,dM.nil _ _⟩,(Z T1).below⟩
 have h5:na<=500:=Classical.not_not.1 h5
 have hd5:decide ((500:Int)<(na:Int))=false:=by simp;omega
 obtain ⟨w2,hw2⟩:∃ w2,w2=w1.alloc (.cells #[.int .i64 0,.int .i64 0] 49):=⟨_,rfl⟩
 have g1:w2.cell? ⟨w.heap.size,1,none⟩=some (.slice a2 n cap2):=by rw [hw2];exact (Z T1).b1
 have hs2:w.heap.size<=w2.heap.size:=by rw [hw2];exact (Z T1).below.size
 have HW2:Hid (Below w.heap.size w w2):=O (by rw [hw2];exact (Z T1).below)
 rw [<- hw2] at HP2
 go_upto_region 4 with fail
 rw [<- hw2]
 clear hw2 BA T1
 go_wp2_with fail
 refine (bL8 a2 pa n cap2 pn pc w2).mono ?_
 rintro e w3 ⟨sb,b1,b2,b3,b4,b5,b6,rfl,hsb,hbx,hdd,hb3⟩
 generalize bL7 sb b1 b2 b3 b4 b5 b6=D at hbx hdd
 have HSS0:Hid (SS w2.heap.size w3 sb (.slice a2 n cap2) (.slice pa pn pc) n f ⟨-1,[],[]⟩ (.slice none 0 0) (.slice none 0 0) D):=O ⟨hbx,⟨fun _=>.nilFunc,World.ownsRow_nil _ _ _ _,fun i hi=>absurd hi (Nat.not_lt_zero _)⟩,⟨[],World.ownsRow_nil _ _ _ _,fun i x h=>by cases h⟩,hsb⟩
 have HDD0:=O hdd
 have HB3:=O hb3
 have hs3:w2.heap.size<=w3.heap.size:=hb3.size
 clear hbx hdd hb3 g1
 obtain ⟨mc,hmc⟩:∃ mc,mc=madeCells #[.int .i64 0,.int .i64 0,.int .i64 0,.string ByteArray.empty,.slice none 0 0,.slice none 0 0] (na*6):=⟨_,rfl⟩
 obtain ⟨i1,hi0,hz0,hz1,hz2⟩:=info_parts bQ2
 have hmk:∀ w,(Instr.makeSlice 30 (.int .i64 0) (.int .i64 na)).run Tryz.prog w=.ok (.slice (some ⟨w.heap.size,0,none⟩) 0 na) (w.alloc (.cells mc 38)):=fun w=>by
  have hr:=run_make (P:=Tryz.prog) w 30 38 i1 _ Tryz.underlying30 hi0 hz0 .i64 .i64 0 na (by omega) (by omega) (by rw [hz2];omega) (by omega)
  rw [hmc,hr,hz1]
  simp
  rfl
 have HT0:Hid (dM w2.heap.size (w3.alloc (.cells mc 38)) (.slice (some ⟨w3.heap.size,0,none⟩) 0 na) []):=O ⟨World.ownsRow_made w3 mc na hs3 (by unfold maxLen;omega) (by rw [hmc,size_madeCells]),(fun x h=>by cases h),(fun x h=>by cases h),List.Pairwise.nil⟩
 have IT:=O (And.intro hi0 (And.intro hz0 (And.intro hz1 hz2)));clear hi0 hz0 hz1 hz2 hmc
 have BM:=O (bH w3 (.cells mc 38))
 have HSS1:=O ((Z HSS0).below (Z BM))
 have HDD1:=O ((Z HDD0).same (bM.of_below (P:=fun _=>True) (Z BM)) trivial trivial)
 have HB4:=O ((Z HB3).trans ((Z BM).mono hs3))
 clear HSS0 HDD0 HB3
 go_wp2_with fail
 clear hmk
 go_loopg [8,33] na (fun g0 ov i W=>∃ (q:Nat) (s:LS) (ts:List Tl) (oa:Option Addr) (oc:Nat) (tv uv:Value),q+g0=na/\i=.int .i64 q/\ov=.slice oa q oc/\ts.length=q/\pD n f ⟨-1,[],[]⟩ ((List.range q).map A) s (ts.map fun x=>(x.at_,x.d))/\dM w2.heap.size W (.slice oa q oc) ts/\SS w2.heap.size W sb (.slice a2 n cap2) (.slice pa pn pc) n f s tv uv D/\vY W sb D b1 b2 b3 b4 b5 b6/\gF n s/\s.past.length<=q/\Below w2.heap.size w2 W)
 case atStart=>exact ⟨0,⟨-1,[],[]⟩,[],_,_,_,_,by omega,rfl,rfl,rfl,pD.nil _,Z HT0,Z HSS1,Z HDD1,gF.start n,Nat.le_refl _,Z HB4⟩
 case round =>
  clear HT0 HSS1 HDD1 HB4 BM
  obtain ⟨q,s,ts,oa,oc,tv,uv,hq,rfl,rfl,htl,hask,htd,hss,hdd,hok,hpl,hb⟩:=hrel
  have HASK:=O hask
  have HTD:=O htd
  have HSS:=O hss
  have HDD:=O hdd
  have HOK:=O hok
  have HPL:=O hpl
  have HBB:=O hb
  have HTL:=O htl
  have hws:w2.heap.size<=wr.heap.size:=hb.size
  have HWR:=O ((Z HW2).trans (hb.mono hs2))
  clear hask htd hss hdd hok hpl htl hb
  by_cases hlt:q<na
  ·have hq1:(q:Int)<(na:Int):=by omega
   have hq0:(0:Int)<=(q:Int):=by omega
   have wq:IntKind.i64.wrap ((q:Int)+1)=((q+1:Nat):Int):=by rw [IntKind.wrap_i64];omega
   obtain ⟨_,_,e,_,hak⟩:=(Z H3).below (Z HWR)
   cases e
   obtain ⟨ab,ao,rfl,c0,c1,c2,c3,c4,c5,c6,z1,z2,-⟩:=hak q hlt
   clear hak
   have BW:=O (bH wr (.cells #[.int .i64 (A q).op,.int .i64 (A q).n,.string (A q).name,.int .i64 (A q).stop.kind,.int .i64 (A q).stop.fn,.int .i64 (A q).stop.line,.string (A q).stop.name] 47))
   have HBW:=O ((Z HBB).trans ((Z BW).mono hws))
   have HWW:=O ((Z HWR).trans ((Z BW).mono (by omega)))
   go_wp2_with fail
   refine (tell_any w2.heap.size sb lo _ (.slice a2 n cap2) (.slice pa pn pc) tv uv D nf fns n f s (A q) _ ((Z HSS).below (Z BW)) (fun W hW=>(Z H2).below ((Z HWW).trans (hW.mono hs2))) (fun W hW=>(Z HP2).below ((Z HBW).trans hW)) (Z HS) (Z HOK) (by have:=Z HPL;omega) (Z HBW).size z1 z2 b1 b2 b3 b4 b5 b6 ((Z HDD).same (bM.of_below (P:=fun _=>True) (Z BW)) trivial trivial) (by omega) (bG (Z HWW) (Z HG))).mono ?_
   rintro e w5 ⟨s',d,v5,v6,rfl,hai,⟨tv',uv',hl5⟩,hf5,hv6,hb5,hk5⟩
   have HAI:=O hai
   have HL5:=O hl5
   have HF5:=O hf5
   have HV6:=O hv6
   have HK5:=O hk5
   have HB5:=O ((Z HBW).trans hb5)
   obtain ⟨a5,cp5,rfl⟩:=bR hf5
   obtain ⟨a6,cp6,rfl⟩:=bR hv6.row
   obtain ⟨ln5,hln5⟩:∃ l,l=d.fr.length:=⟨_,rfl⟩
   obtain ⟨ln6,hln6⟩:∃ l,l=d.vs.length:=⟨_,rfl⟩
   rw [<- hln5] at HF5
   rw [<- hln6] at HV6
   rw [<- hln5,<- hln6]
   clear hai hl5 hf5 hv6 hb5 hk5 c0 c1 c2 c3 c4 c5 c6 hln5 hln6
   obtain ⟨zz,hzz⟩:∃ zz,zz=s'.at_:=⟨_,rfl⟩
   rw [<- hzz]
   have HZZ:=O hzz
   clear hzz
   have X1:=O (bH w5 (.cells #[.int .i64 zz,.int .i64 d.code,.int .i64 d.num,.string d.text,.slice a5 ln5 cp5,.slice a6 ln6 cp6] 38))
   have HTK:=O ((((Z HTD).below (Z BW)).same (Z HK5) (by unfold dB;decide) (by unfold dB;decide) (by unfold dB;decide)).below (Z X1))
   have HRW:=O (Z HTK).row
   rw [Z HTL] at HRW
   have HNW:Hid (∀ j u,([.int .i64 zz,.int .i64 d.code,.int .i64 d.num,.string d.text,.slice a5 ln5 cp5,.slice a6 ln6 cp6]:List Value)[j]?=some u->(w5.alloc (.cells #[.int .i64 zz,.int .i64 d.code,.int .i64 d.num,.string d.text,.slice a5 ln5 cp5,.slice a6 ln6 cp6] 38)).cell? ((⟨w5.heap.size,0,none⟩:Addr).add j)=some u):=O (World.news_of_block (cs:=#[.int .i64 zz,.int .i64 d.code,.int .i64 d.num,.string d.text,.slice a5 ln5 cp5,.slice a6 ln6 cp6]) (t:=38) (fr:=(0,0)) (heap_alloc_new w5 (.cells #[.int .i64 zz,.int .i64 d.code,.int .i64 d.num,.string d.text,.slice a5 ln5 cp5,.slice a6 ln6 cp6] 38)))
   have hw5:w2.heap.size<=w5.heap.size:=(Z HB5).size
   go_wp2_with (at_builtin;refine wpList_append_lies _ (by rfl) _ _ _ (by rfl) w2.heap.size 38 i1 _ 6 88 Tryz.underlying30 (Z IT).1 (Z IT).2.1 (Z IT).2.2.1 (Z IT).2.2.2 rfl (by omega) (.slice oa q oc) q (dP ts) (by rfl) (Z HRW) ⟨w5.heap.size,0,none⟩ 1 1 [.int .i64 zz,.int .i64 d.code,.int .i64 d.num,.string d.text,.slice a5 ln5 cp5,.slice a6 ln6 cp6] (by rfl) (by rfl) (Z HNW) (by simp [Value.oneCell']) (by omega) (by unfold maxLen;omega) (by omega) (by simp;omega) (w5.heap.size+1) (by simp) ?_;intro g2 cp2 w7 hown hgrow _ _;have HO7:=O hown;have HG7:=O hgrow;clear hown hgrow)
   have hgr:bM (fun t=>t≠38) (w5.alloc (.cells #[.int .i64 zz,.int .i64 d.code,.int .i64 d.num,.string d.text,.slice a5 ln5 cp5,.slice a6 ln6 cp6] 38)) w7:=bM.grown (Z HRW) (Z HG7) (fun q=>q rfl)
   have HL7:Hid (SS w2.heap.size w7 sb (.slice a2 n cap2) (.slice pa pn pc) n f s' tv' uv' D):=O (((Z HL5).below (Z X1)).same hgr (by decide) (by decide) (by decide) (by decide) (by decide) (by decide) (by decide) (by decide) (by decide))
   have HD7:Hid (vY w7 sb D b1 b2 b3 b4 b5 b6):=O (((((Z HDD).same (bM.of_below (P:=fun _=>True) (Z BW)) trivial trivial).same (Z HK5) (by unfold dB;decide) (by unfold dB;decide)).same (bM.of_below (P:=fun _=>True) (Z X1)) trivial trivial).same hgr (by decide) (by decide))
   have HT7:Hid (dM w2.heap.size w7 (.slice (some ⟨g2,0,none⟩) (q+1) cp2) (ts ++ [⟨zz,d,.slice a5 ln5 cp5,.slice a6 ln6 cp6⟩])):=O (((Z HTD).below (Z BW)).snocS (x:=⟨zz,d,.slice a5 ln5 cp5,.slice a6 ln6 cp6⟩) (Z HK5) (by unfold dB;decide) (by unfold dB;decide) (by unfold dB;decide) (Z X1) (Z HG7) (by rw [Z HTL];exact Z HO7) (Z HF5) (Z HV6) (Z HBW).size)
   have HB7:Hid (Below w2.heap.size w2 w7):=O (((Z HB5).trans ((Z X1).mono hw5)).grown (Z HG7) (by simp;omega) (fun b e=>(eM (Z HRW) b e).1))
   clear hgr
   go_roundg (na - (q+1))
   case measure=>omega
   case rel=>exact ⟨q+1,s',ts ++ [⟨zz,d,.slice a5 ln5 cp5,.slice a6 ln6 cp6⟩],some ⟨g2,0,none⟩,cp2,tv',uv',by omega,by go_num,rfl,by rw [List.length_append,Z HTL];rfl,by rw [List.range_succ,List.map_append,List.map_append,List.map_singleton,List.map_singleton];dsimp only;rw [Z HZZ];exact pD.snoc (Z HASK) (Z HAI),Z HT7,Z HL7,Z HD7,(Z HOK).next (Z HAI),by have:=past_len (Z HAI);have:=Z HPL;omega,Z HB7⟩
  have hq1:¬ (q:Int)<(na:Int):=by omega
  obtain rfl:q=na:=by omega
  go_wp2_with fail
  go_ret
  first | exact ⟨⟨_,rfl,ts,.inl ⟨⟨Z HS,h5⟩,s,Z HASK⟩,(Z HTD).low hs2⟩,Z HWR⟩ | exact ⟨⟨_,ts,rfl,.inl ⟨⟨Z HS,h5⟩,s,Z HASK⟩,(Z HTD).low hs2⟩,Z HWR⟩
end
end Go.Proofs.YtmnmeaeicjhkhaaGreatDoor
