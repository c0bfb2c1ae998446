import Derived.Test.YtmnmeaeicjhkhaaGreatDoorGScz
set_option maxRecDepth 100000
set_option maxHeartbeats 16000000
namespace Go.Proofs.YtmnmeaeicjhkhaaGreatDoor
open Go.RowKit
def ListAt (w:World):List Fr→Option Addr→Prop
 | [],p=>p=none
 | f :: r,p=>∃ b p',p=some ⟨b,0,none⟩∧w.cell? ⟨b,0,none⟩=some (.int .i64 f.fn)∧w.cell? ⟨b,1,none⟩=some (.int .i64 f.line)∧w.cell? ⟨b,2,none⟩=some (.int .i64 f.frm) ∧
   w.cell? ⟨b,3,none⟩=some (.int .i64 ((r.length:Int) + 1))∧w.cell? ⟨b,4,none⟩=some (.pointer p')∧ListAt w r p'
theorem ListAt.below {w w':World} (hb:Below w.heap.size w w'):∀ {l:List Fr} {p:Option Addr},ListAt w l p→ListAt w' l p
 | [],_,h=>h
 | _ :: _,_,h=>by
  obtain ⟨b,p',e,h0,h1,h2,h3,h4,h5⟩:=h
  exact ⟨b,p',e,cell_below hb h0,cell_below hb h1,cell_below hb h2,cell_below hb h3,cell_below hb h4,h5.below hb⟩
theorem count_any (l:List Fr) (p:Option Addr) (w:World) (h:ListAt w l p) :
  Calls Tryz.prog 172 #[.pointer p] w fun e w'=>e=.returned (.int .i64 l.length)∧w'=w:=by
 cases l with
 | nil =>
  have e:p=none:=h
  subst e
  go_enter Tryz.func172,Tryz.ntmps172
  go_wp2
  go_ret
  exact ⟨rfl,rfl⟩
 | cons f r =>
  obtain ⟨b,p',rfl,h0,h1,h2,h3,h4,-⟩:=h
  go_enter Tryz.func172,Tryz.ntmps172
  go_wp2
  go_ret
  exact ⟨by simp,rfl⟩
theorem ofn_any (l:List Fr) (p:Option Addr) (w:World) (h:ListAt w l p) :
  Calls Tryz.prog 179 #[.pointer p] w fun e w'=>e=.returned (.int .i64 (topFn l))∧w'=w:=by
 cases l with
 | nil =>
  have e:p=none:=h
  subst e
  go_enter Tryz.func179,Tryz.ntmps179
  go_wp2
  go_ret
  exact ⟨rfl,rfl⟩
 | cons f r =>
  obtain ⟨b,p',rfl,h0,h1,h2,h3,h4,-⟩:=h
  go_enter Tryz.func179,Tryz.ntmps179
  go_wp2
  go_ret
  exact ⟨rfl,rfl⟩
theorem atLine_any (f:Fr) (r:List Fr) (p:Option Addr) (line:Int) (w:World) (h:ListAt w (f :: r) p) :
  Calls Tryz.prog 180 #[.pointer p,.int .i64 line] w fun e w'=>(∃ q,e=.returned (.pointer q)∧ListAt w' (⟨f.fn,line,f.frm⟩ :: r) q)∧Below w.heap.size w w':=by
 obtain ⟨b,p',rfl,h0,h1,h2,h3,h4,h5⟩:=h
 have H5:=hide h5;clear h5
 go_enter Tryz.func180,Tryz.ntmps180
 go_wp2
 go_ret
 refine ⟨⟨_,rfl,w.heap.size,p',rfl,?_,?_,?_,?_,?_,(uh H5).below ((Below.refl _ _).alloc (Nat.le_refl _) _)⟩,(Below.refl _ _).alloc (Nat.le_refl _) _⟩
 all_goals simp
theorem opened_any (l:List Fr) (p:Option Addr) (fn line frm:Int) (w:World) (h:ListAt w l p) (hl:l.length≤200) :
  Calls Tryz.prog 181 #[.pointer p,.agg #[.int .i64 fn,.int .i64 line,.int .i64 frm]] w fun e w'=>(∃ q,e=.returned (.pointer q)∧ListAt w' (⟨fn,line,frm⟩ :: l) q)∧Below w.heap.size w w':=by
 have H:=hide h;clear h
 have HB:Hid (∀ o,Below w.heap.size w (w.alloc o).drew):=fun o=>((Below.refl _ _).alloc (Nat.le_refl _) o).drew
 go_enter Tryz.func181,Tryz.ntmps181
 go_wp2
 go_region_held3 (fun w'=>w'.cell? ⟨w.heap.size,0,none⟩=some (.int .i64 fn)∧w'.cell? ⟨w.heap.size,1,none⟩=some (.int .i64 line)∧w'.cell? ⟨w.heap.size,2,none⟩=some (.int .i64 frm))
  (go_keep) ((go_at_call 172;refine (count_any l p _ ((uh H).below (by exact uh HB _))).mono ?_;rintro e w1 ⟨rfl,rfl⟩))
 go_wp2
 go_ret
 refine ⟨⟨_,rfl,w.heap.size + 1,p,rfl,?_,?_,?_,?_,?_,(uh H).below ?_⟩,?_⟩
 ·simp [cell_alloc_at]
 ·simp [cell_alloc_at]
 ·simp [cell_alloc_at]
 ·simp [cell_alloc_at]
  rw [IntKind.wrap_i64];omega
 ·simp [cell_alloc_at]
 ·exact (((Below.refl _ _).alloc (Nat.le_refl _) _).alloc (by simp) _).drew
 ·exact (((Below.refl _ _).alloc (Nat.le_refl _) _).alloc (by simp) _).drew
end Go.Proofs.YtmnmeaeicjhkhaaGreatDoor
namespace Go.Proofs.YtmnmeaeicjhkhaaGreatDoor
open Go.RowKit
def evOf (k t fn l:Int):Value :=
 if k=1 then .iface 280 (.agg #[.int .i64 t,.int .i64 fn,.int .i64 l])
 else if k=2 then .iface 282 (.agg #[.int .i64 t,.int .i64 fn])
 else if k=3 then .iface 283 (.agg #[.int .i64 t,.int .i64 fn])
 else if k=4 then .iface 284 (.agg #[.int .i64 t,.int .i64 fn])
 else if k=5 then .iface 285 (.agg #[.int .i64 t,.int .i64 fn])
 else if k=6 then .iface 286 (.agg #[.int .i64 t,.int .i64 fn])
 else .iface 287 (.agg #[.int .i64 t,.int .i64 fn])
theorem seven {k:Int} (h1:1≤k) (h2:k≤7):k=1∨k=2∨k=3∨k=4∨k=5∨k=6∨k=7:=by omega
theorem eventOf_any (k t fn l:Int) (tx:ByteArray) (v:Value) (w:World) (h1:1≤k) (h2:k≤7) :
  Calls Tryz.prog 144 #[.agg #[.int .i64 k,.int .i64 t,.int .i64 fn,.int .i64 l,.string tx,v]] w fun e w'=>e=.returned (evOf k t fn l)∧Below w.heap.size w w':=by
 rcases seven h1 h2 with rfl | rfl | rfl | rfl | rfl | rfl | rfl
 all_goals
  clear h1 h2
  go_enter Tryz.func144,Tryz.ntmps144
  go_wp2
  go_ret
  exact ⟨rfl,((Below.refl _ _).alloc (Nat.le_refl _) _).alloc (by simp) _⟩
end Go.Proofs.YtmnmeaeicjhkhaaGreatDoor
namespace Go.Proofs.YtmnmeaeicjhkhaaGreatDoor
open Go.RowKit
theorem ta_lineBegun_turned (v:Value) (w:World):(Instr.typeAssert (.iface 280 v) 223 287 true).run Tryz.prog w=.ok (.tuple #[.agg #[.int .i64 0,.int .i64 0],.bool false]) w:=by kernel_rfl
theorem ta_callOpened_turned (v:Value) (w:World):(Instr.typeAssert (.iface 282 v) 223 287 true).run Tryz.prog w=.ok (.tuple #[.agg #[.int .i64 0,.int .i64 0],.bool false]) w:=by kernel_rfl
theorem ta_callLeft_turned (v:Value) (w:World):(Instr.typeAssert (.iface 283 v) 223 287 true).run Tryz.prog w=.ok (.tuple #[.agg #[.int .i64 0,.int .i64 0],.bool false]) w:=by kernel_rfl
theorem ta_thrown_turned (v:Value) (w:World):(Instr.typeAssert (.iface 284 v) 223 287 true).run Tryz.prog w=.ok (.tuple #[.agg #[.int .i64 0,.int .i64 0],.bool false]) w:=by kernel_rfl
theorem ta_caught_turned (v:Value) (w:World):(Instr.typeAssert (.iface 285 v) 223 287 true).run Tryz.prog w=.ok (.tuple #[.agg #[.int .i64 0,.int .i64 0],.bool false]) w:=by kernel_rfl
theorem ta_printed_turned (v:Value) (w:World):(Instr.typeAssert (.iface 286 v) 223 287 true).run Tryz.prog w=.ok (.tuple #[.agg #[.int .i64 0,.int .i64 0],.bool false]) w:=by kernel_rfl
theorem ta_turned_turned (v:Value) (w:World):(Instr.typeAssert (.iface 287 v) 223 287 true).run Tryz.prog w=.ok (.tuple #[v,.bool true]) w:=by kernel_rfl
theorem ta_lineBegun_callOpened (v:Value) (w:World):(Instr.typeAssert (.iface 280 v) 223 282 true).run Tryz.prog w=.ok (.tuple #[.agg #[.int .i64 0,.int .i64 0],.bool false]) w:=by kernel_rfl
theorem ta_callOpened_callOpened (v:Value) (w:World):(Instr.typeAssert (.iface 282 v) 223 282 true).run Tryz.prog w=.ok (.tuple #[v,.bool true]) w:=by kernel_rfl
theorem ta_callLeft_callOpened (v:Value) (w:World):(Instr.typeAssert (.iface 283 v) 223 282 true).run Tryz.prog w=.ok (.tuple #[.agg #[.int .i64 0,.int .i64 0],.bool false]) w:=by kernel_rfl
theorem ta_thrown_callOpened (v:Value) (w:World):(Instr.typeAssert (.iface 284 v) 223 282 true).run Tryz.prog w=.ok (.tuple #[.agg #[.int .i64 0,.int .i64 0],.bool false]) w:=by kernel_rfl
theorem ta_caught_callOpened (v:Value) (w:World):(Instr.typeAssert (.iface 285 v) 223 282 true).run Tryz.prog w=.ok (.tuple #[.agg #[.int .i64 0,.int .i64 0],.bool false]) w:=by kernel_rfl
theorem ta_printed_callOpened (v:Value) (w:World):(Instr.typeAssert (.iface 286 v) 223 282 true).run Tryz.prog w=.ok (.tuple #[.agg #[.int .i64 0,.int .i64 0],.bool false]) w:=by kernel_rfl
theorem ta_turned_callOpened (v:Value) (w:World):(Instr.typeAssert (.iface 287 v) 223 282 true).run Tryz.prog w=.ok (.tuple #[.agg #[.int .i64 0,.int .i64 0],.bool false]) w:=by kernel_rfl
theorem ta_lineBegun_lineBegun (v:Value) (w:World):(Instr.typeAssert (.iface 280 v) 223 280 true).run Tryz.prog w=.ok (.tuple #[v,.bool true]) w:=by kernel_rfl
theorem ta_callOpened_lineBegun (v:Value) (w:World):(Instr.typeAssert (.iface 282 v) 223 280 true).run Tryz.prog w=.ok (.tuple #[.agg #[.int .i64 0,.int .i64 0,.int .i64 0],.bool false]) w:=by kernel_rfl
theorem ta_callLeft_lineBegun (v:Value) (w:World):(Instr.typeAssert (.iface 283 v) 223 280 true).run Tryz.prog w=.ok (.tuple #[.agg #[.int .i64 0,.int .i64 0,.int .i64 0],.bool false]) w:=by kernel_rfl
theorem ta_thrown_lineBegun (v:Value) (w:World):(Instr.typeAssert (.iface 284 v) 223 280 true).run Tryz.prog w=.ok (.tuple #[.agg #[.int .i64 0,.int .i64 0,.int .i64 0],.bool false]) w:=by kernel_rfl
theorem ta_caught_lineBegun (v:Value) (w:World):(Instr.typeAssert (.iface 285 v) 223 280 true).run Tryz.prog w=.ok (.tuple #[.agg #[.int .i64 0,.int .i64 0,.int .i64 0],.bool false]) w:=by kernel_rfl
theorem ta_printed_lineBegun (v:Value) (w:World):(Instr.typeAssert (.iface 286 v) 223 280 true).run Tryz.prog w=.ok (.tuple #[.agg #[.int .i64 0,.int .i64 0,.int .i64 0],.bool false]) w:=by kernel_rfl
theorem ta_turned_lineBegun (v:Value) (w:World):(Instr.typeAssert (.iface 287 v) 223 280 true).run Tryz.prog w=.ok (.tuple #[.agg #[.int .i64 0,.int .i64 0,.int .i64 0],.bool false]) w:=by kernel_rfl
theorem ta_callLeft_callLeft (v:Value) (w:World):(Instr.typeAssert (.iface 283 v) 223 283 true).run Tryz.prog w=.ok (.tuple #[v,.bool true]) w:=by kernel_rfl
theorem ta_thrown_callLeft (v:Value) (w:World):(Instr.typeAssert (.iface 284 v) 223 283 true).run Tryz.prog w=.ok (.tuple #[.agg #[.int .i64 0,.int .i64 0],.bool false]) w:=by kernel_rfl
theorem ta_caught_callLeft (v:Value) (w:World):(Instr.typeAssert (.iface 285 v) 223 283 true).run Tryz.prog w=.ok (.tuple #[.agg #[.int .i64 0,.int .i64 0],.bool false]) w:=by kernel_rfl
theorem ta_printed_callLeft (v:Value) (w:World):(Instr.typeAssert (.iface 286 v) 223 283 true).run Tryz.prog w=.ok (.tuple #[.agg #[.int .i64 0,.int .i64 0],.bool false]) w:=by kernel_rfl
theorem ta_turned_callLeft (v:Value) (w:World):(Instr.typeAssert (.iface 287 v) 223 283 true).run Tryz.prog w=.ok (.tuple #[.agg #[.int .i64 0,.int .i64 0],.bool false]) w:=by kernel_rfl
def PlaceAt (w:World) (s:St) (top:Option Addr) (bw:Nat):Prop :=
 ListAt w (s.tasks s.cur) top∧(∃ P:Nat→Option Addr,∀ t,t < 101→w.cell? ⟨bw,t,none⟩=some (.pointer (P t))∧(t ≠ s.cur→ListAt w (s.tasks t) (P t))) ∧
  s.cur < 101∧(∀ t,t < 101→(s.tasks t).length≤200∧∀ f ∈ s.tasks t,-1≤f.frm)
theorem PlaceAt.below {w w':World} {s:St} {top:Option Addr} {bw:Nat} (hb:Below w.heap.size w w') (h:PlaceAt w s top bw):PlaceAt w' s top bw:=by
 obtain ⟨h1,⟨P,h2⟩,h3,h4⟩:=h
 exact ⟨h1.below hb,⟨P,fun t ht=>⟨cell_below hb (h2 t ht).1,fun e=>((h2 t ht).2 e).below hb⟩⟩,h3,h4⟩
theorem upon_method {P:Program} {o:Oper} {a:Act} {K:Act→World→Prop} {Q:Exit→Act→World→Prop} {n:Nat} {D:TypeId} {V:Value} {s:String} {W:World} {f:FuncId} {v':Value} {g:FuncId × Value→World→Result Next}
  (h:Sem.run P (method n D V s) W=.ok (f,v') W) (hg:Oper.upon P o a K Q (g (f,v') W)):Oper.upon P o a K Q ((Sem.run P (method n D V s) W).andThen g):=by
 rw [h];exact hg
theorem site_any (t fn:Int) (w:World) :
  Calls Tryz.prog 270 #[.agg #[.int .i64 t,.int .i64 fn]] w fun e w'=>e=.returned (.agg #[.int .i64 t,.int .i64 fn])∧Below w.heap.size w w':=by
 go_enter Tryz.func270,Tryz.ntmps270
 go_wp2
 refine bodyPost_ret (v:=.agg #[.int .i64 t,.int .i64 fn]) (by simp [results,Tryz.results270,go_sem]) rfl ⟨rfl,?_⟩
 exact ((Below.refl _ _).alloc (Nat.le_refl _) _).alloc (by simp) _
def Refused (w:World) (s:St) (k t fn:Int) (e:Ending) (w':World):Prop:=e=.returned (.int .i64 (code s k t fn))∧Below w.heap.size w w'
theorem refuses_turned (s:St) (t fn l:Int) (top:Option Addr) (bw:Nat) (w:World) :
  Calls Tryz.prog 145 #[.agg #[.int .i64 s.cur,.pointer top,.pointer (some ⟨bw,0,none⟩)],evOf 7 t fn l] w (Refused w s 7 t fn):=by
 have e1:evOf 7 t fn l=.iface 287 (.agg #[.int .i64 t,.int .i64 fn]):=rfl
 rw [e1];clear e1
 have a1:=ta_turned_turned
 go_enter Tryz.func145,Tryz.ntmps145
 go_wp2
 go_ret
 exact ⟨rfl,((Below.refl _ _).alloc (Nat.le_refl _) _).alloc (by simp) _⟩
theorem refuses_task1 (s:St) (t fn l:Int) (top:Option Addr) (bw:Nat) (w:World) (ht:(t != (s.cur:Int))=true) :
  Calls Tryz.prog 145 #[.agg #[.int .i64 s.cur,.pointer top,.pointer (some ⟨bw,0,none⟩)],evOf 1 t fn l] w (Refused w s 1 t fn):=by
 have e1:evOf 1 t fn l=.iface 280 (.agg #[.int .i64 t,.int .i64 fn,.int .i64 l]):=rfl
 rw [e1];clear e1
 have E:Hid (code s 1 t fn=3):=by
  have:t ≠ s.cur:=by simpa using ht
  exact hide (by simp [code,this])
 have a0:=ta_lineBegun_turned
 have BA:=hide (((Below.refl w.heap.size w).alloc (Nat.le_refl _) (.cells #[.int .i64 s.cur,.pointer top,.pointer (some ⟨bw,0,none⟩)] 119)).alloc (by simp) (.cells #[.int .i64 0,.int .i64 0] 287))
 go_enter Tryz.func145,Tryz.ntmps145
 go_wp2_with fail
 refine upon_method (f:=270) (v':=.agg #[.int .i64 t,.int .i64 fn]) (by kernel_rfl) ?_
 go_wp2_with fail
 refine (site_any _ _ _).mono ?_
 rintro e w1 ⟨rfl,hb1⟩
 have hc:=old_cells hb1;have hf:=old_marks hb1
 have g0:w1.cell? ⟨w.heap.size,0,none⟩=some (.int .i64 s.cur):=by rw [hc _ _ (by simp;omega)];simp
 have g1:w1.cell? ⟨w.heap.size,1,none⟩=some (.pointer top):=by rw [hc _ _ (by simp;omega)];simp
 have hz:w.heap.size + 2≤w1.heap.size:=by have:=hb1.size;simp at this;omega
 have B1:=hide ((uh BA).trans (hb1.mono (uh BA).size))
 clear hc hf hb1
 have hne:w.heap.size ≠ w1.heap.size:=by omega
 have BA1:=hide ((Below.refl w1.heap.size w1).alloc (Nat.le_refl _) (.cells #[.int .i64 t,.int .i64 fn] 278))
 have g2:=cell_below (uh BA1) g0
 have g3:=cell_below (uh BA1) g1
 have BN:=hide ((uh B1).alloc (by omega) (.cells #[.int .i64 t,.int .i64 fn] 278))
 go_wp2
 go_ret
 exact ⟨by rw [uh E];rfl,uh BN⟩
theorem refuses_task2 (s:St) (t fn l:Int) (top:Option Addr) (bw:Nat) (w:World) (ht:(t != (s.cur:Int))=true) :
  Calls Tryz.prog 145 #[.agg #[.int .i64 s.cur,.pointer top,.pointer (some ⟨bw,0,none⟩)],evOf 2 t fn l] w (Refused w s 2 t fn):=by
 have e1:evOf 2 t fn l=.iface 282 (.agg #[.int .i64 t,.int .i64 fn]):=rfl
 rw [e1];clear e1
 have E:Hid (code s 2 t fn=3):=by
  have:t ≠ s.cur:=by simpa using ht
  exact hide (by simp [code,this])
 have a0:=ta_callOpened_turned
 have BA:=hide (((Below.refl w.heap.size w).alloc (Nat.le_refl _) (.cells #[.int .i64 s.cur,.pointer top,.pointer (some ⟨bw,0,none⟩)] 119)).alloc (by simp) (.cells #[.int .i64 0,.int .i64 0] 287))
 go_enter Tryz.func145,Tryz.ntmps145
 go_wp2_with fail
 refine upon_method (f:=270) (v':=.agg #[.int .i64 t,.int .i64 fn]) (by kernel_rfl) ?_
 go_wp2_with fail
 refine (site_any _ _ _).mono ?_
 rintro e w1 ⟨rfl,hb1⟩
 have hc:=old_cells hb1;have hf:=old_marks hb1
 have g0:w1.cell? ⟨w.heap.size,0,none⟩=some (.int .i64 s.cur):=by rw [hc _ _ (by simp;omega)];simp
 have g1:w1.cell? ⟨w.heap.size,1,none⟩=some (.pointer top):=by rw [hc _ _ (by simp;omega)];simp
 have hz:w.heap.size + 2≤w1.heap.size:=by have:=hb1.size;simp at this;omega
 have B1:=hide ((uh BA).trans (hb1.mono (uh BA).size))
 clear hc hf hb1
 have hne:w.heap.size ≠ w1.heap.size:=by omega
 have BA1:=hide ((Below.refl w1.heap.size w1).alloc (Nat.le_refl _) (.cells #[.int .i64 t,.int .i64 fn] 278))
 have g2:=cell_below (uh BA1) g0
 have g3:=cell_below (uh BA1) g1
 have BN:=hide ((uh B1).alloc (by omega) (.cells #[.int .i64 t,.int .i64 fn] 278))
 go_wp2
 go_ret
 exact ⟨by rw [uh E];rfl,uh BN⟩
theorem refuses_task3 (s:St) (t fn l:Int) (top:Option Addr) (bw:Nat) (w:World) (ht:(t != (s.cur:Int))=true) :
  Calls Tryz.prog 145 #[.agg #[.int .i64 s.cur,.pointer top,.pointer (some ⟨bw,0,none⟩)],evOf 3 t fn l] w (Refused w s 3 t fn):=by
 have e1:evOf 3 t fn l=.iface 283 (.agg #[.int .i64 t,.int .i64 fn]):=rfl
 rw [e1];clear e1
 have E:Hid (code s 3 t fn=3):=by
  have:t ≠ s.cur:=by simpa using ht
  exact hide (by simp [code,this])
 have a0:=ta_callLeft_turned
 have BA:=hide (((Below.refl w.heap.size w).alloc (Nat.le_refl _) (.cells #[.int .i64 s.cur,.pointer top,.pointer (some ⟨bw,0,none⟩)] 119)).alloc (by simp) (.cells #[.int .i64 0,.int .i64 0] 287))
 go_enter Tryz.func145,Tryz.ntmps145
 go_wp2_with fail
 refine upon_method (f:=270) (v':=.agg #[.int .i64 t,.int .i64 fn]) (by kernel_rfl) ?_
 go_wp2_with fail
 refine (site_any _ _ _).mono ?_
 rintro e w1 ⟨rfl,hb1⟩
 have hc:=old_cells hb1;have hf:=old_marks hb1
 have g0:w1.cell? ⟨w.heap.size,0,none⟩=some (.int .i64 s.cur):=by rw [hc _ _ (by simp;omega)];simp
 have g1:w1.cell? ⟨w.heap.size,1,none⟩=some (.pointer top):=by rw [hc _ _ (by simp;omega)];simp
 have hz:w.heap.size + 2≤w1.heap.size:=by have:=hb1.size;simp at this;omega
 have B1:=hide ((uh BA).trans (hb1.mono (uh BA).size))
 clear hc hf hb1
 have hne:w.heap.size ≠ w1.heap.size:=by omega
 have BA1:=hide ((Below.refl w1.heap.size w1).alloc (Nat.le_refl _) (.cells #[.int .i64 t,.int .i64 fn] 278))
 have g2:=cell_below (uh BA1) g0
 have g3:=cell_below (uh BA1) g1
 have BN:=hide ((uh B1).alloc (by omega) (.cells #[.int .i64 t,.int .i64 fn] 278))
 go_wp2
 go_ret
 exact ⟨by rw [uh E];rfl,uh BN⟩
theorem refuses_task4 (s:St) (t fn l:Int) (top:Option Addr) (bw:Nat) (w:World) (ht:(t != (s.cur:Int))=true) :
  Calls Tryz.prog 145 #[.agg #[.int .i64 s.cur,.pointer top,.pointer (some ⟨bw,0,none⟩)],evOf 4 t fn l] w (Refused w s 4 t fn):=by
 have e1:evOf 4 t fn l=.iface 284 (.agg #[.int .i64 t,.int .i64 fn]):=rfl
 rw [e1];clear e1
 have E:Hid (code s 4 t fn=3):=by
  have:t ≠ s.cur:=by simpa using ht
  exact hide (by simp [code,this])
 have a0:=ta_thrown_turned
 have BA:=hide (((Below.refl w.heap.size w).alloc (Nat.le_refl _) (.cells #[.int .i64 s.cur,.pointer top,.pointer (some ⟨bw,0,none⟩)] 119)).alloc (by simp) (.cells #[.int .i64 0,.int .i64 0] 287))
 go_enter Tryz.func145,Tryz.ntmps145
 go_wp2_with fail
 refine upon_method (f:=270) (v':=.agg #[.int .i64 t,.int .i64 fn]) (by kernel_rfl) ?_
 go_wp2_with fail
 refine (site_any _ _ _).mono ?_
 rintro e w1 ⟨rfl,hb1⟩
 have hc:=old_cells hb1;have hf:=old_marks hb1
 have g0:w1.cell? ⟨w.heap.size,0,none⟩=some (.int .i64 s.cur):=by rw [hc _ _ (by simp;omega)];simp
 have g1:w1.cell? ⟨w.heap.size,1,none⟩=some (.pointer top):=by rw [hc _ _ (by simp;omega)];simp
 have hz:w.heap.size + 2≤w1.heap.size:=by have:=hb1.size;simp at this;omega
 have B1:=hide ((uh BA).trans (hb1.mono (uh BA).size))
 clear hc hf hb1
 have hne:w.heap.size ≠ w1.heap.size:=by omega
 have BA1:=hide ((Below.refl w1.heap.size w1).alloc (Nat.le_refl _) (.cells #[.int .i64 t,.int .i64 fn] 278))
 have g2:=cell_below (uh BA1) g0
 have g3:=cell_below (uh BA1) g1
 have BN:=hide ((uh B1).alloc (by omega) (.cells #[.int .i64 t,.int .i64 fn] 278))
 go_wp2
 go_ret
 exact ⟨by rw [uh E];rfl,uh BN⟩
theorem refuses_task5 (s:St) (t fn l:Int) (top:Option Addr) (bw:Nat) (w:World) (ht:(t != (s.cur:Int))=true) :
  Calls Tryz.prog 145 #[.agg #[.int .i64 s.cur,.pointer top,.pointer (some ⟨bw,0,none⟩)],evOf 5 t fn l] w (Refused w s 5 t fn):=by
 have e1:evOf 5 t fn l=.iface 285 (.agg #[.int .i64 t,.int .i64 fn]):=rfl
 rw [e1];clear e1
 have E:Hid (code s 5 t fn=3):=by
  have:t ≠ s.cur:=by simpa using ht
  exact hide (by simp [code,this])
 have a0:=ta_caught_turned
 have BA:=hide (((Below.refl w.heap.size w).alloc (Nat.le_refl _) (.cells #[.int .i64 s.cur,.pointer top,.pointer (some ⟨bw,0,none⟩)] 119)).alloc (by simp) (.cells #[.int .i64 0,.int .i64 0] 287))
 go_enter Tryz.func145,Tryz.ntmps145
 go_wp2_with fail
 refine upon_method (f:=270) (v':=.agg #[.int .i64 t,.int .i64 fn]) (by kernel_rfl) ?_
 go_wp2_with fail
 refine (site_any _ _ _).mono ?_
 rintro e w1 ⟨rfl,hb1⟩
 have hc:=old_cells hb1;have hf:=old_marks hb1
 have g0:w1.cell? ⟨w.heap.size,0,none⟩=some (.int .i64 s.cur):=by rw [hc _ _ (by simp;omega)];simp
 have g1:w1.cell? ⟨w.heap.size,1,none⟩=some (.pointer top):=by rw [hc _ _ (by simp;omega)];simp
 have hz:w.heap.size + 2≤w1.heap.size:=by have:=hb1.size;simp at this;omega
 have B1:=hide ((uh BA).trans (hb1.mono (uh BA).size))
 clear hc hf hb1
 have hne:w.heap.size ≠ w1.heap.size:=by omega
 have BA1:=hide ((Below.refl w1.heap.size w1).alloc (Nat.le_refl _) (.cells #[.int .i64 t,.int .i64 fn] 278))
 have g2:=cell_below (uh BA1) g0
 have g3:=cell_below (uh BA1) g1
 have BN:=hide ((uh B1).alloc (by omega) (.cells #[.int .i64 t,.int .i64 fn] 278))
 go_wp2
 go_ret
 exact ⟨by rw [uh E];rfl,uh BN⟩
theorem refuses_task6 (s:St) (t fn l:Int) (top:Option Addr) (bw:Nat) (w:World) (ht:(t != (s.cur:Int))=true) :
  Calls Tryz.prog 145 #[.agg #[.int .i64 s.cur,.pointer top,.pointer (some ⟨bw,0,none⟩)],evOf 6 t fn l] w (Refused w s 6 t fn):=by
 have e1:evOf 6 t fn l=.iface 286 (.agg #[.int .i64 t,.int .i64 fn]):=rfl
 rw [e1];clear e1
 have E:Hid (code s 6 t fn=3):=by
  have:t ≠ s.cur:=by simpa using ht
  exact hide (by simp [code,this])
 have a0:=ta_printed_turned
 have BA:=hide (((Below.refl w.heap.size w).alloc (Nat.le_refl _) (.cells #[.int .i64 s.cur,.pointer top,.pointer (some ⟨bw,0,none⟩)] 119)).alloc (by simp) (.cells #[.int .i64 0,.int .i64 0] 287))
 go_enter Tryz.func145,Tryz.ntmps145
 go_wp2_with fail
 refine upon_method (f:=270) (v':=.agg #[.int .i64 t,.int .i64 fn]) (by kernel_rfl) ?_
 go_wp2_with fail
 refine (site_any _ _ _).mono ?_
 rintro e w1 ⟨rfl,hb1⟩
 have hc:=old_cells hb1;have hf:=old_marks hb1
 have g0:w1.cell? ⟨w.heap.size,0,none⟩=some (.int .i64 s.cur):=by rw [hc _ _ (by simp;omega)];simp
 have g1:w1.cell? ⟨w.heap.size,1,none⟩=some (.pointer top):=by rw [hc _ _ (by simp;omega)];simp
 have hz:w.heap.size + 2≤w1.heap.size:=by have:=hb1.size;simp at this;omega
 have B1:=hide ((uh BA).trans (hb1.mono (uh BA).size))
 clear hc hf hb1
 have hne:w.heap.size ≠ w1.heap.size:=by omega
 have BA1:=hide ((Below.refl w1.heap.size w1).alloc (Nat.le_refl _) (.cells #[.int .i64 t,.int .i64 fn] 278))
 have g2:=cell_below (uh BA1) g0
 have g3:=cell_below (uh BA1) g1
 have BN:=hide ((uh B1).alloc (by omega) (.cells #[.int .i64 t,.int .i64 fn] 278))
 go_wp2
 go_ret
 exact ⟨by rw [uh E];rfl,uh BN⟩
end Go.Proofs.YtmnmeaeicjhkhaaGreatDoor
