import Derived.Test.YtmnmeaeicjhkhaaGreatDoorGScx
set_option maxRecDepth 100000
set_option maxHeartbeats 16000000
namespace Go.Proofs.YtmnmeaeicjhkhaaGreatDoor
open Go.RowKit
def cR (w:World):List Fr->Option Addr->Prop
 | [],p=>p=none
 | f :: r,p=>∃ b p',p=some ⟨b,0,none⟩/\w.cell? ⟨b,0,none⟩=some (.int .i64 f.fn)/\w.cell? ⟨b,1,none⟩=some (.int .i64 f.line)/\w.cell? ⟨b,2,none⟩=some (.int .i64 f.frm) /\
   w.cell? ⟨b,3,none⟩=some (.int .i64 ((r.length:Int)+1))/\w.cell? ⟨b,4,none⟩=some (.pointer p')/\cR w r p'
theorem cR.below {w w':World} (hb:Below w.heap.size w w'):∀ {l:List Fr} {p:Option Addr},cR w l p->cR w' l p
 | [],_,h=>h
 | _ :: _,_,h=>by
  obtain ⟨b,p',e,h0,h1,h2,h3,h4,h5⟩:=h
  exact ⟨b,p',e,bG hb h0,bG hb h1,bG hb h2,bG hb h3,bG hb h4,h5.below hb⟩
theorem mL (l:List Fr) (p:Option Addr) (w:World) (h:cR w l p) :
  Calls Tryz.prog 172 #[.pointer p] w fun e w'=>e=.returned (.int .i64 l.length)/\w'=w:=by
 cases l with
 | nil =>
  have e:p=none:=h
  subst e
  go_enter Tryz.func172,Tryz.ntmps172
  go_wp2
  go_ret
  exact ⟨rfl,rfl⟩
 | cons f r =>
  obtain ⟨b,p',rfl,h0,h1,h2,h3,h4,-⟩:=h
  go_enter Tryz.func172,Tryz.ntmps172
  go_wp2
  go_ret
  exact ⟨by simp,rfl⟩
theorem ofn_any (l:List Fr) (p:Option Addr) (w:World) (h:cR w l p) :
  Calls Tryz.prog 179 #[.pointer p] w fun e w'=>e=.returned (.int .i64 (topFn l))/\w'=w:=by
 cases l with
 | nil =>
  have e:p=none:=h
  subst e
  go_enter Tryz.func179,Tryz.ntmps179
  go_wp2
  go_ret
  exact ⟨rfl,rfl⟩
 | cons f r =>
  obtain ⟨b,p',rfl,h0,h1,h2,h3,h4,-⟩:=h
  go_enter Tryz.func179,Tryz.ntmps179
  go_wp2
  go_ret
  exact ⟨rfl,rfl⟩
theorem atLine_any (f:Fr) (r:List Fr) (p:Option Addr) (line:Int) (w:World) (h:cR w (f :: r) p) :
  Calls Tryz.prog 180 #[.pointer p,.int .i64 line] w fun e w'=>(∃ q,e=.returned (.pointer q)/\cR w' (⟨f.fn,line,f.frm⟩ :: r) q)/\Below w.heap.size w w':=by
 obtain ⟨b,p',rfl,h0,h1,h2,h3,h4,h5⟩:=h
 have H5:=O h5;clear h5
 go_enter Tryz.func180,Tryz.ntmps180
 go_wp2
 go_ret
 refine ⟨⟨_,rfl,w.heap.size,p',rfl,?_,?_,?_,?_,?_,(Z H5).below ((Below.refl _ _).alloc (Nat.le_refl _) _)⟩,(Below.refl _ _).alloc (Nat.le_refl _) _⟩
 all_goals simp
theorem opened_any (l:List Fr) (p:Option Addr) (fn line frm:Int) (w:World) (h:cR w l p) (hl:l.length<=200) :
  Calls Tryz.prog 181 #[.pointer p,.agg #[.int .i64 fn,.int .i64 line,.int .i64 frm]] w fun e w'=>(∃ q,e=.returned (.pointer q)/\cR w' (⟨fn,line,frm⟩ :: l) q)/\Below w.heap.size w w':=by
 have H:=O h;clear h
 have HB:Hid (∀ o,Below w.heap.size w (w.alloc o).drew):=fun o=>((Below.refl _ _).alloc (Nat.le_refl _) o).drew
 go_enter Tryz.func181,Tryz.ntmps181
 go_wp2
 go_region_held3 (fun w'=>w'.cell? ⟨w.heap.size,0,none⟩=some (.int .i64 fn)/\w'.cell? ⟨w.heap.size,1,none⟩=some (.int .i64 line)/\w'.cell? ⟨w.heap.size,2,none⟩=some (.int .i64 frm))
  (go_keep) ((go_at_call 172;refine (mL l p _ ((Z H).below (by exact Z HB _))).mono ?_;rintro e w1 ⟨rfl,rfl⟩))
 go_wp2
 go_ret
 refine ⟨⟨_,rfl,w.heap.size+1,p,rfl,?_,?_,?_,?_,?_,(Z H).below ?_⟩,?_⟩
 ·simp [bK]
 ·simp [bK]
 ·simp [bK]
 ·simp [bK]
  rw [IntKind.wrap_i64];omega
 ·simp [bK]
 ·exact (((Below.refl _ _).alloc (Nat.le_refl _) _).alloc (by simp) _).drew
 exact (((Below.refl _ _).alloc (Nat.le_refl _) _).alloc (by simp) _).drew
def eC (k t fn l:Int):Value :=
 if k=1 then .iface 280 (.agg #[.int .i64 t,.int .i64 fn,.int .i64 l])
 else if k=2 then .iface 282 (.agg #[.int .i64 t,.int .i64 fn])
 else if k=3 then .iface 283 (.agg #[.int .i64 t,.int .i64 fn])
 else if k=4 then .iface 284 (.agg #[.int .i64 t,.int .i64 fn])
 else if k=5 then .iface 285 (.agg #[.int .i64 t,.int .i64 fn])
 else if k=6 then .iface 286 (.agg #[.int .i64 t,.int .i64 fn])
 else .iface 287 (.agg #[.int .i64 t,.int .i64 fn])
theorem seven {k:Int} (h1:1<=k) (h2:k<=7):k=1∨k=2∨k=3∨k=4∨k=5∨k=6∨k=7:=by omega
theorem eventOf_any (k t fn l:Int) (tx:ByteArray) (v:Value) (w:World) (h1:1<=k) (h2:k<=7) :
  Calls Tryz.prog 144 #[.agg #[.int .i64 k,.int .i64 t,.int .i64 fn,.int .i64 l,.string tx,v]] w fun e w'=>e=.returned (eC k t fn l)/\Below w.heap.size w w':=by
 rcases seven h1 h2 with rfl | rfl | rfl | rfl | rfl | rfl | rfl
 all_goals
  clear h1 h2
  go_enter Tryz.func144,Tryz.ntmps144
  go_wp2
  go_ret
  exact ⟨rfl,((Below.refl _ _).alloc (Nat.le_refl _) _).alloc (by simp) _⟩
theorem gG (v:Value) (w:World):(Instr.typeAssert (.iface 280 v) 223 287 true).run Tryz.prog w=.ok (.tuple #[.agg #[.int .i64 0,.int .i64 0],.bool false]) w:=by kernel_rfl
theorem jJ (v:Value) (w:World):(Instr.typeAssert (.iface 282 v) 223 287 true).run Tryz.prog w=.ok (.tuple #[.agg #[.int .i64 0,.int .i64 0],.bool false]) w:=by kernel_rfl
theorem fP (v:Value) (w:World):(Instr.typeAssert (.iface 283 v) 223 287 true).run Tryz.prog w=.ok (.tuple #[.agg #[.int .i64 0,.int .i64 0],.bool false]) w:=by kernel_rfl
theorem jT (v:Value) (w:World):(Instr.typeAssert (.iface 284 v) 223 287 true).run Tryz.prog w=.ok (.tuple #[.agg #[.int .i64 0,.int .i64 0],.bool false]) w:=by kernel_rfl
theorem jU (v:Value) (w:World):(Instr.typeAssert (.iface 285 v) 223 287 true).run Tryz.prog w=.ok (.tuple #[.agg #[.int .i64 0,.int .i64 0],.bool false]) w:=by kernel_rfl
theorem jH (v:Value) (w:World):(Instr.typeAssert (.iface 286 v) 223 287 true).run Tryz.prog w=.ok (.tuple #[.agg #[.int .i64 0,.int .i64 0],.bool false]) w:=by kernel_rfl
theorem mM (v:Value) (w:World):(Instr.typeAssert (.iface 287 v) 223 287 true).run Tryz.prog w=.ok (.tuple #[v,.bool true]) w:=by kernel_rfl
theorem gJ (v:Value) (w:World):(Instr.typeAssert (.iface 280 v) 223 282 true).run Tryz.prog w=.ok (.tuple #[.agg #[.int .i64 0,.int .i64 0],.bool false]) w:=by kernel_rfl
theorem gB (v:Value) (w:World):(Instr.typeAssert (.iface 282 v) 223 282 true).run Tryz.prog w=.ok (.tuple #[v,.bool true]) w:=by kernel_rfl
theorem eH (v:Value) (w:World):(Instr.typeAssert (.iface 283 v) 223 282 true).run Tryz.prog w=.ok (.tuple #[.agg #[.int .i64 0,.int .i64 0],.bool false]) w:=by kernel_rfl
theorem jK (v:Value) (w:World):(Instr.typeAssert (.iface 284 v) 223 282 true).run Tryz.prog w=.ok (.tuple #[.agg #[.int .i64 0,.int .i64 0],.bool false]) w:=by kernel_rfl
theorem jL (v:Value) (w:World):(Instr.typeAssert (.iface 285 v) 223 282 true).run Tryz.prog w=.ok (.tuple #[.agg #[.int .i64 0,.int .i64 0],.bool false]) w:=by kernel_rfl
theorem jC (v:Value) (w:World):(Instr.typeAssert (.iface 286 v) 223 282 true).run Tryz.prog w=.ok (.tuple #[.agg #[.int .i64 0,.int .i64 0],.bool false]) w:=by kernel_rfl
theorem pB (v:Value) (w:World):(Instr.typeAssert (.iface 287 v) 223 282 true).run Tryz.prog w=.ok (.tuple #[.agg #[.int .i64 0,.int .i64 0],.bool false]) w:=by kernel_rfl
theorem fH (v:Value) (w:World):(Instr.typeAssert (.iface 280 v) 223 280 true).run Tryz.prog w=.ok (.tuple #[v,.bool true]) w:=by kernel_rfl
theorem qV (v:Value) (w:World):(Instr.typeAssert (.iface 282 v) 223 280 true).run Tryz.prog w=.ok (.tuple #[.agg #[.int .i64 0,.int .i64 0,.int .i64 0],.bool false]) w:=by kernel_rfl
theorem eS (v:Value) (w:World):(Instr.typeAssert (.iface 283 v) 223 280 true).run Tryz.prog w=.ok (.tuple #[.agg #[.int .i64 0,.int .i64 0,.int .i64 0],.bool false]) w:=by kernel_rfl
theorem jZ (v:Value) (w:World):(Instr.typeAssert (.iface 284 v) 223 280 true).run Tryz.prog w=.ok (.tuple #[.agg #[.int .i64 0,.int .i64 0,.int .i64 0],.bool false]) w:=by kernel_rfl
theorem kF (v:Value) (w:World):(Instr.typeAssert (.iface 285 v) 223 280 true).run Tryz.prog w=.ok (.tuple #[.agg #[.int .i64 0,.int .i64 0,.int .i64 0],.bool false]) w:=by kernel_rfl
theorem jM (v:Value) (w:World):(Instr.typeAssert (.iface 286 v) 223 280 true).run Tryz.prog w=.ok (.tuple #[.agg #[.int .i64 0,.int .i64 0,.int .i64 0],.bool false]) w:=by kernel_rfl
theorem pP (v:Value) (w:World):(Instr.typeAssert (.iface 287 v) 223 280 true).run Tryz.prog w=.ok (.tuple #[.agg #[.int .i64 0,.int .i64 0,.int .i64 0],.bool false]) w:=by kernel_rfl
theorem eW (v:Value) (w:World):(Instr.typeAssert (.iface 283 v) 223 283 true).run Tryz.prog w=.ok (.tuple #[v,.bool true]) w:=by kernel_rfl
theorem kQ (v:Value) (w:World):(Instr.typeAssert (.iface 284 v) 223 283 true).run Tryz.prog w=.ok (.tuple #[.agg #[.int .i64 0,.int .i64 0],.bool false]) w:=by kernel_rfl
theorem kR (v:Value) (w:World):(Instr.typeAssert (.iface 285 v) 223 283 true).run Tryz.prog w=.ok (.tuple #[.agg #[.int .i64 0,.int .i64 0],.bool false]) w:=by kernel_rfl
theorem kG (v:Value) (w:World):(Instr.typeAssert (.iface 286 v) 223 283 true).run Tryz.prog w=.ok (.tuple #[.agg #[.int .i64 0,.int .i64 0],.bool false]) w:=by kernel_rfl
theorem pW (v:Value) (w:World):(Instr.typeAssert (.iface 287 v) 223 283 true).run Tryz.prog w=.ok (.tuple #[.agg #[.int .i64 0,.int .i64 0],.bool false]) w:=by kernel_rfl
def cZ (w:World) (s:St) (top:Option Addr) (bw:Nat):Prop :=
 cR w (s.tasks s.cur) top/\(∃ P:Nat->Option Addr,∀ t,t<101->w.cell? ⟨bw,t,none⟩=some (.pointer (P t))/\(t≠s.cur->cR w (s.tasks t) (P t))) /\
  s.cur<101/\(∀ t,t<101->(s.tasks t).length<=200/\∀ f∈s.tasks t,-1<=f.frm)
theorem cZ.below {w w':World} {s:St} {top:Option Addr} {bw:Nat} (hb:Below w.heap.size w w') (h:cZ w s top bw):cZ w' s top bw:=by
 obtain ⟨h1,⟨P,h2⟩,h3,h4⟩:=h
 exact ⟨h1.below hb,⟨P,fun t ht=>⟨bG hb (h2 t ht).1,fun e=>((h2 t ht).2 e).below hb⟩⟩,h3,h4⟩
theorem cU {P:Program} {o:Oper} {a:Act} {K:Act->World->Prop} {Q:Exit->Act->World->Prop} {n:Nat} {D:TypeId} {V:Value} {s:String} {W:World} {f:FuncId} {v':Value} {g:FuncId × Value->World->Result Next}
  (h:Sem.run P (method n D V s) W=.ok (f,v') W) (hg:Oper.upon P o a K Q (g (f,v') W)):Oper.upon P o a K Q ((Sem.run P (method n D V s) W).andThen g):=by
 rw [h];exact hg
theorem dW (t fn:Int) (w:World) :
  Calls Tryz.prog 270 #[.agg #[.int .i64 t,.int .i64 fn]] w fun e w'=>e=.returned (.agg #[.int .i64 t,.int .i64 fn])/\Below w.heap.size w w':=by
 go_enter Tryz.func270,Tryz.ntmps270
 go_wp2
 refine bodyPost_ret (v:=.agg #[.int .i64 t,.int .i64 fn]) (by simp [results,Tryz.results270,go_sem]) rfl ⟨rfl,?_⟩
 exact ((Below.refl _ _).alloc (Nat.le_refl _) _).alloc (by simp) _
def eJ (w:World) (s:St) (k t fn:Int) (e:Ending) (w':World):Prop:=e=.returned (.int .i64 (code s k t fn))/\Below w.heap.size w w'
theorem bE9 (s:St) (t fn l:Int) (top:Option Addr) (bw:Nat) (w:World) :
  Calls Tryz.prog 145 #[.agg #[.int .i64 s.cur,.pointer top,.pointer (some ⟨bw,0,none⟩)],eC 7 t fn l] w (eJ w s 7 t fn):=by
 have e1:eC 7 t fn l=.iface 287 (.agg #[.int .i64 t,.int .i64 fn]):=rfl
 rw [e1];clear e1
 have a1:=mM
 go_enter Tryz.func145,Tryz.ntmps145
 go_wp2
 go_ret
 exact ⟨rfl,((Below.refl _ _).alloc (Nat.le_refl _) _).alloc (by simp) _⟩
theorem gC {w w1:World} {c t fn:Int} {tp:Option Addr} {bw:Nat} {n:Nat} (hn:n=((w.alloc (.cells #[.int .i64 c,.pointer tp,.pointer (some ⟨bw,0,none⟩)] 119)).alloc (.cells #[.int .i64 0,.int .i64 0] 287)).heap.size) (hb1:Below n ((w.alloc (.cells #[.int .i64 c,.pointer tp,.pointer (some ⟨bw,0,none⟩)] 119)).alloc (.cells #[.int .i64 0,.int .i64 0] 287)) w1) :
  w1.cell? ⟨w.heap.size,0,none⟩=some (.int .i64 c)/\w1.cell? ⟨w.heap.size,1,none⟩=some (.pointer tp)/\w.heap.size+2<=w1.heap.size/\Hid (Below w.heap.size w w1)/\w.heap.size≠w1.heap.size/\Hid (Below w1.heap.size w1 (w1.alloc (.cells #[.int .i64 t,.int .i64 fn] 278)))/\(w1.alloc (.cells #[.int .i64 t,.int .i64 fn] 278)).cell? ⟨w.heap.size,0,none⟩=some (.int .i64 c)/\(w1.alloc (.cells #[.int .i64 t,.int .i64 fn] 278)).cell? ⟨w.heap.size,1,none⟩=some (.pointer tp)/\Hid (Below w.heap.size w (w1.alloc (.cells #[.int .i64 t,.int .i64 fn] 278))):=by
 subst hn
 have BA:=((Below.refl w.heap.size w).alloc (Nat.le_refl _) (.cells #[.int .i64 c,.pointer tp,.pointer (some ⟨bw,0,none⟩)] 119)).alloc (by simp) (.cells #[.int .i64 0,.int .i64 0] 287)
 have hc:=old_cells hb1
 have g0:w1.cell? ⟨w.heap.size,0,none⟩=some (.int .i64 c):=by rw [hc _ _ (by simp;omega)];simp
 have g1:w1.cell? ⟨w.heap.size,1,none⟩=some (.pointer tp):=by rw [hc _ _ (by simp;omega)];simp
 have hz:w.heap.size+2<=w1.heap.size:=by have:=hb1.size;simp at this;omega
 have B1:=BA.trans (hb1.mono BA.size)
 have BA1:=(Below.refl w1.heap.size w1).alloc (Nat.le_refl _) (.cells #[.int .i64 t,.int .i64 fn] 278)
 exact ⟨g0,g1,hz,O B1,by omega,O BA1,bG BA1 g0,bG BA1 g1,O (B1.alloc (by omega) _)⟩
theorem vR {l:List Fr} {p:Option Addr} {W:World} (h:Hid (cR W l p)):Hid (∀ m,Calls Tryz.prog 179 #[.pointer p] (W.drewN m) fun e w'=>e=.returned (.int .i64 (topFn l))/\w'=W.drewN m) :=
 O fun m=>ofn_any _ _ _ ((Z h).below (bP _ m))
theorem bL9 (s:St) (t fn l:Int) (top:Option Addr) (bw:Nat) (w:World) (ht:(t != (s.cur:Int))=true) :
  Calls Tryz.prog 145 #[.agg #[.int .i64 s.cur,.pointer top,.pointer (some ⟨bw,0,none⟩)],eC 1 t fn l] w (eJ w s 1 t fn):=by
 have e1:eC 1 t fn l=.iface 280 (.agg #[.int .i64 t,.int .i64 fn,.int .i64 l]):=rfl
 rw [e1];clear e1
 have E:Hid (code s 1 t fn=3):=by
  have:t≠s.cur:=by simpa using ht
  exact O (by simp [code,this])
 have a0:=gG
 go_enter Tryz.func145,Tryz.ntmps145
 go_wp2_with fail
 refine cU (f:=270) (v':=.agg #[.int .i64 t,.int .i64 fn]) (by kernel_rfl) ?_
 go_wp2_with fail
 refine (dW _ _ _).mono ?_
 rintro e w1 ⟨rfl,hb1⟩
 obtain ⟨g0,g1,hz,B1,hne,BA1,g2,g3,BN⟩:=gC (t:=t) (fn:=fn) rfl hb1
 clear hb1
 go_wp2
 go_ret
 exact ⟨by rw [Z E];rfl,Z BN⟩
theorem bM0 (s:St) (t fn l:Int) (top:Option Addr) (bw:Nat) (w:World) (ht:(t != (s.cur:Int))=true) :
  Calls Tryz.prog 145 #[.agg #[.int .i64 s.cur,.pointer top,.pointer (some ⟨bw,0,none⟩)],eC 2 t fn l] w (eJ w s 2 t fn):=by
 have e1:eC 2 t fn l=.iface 282 (.agg #[.int .i64 t,.int .i64 fn]):=rfl
 rw [e1];clear e1
 have E:Hid (code s 2 t fn=3):=by
  have:t≠s.cur:=by simpa using ht
  exact O (by simp [code,this])
 have a0:=jJ
 go_enter Tryz.func145,Tryz.ntmps145
 go_wp2_with fail
 refine cU (f:=270) (v':=.agg #[.int .i64 t,.int .i64 fn]) (by kernel_rfl) ?_
 go_wp2_with fail
 refine (dW _ _ _).mono ?_
 rintro e w1 ⟨rfl,hb1⟩
 obtain ⟨g0,g1,hz,B1,hne,BA1,g2,g3,BN⟩:=gC (t:=t) (fn:=fn) rfl hb1
 clear hb1
 go_wp2
 go_ret
 exact ⟨by rw [Z E];rfl,Z BN⟩
theorem bM1 (s:St) (t fn l:Int) (top:Option Addr) (bw:Nat) (w:World) (ht:(t != (s.cur:Int))=true) :
  Calls Tryz.prog 145 #[.agg #[.int .i64 s.cur,.pointer top,.pointer (some ⟨bw,0,none⟩)],eC 3 t fn l] w (eJ w s 3 t fn):=by
 have e1:eC 3 t fn l=.iface 283 (.agg #[.int .i64 t,.int .i64 fn]):=rfl
 rw [e1];clear e1
 have E:Hid (code s 3 t fn=3):=by
  have:t≠s.cur:=by simpa using ht
  exact O (by simp [code,this])
 have a0:=fP
 go_enter Tryz.func145,Tryz.ntmps145
 go_wp2_with fail
 refine cU (f:=270) (v':=.agg #[.int .i64 t,.int .i64 fn]) (by kernel_rfl) ?_
 go_wp2_with fail
 refine (dW _ _ _).mono ?_
 rintro e w1 ⟨rfl,hb1⟩
 obtain ⟨g0,g1,hz,B1,hne,BA1,g2,g3,BN⟩:=gC (t:=t) (fn:=fn) rfl hb1
 clear hb1
 go_wp2
 go_ret
 exact ⟨by rw [Z E];rfl,Z BN⟩
theorem bM2 (s:St) (t fn l:Int) (top:Option Addr) (bw:Nat) (w:World) (ht:(t != (s.cur:Int))=true) :
  Calls Tryz.prog 145 #[.agg #[.int .i64 s.cur,.pointer top,.pointer (some ⟨bw,0,none⟩)],eC 4 t fn l] w (eJ w s 4 t fn):=by
 have e1:eC 4 t fn l=.iface 284 (.agg #[.int .i64 t,.int .i64 fn]):=rfl
 rw [e1];clear e1
 have E:Hid (code s 4 t fn=3):=by
  have:t≠s.cur:=by simpa using ht
  exact O (by simp [code,this])
 have a0:=jT
 go_enter Tryz.func145,Tryz.ntmps145
 go_wp2_with fail
 refine cU (f:=270) (v':=.agg #[.int .i64 t,.int .i64 fn]) (by kernel_rfl) ?_
 go_wp2_with fail
 refine (dW _ _ _).mono ?_
 rintro e w1 ⟨rfl,hb1⟩
 obtain ⟨g0,g1,hz,B1,hne,BA1,g2,g3,BN⟩:=gC (t:=t) (fn:=fn) rfl hb1
 clear hb1
 go_wp2
 go_ret
 exact ⟨by rw [Z E];rfl,Z BN⟩
theorem bM3 (s:St) (t fn l:Int) (top:Option Addr) (bw:Nat) (w:World) (ht:(t != (s.cur:Int))=true) :
  Calls Tryz.prog 145 #[.agg #[.int .i64 s.cur,.pointer top,.pointer (some ⟨bw,0,none⟩)],eC 5 t fn l] w (eJ w s 5 t fn):=by
 have e1:eC 5 t fn l=.iface 285 (.agg #[.int .i64 t,.int .i64 fn]):=rfl
 rw [e1];clear e1
 have E:Hid (code s 5 t fn=3):=by
  have:t≠s.cur:=by simpa using ht
  exact O (by simp [code,this])
 have a0:=jU
 go_enter Tryz.func145,Tryz.ntmps145
 go_wp2_with fail
 refine cU (f:=270) (v':=.agg #[.int .i64 t,.int .i64 fn]) (by kernel_rfl) ?_
 go_wp2_with fail
 refine (dW _ _ _).mono ?_
 rintro e w1 ⟨rfl,hb1⟩
 obtain ⟨g0,g1,hz,B1,hne,BA1,g2,g3,BN⟩:=gC (t:=t) (fn:=fn) rfl hb1
 clear hb1
 go_wp2
 go_ret
 exact ⟨by rw [Z E];rfl,Z BN⟩
theorem bM4 (s:St) (t fn l:Int) (top:Option Addr) (bw:Nat) (w:World) (ht:(t != (s.cur:Int))=true) :
  Calls Tryz.prog 145 #[.agg #[.int .i64 s.cur,.pointer top,.pointer (some ⟨bw,0,none⟩)],eC 6 t fn l] w (eJ w s 6 t fn):=by
 have e1:eC 6 t fn l=.iface 286 (.agg #[.int .i64 t,.int .i64 fn]):=rfl
 rw [e1];clear e1
 have E:Hid (code s 6 t fn=3):=by
  have:t≠s.cur:=by simpa using ht
  exact O (by simp [code,this])
 have a0:=jH
 go_enter Tryz.func145,Tryz.ntmps145
 go_wp2_with fail
 refine cU (f:=270) (v':=.agg #[.int .i64 t,.int .i64 fn]) (by kernel_rfl) ?_
 go_wp2_with fail
 refine (dW _ _ _).mono ?_
 rintro e w1 ⟨rfl,hb1⟩
 obtain ⟨g0,g1,hz,B1,hne,BA1,g2,g3,BN⟩:=gC (t:=t) (fn:=fn) rfl hb1
 clear hb1
 go_wp2
 go_ret
 exact ⟨by rw [Z E];rfl,Z BN⟩
end Go.Proofs.YtmnmeaeicjhkhaaGreatDoor
