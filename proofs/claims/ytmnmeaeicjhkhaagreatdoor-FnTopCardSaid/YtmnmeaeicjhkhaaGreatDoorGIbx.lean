import Derived.Test.YtmnmeaeicjhkhaaGreatDoorGIax
set_option maxRecDepth 100000
set_option maxHeartbeats 16000000
namespace Go.Proofs.YtmnmeaeicjhkhaaGreatDoor
open Go.RowKit
theorem refuses_deep (s:St) (t fn l:Int) (top:Option Addr) (bw:Nat) (w:World) (hl:cR w (s.tasks s.cur) top) (ht:(t != (s.cur:Int))=false) (hd:(s.tasks s.cur).length=200) :
  Calls Tryz.prog 145 #[.agg #[.int .i64 s.cur,.pointer top,.pointer (some ⟨bw,0,none⟩)],eC 2 t fn l] w (eJ w s 2 t fn):=by
 have e1:eC 2 t fn l=.iface 282 (.agg #[.int .i64 t,.int .i64 fn]):=rfl
 rw [e1];clear e1
 have et:t=s.cur:=by simpa using ht
 have E:Hid (code s 2 t fn=5):=O (by simp [code,et,hd])
 have HD:=O hd;clear hd
 clear et
 have HLI:=O hl;clear hl
 have a0:=jJ
 have a1:=gB
 go_enter Tryz.func145,Tryz.ntmps145
 go_wp2_with fail
 refine cU (f:=270) (v':=.agg #[.int .i64 t,.int .i64 fn]) (by kernel_rfl) ?_
 go_wp2_with fail
 refine (dW _ _ _).mono ?_
 rintro e w1 ⟨rfl,hb1⟩
 obtain ⟨g0,g1,hz,B1,hne,BA1,g2,g3,BN⟩:=gC (t:=t) (fn:=fn) rfl hb1
 clear hb1
 have HL:=O (((Z HLI).below (Z B1)).below (Z BA1))
 go_wp2_with fail
 refine (mL _ _ _ (Z HL)).mono ?_
 rintro e w2 ⟨rfl,rfl⟩
 rw [Z HD]
 go_wp2
 go_ret
 exact ⟨by rw [Z E];rfl,Z BN⟩
theorem refuses_call (s:St) (t fn l:Int) (top:Option Addr) (bw:Nat) (w:World) (hl:cR w (s.tasks s.cur) top) (ht:(t != (s.cur:Int))=false) (hd:(s.tasks s.cur).length<200) :
  Calls Tryz.prog 145 #[.agg #[.int .i64 s.cur,.pointer top,.pointer (some ⟨bw,0,none⟩)],eC 2 t fn l] w (eJ w s 2 t fn):=by
 have e1:eC 2 t fn l=.iface 282 (.agg #[.int .i64 t,.int .i64 fn]):=rfl
 rw [e1];clear e1
 have et:t=s.cur:=by simpa using ht
 have E:Hid (code s 2 t fn=0):=O (by
  have:(s.tasks s.cur).length≠200:=by omega
  simp [code,et,this])
 have hd2:decide ((200:Int)<=((s.tasks s.cur).length:Int))=false:=by simp;omega
 clear et
 have HLI:=O hl;clear hl
 have a0:=jJ
 have a1:=gB
 go_enter Tryz.func145,Tryz.ntmps145
 go_wp2_with fail
 refine cU (f:=270) (v':=.agg #[.int .i64 t,.int .i64 fn]) (by kernel_rfl) ?_
 go_wp2_with fail
 refine (dW _ _ _).mono ?_
 rintro e w1 ⟨rfl,hb1⟩
 obtain ⟨g0,g1,hz,B1,hne,BA1,g2,g3,BN⟩:=gC (t:=t) (fn:=fn) rfl hb1
 clear hb1
 have HL:=O (((Z HLI).below (Z B1)).below (Z BA1))
 go_wp2_with fail
 refine (mL _ _ _ (Z HL)).mono ?_
 rintro e w2 ⟨rfl,rfl⟩
 go_wp2
 go_ret
 exact ⟨by rw [Z E];rfl,Z BN⟩
theorem bM5 (s:St) (t fn l:Int) (top:Option Addr) (bw:Nat) (w:World) (hl:cR w (s.tasks s.cur) top) (ht:(t != (s.cur:Int))=false) (hs:s.tasks s.cur=[]) :
  Calls Tryz.prog 145 #[.agg #[.int .i64 s.cur,.pointer top,.pointer (some ⟨bw,0,none⟩)],eC 1 t fn l] w (eJ w s 1 t fn):=by
 have e1:eC 1 t fn l=.iface 280 (.agg #[.int .i64 t,.int .i64 fn,.int .i64 l]):=rfl
 rw [e1];clear e1
 have et:t=s.cur:=by simpa using ht
 have E:Hid (code s 1 t fn=4):=O (by
  by_cases hf:fn=0
  ·simp [code,et,hs,topFn,hf]
  simp [code,et,hs,topFn,hf])
 have ep:top=none:=by rw [hs] at hl;exact hl
 subst ep
 clear et
 have HLI:=O hl;clear hl
 have a0:=gG
 have a1:=gJ
 have a2:=fH
 go_enter Tryz.func145,Tryz.ntmps145
 go_wp2_with fail
 refine cU (f:=270) (v':=.agg #[.int .i64 t,.int .i64 fn]) (by kernel_rfl) ?_
 go_wp2_with fail
 refine (dW _ _ _).mono ?_
 rintro e w1 ⟨rfl,hb1⟩
 obtain ⟨g0,g1,hz,B1,hne,BA1,g2,g3,BN⟩:=gC (t:=t) (fn:=fn) rfl hb1
 clear hb1
 have HL:=O (((Z HLI).below (Z B1)).below (Z BA1))
 go_wp2
 go_ret
 exact ⟨by rw [Z E];rfl,Z BN⟩
theorem bM6 (s:St) (t fn l:Int) (top:Option Addr) (bw:Nat) (w:World) (hl:cR w (s.tasks s.cur) top) (ht:(t != (s.cur:Int))=false) (hs:s.tasks s.cur=[]) :
  Calls Tryz.prog 145 #[.agg #[.int .i64 s.cur,.pointer top,.pointer (some ⟨bw,0,none⟩)],eC 3 t fn l] w (eJ w s 3 t fn):=by
 have e1:eC 3 t fn l=.iface 283 (.agg #[.int .i64 t,.int .i64 fn]):=rfl
 rw [e1];clear e1
 have et:t=s.cur:=by simpa using ht
 have E:Hid (code s 3 t fn=4):=O (by
  by_cases hf:fn=0
  ·simp [code,et,hs,topFn,gU,hf]
  simp [code,et,hs,topFn,hf])
 have ep:top=none:=by rw [hs] at hl;exact hl
 subst ep
 clear et
 have HLI:=O hl;clear hl
 have a0:=fP
 have a1:=eH
 have a2:=eS
 have a3:=eW
 go_enter Tryz.func145,Tryz.ntmps145
 go_wp2_with fail
 refine cU (f:=270) (v':=.agg #[.int .i64 t,.int .i64 fn]) (by kernel_rfl) ?_
 go_wp2_with fail
 refine (dW _ _ _).mono ?_
 rintro e w1 ⟨rfl,hb1⟩
 obtain ⟨g0,g1,hz,B1,hne,BA1,g2,g3,BN⟩:=gC (t:=t) (fn:=fn) rfl hb1
 clear hb1
 have HL:=O (((Z HLI).below (Z B1)).below (Z BA1))
 go_wp2
 go_ret
 exact ⟨by rw [Z E];rfl,Z BN⟩
theorem refuses_text (s:St) (t fn l:Int) (top:Option Addr) (bw:Nat) (w:World) (hl:cR w (s.tasks s.cur) top) (ht:(t != (s.cur:Int))=false) (f:Fr) (r:List Fr) (hs:s.tasks s.cur=f :: r) (hfr:f.frm=-1) :
  Calls Tryz.prog 145 #[.agg #[.int .i64 s.cur,.pointer top,.pointer (some ⟨bw,0,none⟩)],eC 3 t fn l] w (eJ w s 3 t fn):=by
 have e1:eC 3 t fn l=.iface 283 (.agg #[.int .i64 t,.int .i64 fn]):=rfl
 rw [e1];clear e1
 have et:t=s.cur:=by simpa using ht
 have E:Hid (code s 3 t fn=4):=O (by
  by_cases hf:fn=f.fn
  ·simp [code,et,hs,topFn,gU,hf,hfr]
  simp [code,et,hs,topFn,hf])
 have hl':=hl
 rw [hs] at hl'
 obtain ⟨b,p',rfl,-,-,k2,-⟩:=hl'
 rw [hfr] at k2
 have HS:=O hs;clear hs
 have HFR:=O hfr;clear hfr
 clear et
 have HLI:=O hl;clear hl
 have a0:=fP
 have a1:=eH
 have a2:=eS
 have a3:=eW
 go_enter Tryz.func145,Tryz.ntmps145
 go_wp2_with fail
 refine cU (f:=270) (v':=.agg #[.int .i64 t,.int .i64 fn]) (by kernel_rfl) ?_
 go_wp2_with fail
 refine (dW _ _ _).mono ?_
 rintro e w1 ⟨rfl,hb1⟩
 obtain ⟨g0,g1,hz,B1,hne,BA1,g2,g3,BN⟩:=gC (t:=t) (fn:=fn) rfl hb1
 clear hb1
 have HL:=O (((Z HLI).below (Z B1)).below (Z BA1))
 have k2:=bG (Z BA1) (bG (Z B1) k2)
 go_wp2
 go_ret
 exact ⟨by rw [Z E];rfl,Z BN⟩
theorem zC (s:St) (t fn l:Int) (top:Option Addr) (bw:Nat) (w:World) (hl:cR w (s.tasks s.cur) top) (ht:(t != (s.cur:Int))=false) (f:Fr) (r:List Fr) (hs:s.tasks s.cur=f :: r) (hfn:(fn != topFn (s.tasks s.cur))=false) :
  Calls Tryz.prog 145 #[.agg #[.int .i64 s.cur,.pointer top,.pointer (some ⟨bw,0,none⟩)],eC 1 t fn l] w (eJ w s 1 t fn):=by
 have e1:eC 1 t fn l=.iface 280 (.agg #[.int .i64 t,.int .i64 fn,.int .i64 l]):=rfl
 rw [e1];clear e1
 have et:t=s.cur:=by simpa using ht
 have E:Hid (code s 1 t fn=0):=O (by
  have hf:fn=topFn (s.tasks s.cur):=by simpa using hfn
  rw [hs] at hf;simp [code,et,hs,hf])
 have hl':=hl
 rw [hs] at hl'
 obtain ⟨b,p',rfl,-⟩:=hl'
 have HS:=O hs;clear hs
 clear et
 have HLI:=O hl;clear hl
 have a0:=gG
 have a1:=gJ
 have a2:=fH
 go_enter Tryz.func145,Tryz.ntmps145
 go_wp2_with fail
 refine cU (f:=270) (v':=.agg #[.int .i64 t,.int .i64 fn]) (by kernel_rfl) ?_
 go_wp2_with fail
 refine (dW _ _ _).mono ?_
 rintro e w1 ⟨rfl,hb1⟩
 obtain ⟨g0,g1,hz,B1,hne,BA1,g2,g3,BN⟩:=gC (t:=t) (fn:=fn) rfl hb1
 clear hb1
 have HL:=O (((Z HLI).below (Z B1)).below (Z BA1))
 have HF:=vR HL
 go_wp2_with fail
 go_quiet ((go_at_call 179;exact Calls.quiet_of_same (Z HF _)))
 go_wp2
 go_ret
 exact ⟨by rw [Z E];rfl,below_drewN (Z BN) _⟩
theorem bD2 (s:St) (t fn l:Int) (top:Option Addr) (bw:Nat) (w:World) (hl:cR w (s.tasks s.cur) top) (ht:(t != (s.cur:Int))=false) (f:Fr) (r:List Fr) (hs:s.tasks s.cur=f :: r) (hfn:(fn != topFn (s.tasks s.cur))=true) :
  Calls Tryz.prog 145 #[.agg #[.int .i64 s.cur,.pointer top,.pointer (some ⟨bw,0,none⟩)],eC 1 t fn l] w (eJ w s 1 t fn):=by
 have e1:eC 1 t fn l=.iface 280 (.agg #[.int .i64 t,.int .i64 fn,.int .i64 l]):=rfl
 rw [e1];clear e1
 have et:t=s.cur:=by simpa using ht
 have E:Hid (code s 1 t fn=4):=O (by
  have hf:fn≠topFn (s.tasks s.cur):=by simpa using hfn
  simp [code,et,hs] at hf ⊢;simp [hf])
 have hl':=hl
 rw [hs] at hl'
 obtain ⟨b,p',rfl,-⟩:=hl'
 have HS:=O hs;clear hs
 clear et
 have HLI:=O hl;clear hl
 have a0:=gG
 have a1:=gJ
 have a2:=fH
 go_enter Tryz.func145,Tryz.ntmps145
 go_wp2_with fail
 refine cU (f:=270) (v':=.agg #[.int .i64 t,.int .i64 fn]) (by kernel_rfl) ?_
 go_wp2_with fail
 refine (dW _ _ _).mono ?_
 rintro e w1 ⟨rfl,hb1⟩
 obtain ⟨g0,g1,hz,B1,hne,BA1,g2,g3,BN⟩:=gC (t:=t) (fn:=fn) rfl hb1
 clear hb1
 have HL:=O (((Z HLI).below (Z B1)).below (Z BA1))
 have HF:=vR HL
 go_wp2_with fail
 go_quiet ((go_at_call 179;exact Calls.quiet_of_same (Z HF _)))
 go_wp2
 go_ret
 exact ⟨by rw [Z E];rfl,below_drewN (Z BN) _⟩
theorem zD (s:St) (t fn l:Int) (top:Option Addr) (bw:Nat) (w:World) (hl:cR w (s.tasks s.cur) top) (ht:(t != (s.cur:Int))=false) (f:Fr) (r:List Fr) (hs:s.tasks s.cur=f :: r) (hfr:0<=f.frm) (hfn:(fn != topFn (s.tasks s.cur))=false) :
  Calls Tryz.prog 145 #[.agg #[.int .i64 s.cur,.pointer top,.pointer (some ⟨bw,0,none⟩)],eC 3 t fn l] w (eJ w s 3 t fn):=by
 have e1:eC 3 t fn l=.iface 283 (.agg #[.int .i64 t,.int .i64 fn]):=rfl
 rw [e1];clear e1
 have et:t=s.cur:=by simpa using ht
 have E:Hid (code s 3 t fn=0):=O (by
  have hf:fn=topFn (s.tasks s.cur):=by simpa using hfn
  have h0:¬ f.frm<0:=by omega
  rw [hs] at hf;simp [code,et,hs,gU,h0,hf])
 have hl':=hl
 rw [hs] at hl'
 obtain ⟨b,p',rfl,-,-,k2,-⟩:=hl'
 have hq:(f.frm == -1)=false:=by simp;omega
 have HS:=O hs;clear hs hfr
 clear et
 have HLI:=O hl;clear hl
 have a0:=fP
 have a1:=eH
 have a2:=eS
 have a3:=eW
 go_enter Tryz.func145,Tryz.ntmps145
 go_wp2_with fail
 refine cU (f:=270) (v':=.agg #[.int .i64 t,.int .i64 fn]) (by kernel_rfl) ?_
 go_wp2_with fail
 refine (dW _ _ _).mono ?_
 rintro e w1 ⟨rfl,hb1⟩
 obtain ⟨g0,g1,hz,B1,hne,BA1,g2,g3,BN⟩:=gC (t:=t) (fn:=fn) rfl hb1
 clear hb1
 have HL:=O (((Z HLI).below (Z B1)).below (Z BA1))
 have HF:=vR HL
 have k2:=bG (Z BA1) (bG (Z B1) k2)
 go_wp2_with fail
 go_quiet ((go_at_call 179;exact Calls.quiet_of_same (Z HF _)))
 go_wp2
 go_ret
 exact ⟨by rw [Z E];rfl,below_drewN (Z BN) _⟩
theorem bD3 (s:St) (t fn l:Int) (top:Option Addr) (bw:Nat) (w:World) (hl:cR w (s.tasks s.cur) top) (ht:(t != (s.cur:Int))=false) (f:Fr) (r:List Fr) (hs:s.tasks s.cur=f :: r) (hfr:0<=f.frm) (hfn:(fn != topFn (s.tasks s.cur))=true) :
  Calls Tryz.prog 145 #[.agg #[.int .i64 s.cur,.pointer top,.pointer (some ⟨bw,0,none⟩)],eC 3 t fn l] w (eJ w s 3 t fn):=by
 have e1:eC 3 t fn l=.iface 283 (.agg #[.int .i64 t,.int .i64 fn]):=rfl
 rw [e1];clear e1
 have et:t=s.cur:=by simpa using ht
 have E:Hid (code s 3 t fn=4):=O (by
  have hf:fn≠topFn (s.tasks s.cur):=by simpa using hfn
  simp [code,et,hs] at hf ⊢;simp [hf])
 have hl':=hl
 rw [hs] at hl'
 obtain ⟨b,p',rfl,-,-,k2,-⟩:=hl'
 have hq:(f.frm == -1)=false:=by simp;omega
 have HS:=O hs;clear hs hfr
 clear et
 have HLI:=O hl;clear hl
 have a0:=fP
 have a1:=eH
 have a2:=eS
 have a3:=eW
 go_enter Tryz.func145,Tryz.ntmps145
 go_wp2_with fail
 refine cU (f:=270) (v':=.agg #[.int .i64 t,.int .i64 fn]) (by kernel_rfl) ?_
 go_wp2_with fail
 refine (dW _ _ _).mono ?_
 rintro e w1 ⟨rfl,hb1⟩
 obtain ⟨g0,g1,hz,B1,hne,BA1,g2,g3,BN⟩:=gC (t:=t) (fn:=fn) rfl hb1
 clear hb1
 have HL:=O (((Z HLI).below (Z B1)).below (Z BA1))
 have HF:=vR HL
 have k2:=bG (Z BA1) (bG (Z B1) k2)
 go_wp2_with fail
 go_quiet ((go_at_call 179;exact Calls.quiet_of_same (Z HF _)))
 go_wp2
 go_ret
 exact ⟨by rw [Z E];rfl,below_drewN (Z BN) _⟩
theorem xA (s:St) (t fn l:Int) (top:Option Addr) (bw:Nat) (w:World) (hl:cR w (s.tasks s.cur) top) (ht:(t != (s.cur:Int))=false)  (hfn:(fn != topFn (s.tasks s.cur))=false) :
  Calls Tryz.prog 145 #[.agg #[.int .i64 s.cur,.pointer top,.pointer (some ⟨bw,0,none⟩)],eC 4 t fn l] w (eJ w s 4 t fn):=by
 have e1:eC 4 t fn l=.iface 284 (.agg #[.int .i64 t,.int .i64 fn]):=rfl
 rw [e1];clear e1
 have et:t=s.cur:=by simpa using ht
 have E:Hid (code s 4 t fn=0):=O (by
  have hf:fn=topFn (s.tasks s.cur):=by simpa using hfn
  simp [code,et,<- hf])
 clear et
 have HLI:=O hl;clear hl
 have a0:=jT
 have a1:=jK
 have a2:=jZ
 have a3:=kQ
 go_enter Tryz.func145,Tryz.ntmps145
 go_wp2_with fail
 refine cU (f:=270) (v':=.agg #[.int .i64 t,.int .i64 fn]) (by kernel_rfl) ?_
 go_wp2_with fail
 refine (dW _ _ _).mono ?_
 rintro e w1 ⟨rfl,hb1⟩
 obtain ⟨g0,g1,hz,B1,hne,BA1,g2,g3,BN⟩:=gC (t:=t) (fn:=fn) rfl hb1
 clear hb1
 have HL:=O (((Z HLI).below (Z B1)).below (Z BA1))
 have HF:=vR HL
 go_wp2_with fail
 go_quiet ((go_at_call 179;exact Calls.quiet_of_same (Z HF _)))
 go_wp2
 go_ret
 exact ⟨by rw [Z E];rfl,below_drewN (Z BN) _⟩
theorem xW (s:St) (t fn l:Int) (top:Option Addr) (bw:Nat) (w:World) (hl:cR w (s.tasks s.cur) top) (ht:(t != (s.cur:Int))=false)  (hfn:(fn != topFn (s.tasks s.cur))=true) :
  Calls Tryz.prog 145 #[.agg #[.int .i64 s.cur,.pointer top,.pointer (some ⟨bw,0,none⟩)],eC 4 t fn l] w (eJ w s 4 t fn):=by
 have e1:eC 4 t fn l=.iface 284 (.agg #[.int .i64 t,.int .i64 fn]):=rfl
 rw [e1];clear e1
 have et:t=s.cur:=by simpa using ht
 have E:Hid (code s 4 t fn=4):=O (by
  have hf:fn≠topFn (s.tasks s.cur):=by simpa using hfn
  simp [code,et,hf])
 clear et
 have HLI:=O hl;clear hl
 have a0:=jT
 have a1:=jK
 have a2:=jZ
 have a3:=kQ
 go_enter Tryz.func145,Tryz.ntmps145
 go_wp2_with fail
 refine cU (f:=270) (v':=.agg #[.int .i64 t,.int .i64 fn]) (by kernel_rfl) ?_
 go_wp2_with fail
 refine (dW _ _ _).mono ?_
 rintro e w1 ⟨rfl,hb1⟩
 obtain ⟨g0,g1,hz,B1,hne,BA1,g2,g3,BN⟩:=gC (t:=t) (fn:=fn) rfl hb1
 clear hb1
 have HL:=O (((Z HLI).below (Z B1)).below (Z BA1))
 have HF:=vR HL
 go_wp2_with fail
 go_quiet ((go_at_call 179;exact Calls.quiet_of_same (Z HF _)))
 go_wp2
 go_ret
 exact ⟨by rw [Z E];rfl,below_drewN (Z BN) _⟩
theorem xB (s:St) (t fn l:Int) (top:Option Addr) (bw:Nat) (w:World) (hl:cR w (s.tasks s.cur) top) (ht:(t != (s.cur:Int))=false)  (hfn:(fn != topFn (s.tasks s.cur))=false) :
  Calls Tryz.prog 145 #[.agg #[.int .i64 s.cur,.pointer top,.pointer (some ⟨bw,0,none⟩)],eC 5 t fn l] w (eJ w s 5 t fn):=by
 have e1:eC 5 t fn l=.iface 285 (.agg #[.int .i64 t,.int .i64 fn]):=rfl
 rw [e1];clear e1
 have et:t=s.cur:=by simpa using ht
 have E:Hid (code s 5 t fn=0):=O (by
  have hf:fn=topFn (s.tasks s.cur):=by simpa using hfn
  simp [code,et,<- hf])
 clear et
 have HLI:=O hl;clear hl
 have a0:=jU
 have a1:=jL
 have a2:=kF
 have a3:=kR
 go_enter Tryz.func145,Tryz.ntmps145
 go_wp2_with fail
 refine cU (f:=270) (v':=.agg #[.int .i64 t,.int .i64 fn]) (by kernel_rfl) ?_
 go_wp2_with fail
 refine (dW _ _ _).mono ?_
 rintro e w1 ⟨rfl,hb1⟩
 obtain ⟨g0,g1,hz,B1,hne,BA1,g2,g3,BN⟩:=gC (t:=t) (fn:=fn) rfl hb1
 clear hb1
 have HL:=O (((Z HLI).below (Z B1)).below (Z BA1))
 have HF:=vR HL
 go_wp2_with fail
 go_quiet ((go_at_call 179;exact Calls.quiet_of_same (Z HF _)))
 go_wp2
 go_ret
 exact ⟨by rw [Z E];rfl,below_drewN (Z BN) _⟩
theorem xX (s:St) (t fn l:Int) (top:Option Addr) (bw:Nat) (w:World) (hl:cR w (s.tasks s.cur) top) (ht:(t != (s.cur:Int))=false)  (hfn:(fn != topFn (s.tasks s.cur))=true) :
  Calls Tryz.prog 145 #[.agg #[.int .i64 s.cur,.pointer top,.pointer (some ⟨bw,0,none⟩)],eC 5 t fn l] w (eJ w s 5 t fn):=by
 have e1:eC 5 t fn l=.iface 285 (.agg #[.int .i64 t,.int .i64 fn]):=rfl
 rw [e1];clear e1
 have et:t=s.cur:=by simpa using ht
 have E:Hid (code s 5 t fn=4):=O (by
  have hf:fn≠topFn (s.tasks s.cur):=by simpa using hfn
  simp [code,et,hf])
 clear et
 have HLI:=O hl;clear hl
 have a0:=jU
 have a1:=jL
 have a2:=kF
 have a3:=kR
 go_enter Tryz.func145,Tryz.ntmps145
 go_wp2_with fail
 refine cU (f:=270) (v':=.agg #[.int .i64 t,.int .i64 fn]) (by kernel_rfl) ?_
 go_wp2_with fail
 refine (dW _ _ _).mono ?_
 rintro e w1 ⟨rfl,hb1⟩
 obtain ⟨g0,g1,hz,B1,hne,BA1,g2,g3,BN⟩:=gC (t:=t) (fn:=fn) rfl hb1
 clear hb1
 have HL:=O (((Z HLI).below (Z B1)).below (Z BA1))
 have HF:=vR HL
 go_wp2_with fail
 go_quiet ((go_at_call 179;exact Calls.quiet_of_same (Z HF _)))
 go_wp2
 go_ret
 exact ⟨by rw [Z E];rfl,below_drewN (Z BN) _⟩
theorem xC (s:St) (t fn l:Int) (top:Option Addr) (bw:Nat) (w:World) (hl:cR w (s.tasks s.cur) top) (ht:(t != (s.cur:Int))=false)  (hfn:(fn != topFn (s.tasks s.cur))=false) :
  Calls Tryz.prog 145 #[.agg #[.int .i64 s.cur,.pointer top,.pointer (some ⟨bw,0,none⟩)],eC 6 t fn l] w (eJ w s 6 t fn):=by
 have e1:eC 6 t fn l=.iface 286 (.agg #[.int .i64 t,.int .i64 fn]):=rfl
 rw [e1];clear e1
 have et:t=s.cur:=by simpa using ht
 have E:Hid (code s 6 t fn=0):=O (by
  have hf:fn=topFn (s.tasks s.cur):=by simpa using hfn
  simp [code,et,<- hf])
 clear et
 have HLI:=O hl;clear hl
 have a0:=jH
 have a1:=jC
 have a2:=jM
 have a3:=kG
 go_enter Tryz.func145,Tryz.ntmps145
 go_wp2_with fail
 refine cU (f:=270) (v':=.agg #[.int .i64 t,.int .i64 fn]) (by kernel_rfl) ?_
 go_wp2_with fail
 refine (dW _ _ _).mono ?_
 rintro e w1 ⟨rfl,hb1⟩
 obtain ⟨g0,g1,hz,B1,hne,BA1,g2,g3,BN⟩:=gC (t:=t) (fn:=fn) rfl hb1
 clear hb1
 have HL:=O (((Z HLI).below (Z B1)).below (Z BA1))
 have HF:=vR HL
 go_wp2_with fail
 go_quiet ((go_at_call 179;exact Calls.quiet_of_same (Z HF _)))
 go_wp2
 go_ret
 exact ⟨by rw [Z E];rfl,below_drewN (Z BN) _⟩
theorem xY (s:St) (t fn l:Int) (top:Option Addr) (bw:Nat) (w:World) (hl:cR w (s.tasks s.cur) top) (ht:(t != (s.cur:Int))=false)  (hfn:(fn != topFn (s.tasks s.cur))=true) :
  Calls Tryz.prog 145 #[.agg #[.int .i64 s.cur,.pointer top,.pointer (some ⟨bw,0,none⟩)],eC 6 t fn l] w (eJ w s 6 t fn):=by
 have e1:eC 6 t fn l=.iface 286 (.agg #[.int .i64 t,.int .i64 fn]):=rfl
 rw [e1];clear e1
 have et:t=s.cur:=by simpa using ht
 have E:Hid (code s 6 t fn=4):=O (by
  have hf:fn≠topFn (s.tasks s.cur):=by simpa using hfn
  simp [code,et,hf])
 clear et
 have HLI:=O hl;clear hl
 have a0:=jH
 have a1:=jC
 have a2:=jM
 have a3:=kG
 go_enter Tryz.func145,Tryz.ntmps145
 go_wp2_with fail
 refine cU (f:=270) (v':=.agg #[.int .i64 t,.int .i64 fn]) (by kernel_rfl) ?_
 go_wp2_with fail
 refine (dW _ _ _).mono ?_
 rintro e w1 ⟨rfl,hb1⟩
 obtain ⟨g0,g1,hz,B1,hne,BA1,g2,g3,BN⟩:=gC (t:=t) (fn:=fn) rfl hb1
 clear hb1
 have HL:=O (((Z HLI).below (Z B1)).below (Z BA1))
 have HF:=vR HL
 go_wp2_with fail
 go_quiet ((go_at_call 179;exact Calls.quiet_of_same (Z HF _)))
 go_wp2
 go_ret
 exact ⟨by rw [Z E];rfl,below_drewN (Z BN) _⟩
end Go.Proofs.YtmnmeaeicjhkhaaGreatDoor
