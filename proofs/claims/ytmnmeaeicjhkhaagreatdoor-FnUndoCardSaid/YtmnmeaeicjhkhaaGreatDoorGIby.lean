import Derived.Test.YtmnmeaeicjhkhaaGreatDoorGIay
set_option maxRecDepth 100000
set_option maxHeartbeats 16000000
namespace Go.Proofs.YtmnmeaeicjhkhaaGreatDoor
open Go.RowKit
theorem refuses_deep (s:St) (t fn l:Int) (top:Option Addr) (bw:Nat) (w:World) (hl:ListAt w (s.tasks s.cur) top) (ht:(t != (s.cur:Int))=false) (hd:(s.tasks s.cur).length=200) :
  Calls Tryz.prog 145 #[.agg #[.int .i64 s.cur,.pointer top,.pointer (some ⟨bw,0,none⟩)],evOf 2 t fn l] w (Refused w s 2 t fn):=by
 have e1:evOf 2 t fn l=.iface 282 (.agg #[.int .i64 t,.int .i64 fn]):=rfl
 rw [e1];clear e1
 have et:t=s.cur:=by simpa using ht
 have E:Hid (code s 2 t fn=5):=hide (by simp [code,et,hd])
 have HD:=hide hd;clear hd
 clear et
 have HLI:=hide hl;clear hl
 have a0:=ta_callOpened_turned
 have a1:=ta_callOpened_callOpened
 have BA:=hide (((Below.refl w.heap.size w).alloc (Nat.le_refl _) (.cells #[.int .i64 s.cur,.pointer top,.pointer (some ⟨bw,0,none⟩)] 119)).alloc (by simp) (.cells #[.int .i64 0,.int .i64 0] 287))
 go_enter Tryz.func145,Tryz.ntmps145
 go_wp2_with fail
 refine upon_method (f:=270) (v':=.agg #[.int .i64 t,.int .i64 fn]) (by kernel_rfl) ?_
 go_wp2_with fail
 refine (site_any _ _ _).mono ?_
 rintro e w1 ⟨rfl,hb1⟩
 have hc:=old_cells hb1;have hf:=old_marks hb1
 have g0:w1.cell? ⟨w.heap.size,0,none⟩=some (.int .i64 s.cur):=by rw [hc _ _ (by simp;omega)];simp
 have g1:w1.cell? ⟨w.heap.size,1,none⟩=some (.pointer top):=by rw [hc _ _ (by simp;omega)];simp
 have hz:w.heap.size + 2≤w1.heap.size:=by have:=hb1.size;simp at this;omega
 have B1:=hide ((uh BA).trans (hb1.mono (uh BA).size))
 clear hc hf hb1
 have hne:w.heap.size ≠ w1.heap.size:=by omega
 have BA1:=hide ((Below.refl w1.heap.size w1).alloc (Nat.le_refl _) (.cells #[.int .i64 t,.int .i64 fn] 278))
 have g2:=cell_below (uh BA1) g0
 have g3:=cell_below (uh BA1) g1
 have BN:=hide ((uh B1).alloc (by omega) (.cells #[.int .i64 t,.int .i64 fn] 278))
 have HL:=hide (((uh HLI).below (uh B1)).below (uh BA1))
 go_wp2_with fail
 refine (count_any _ _ _ (uh HL)).mono ?_
 rintro e w2 ⟨rfl,rfl⟩
 rw [uh HD]
 go_wp2
 go_ret
 exact ⟨by rw [uh E];rfl,uh BN⟩
theorem refuses_call (s:St) (t fn l:Int) (top:Option Addr) (bw:Nat) (w:World) (hl:ListAt w (s.tasks s.cur) top) (ht:(t != (s.cur:Int))=false) (hd:(s.tasks s.cur).length < 200) :
  Calls Tryz.prog 145 #[.agg #[.int .i64 s.cur,.pointer top,.pointer (some ⟨bw,0,none⟩)],evOf 2 t fn l] w (Refused w s 2 t fn):=by
 have e1:evOf 2 t fn l=.iface 282 (.agg #[.int .i64 t,.int .i64 fn]):=rfl
 rw [e1];clear e1
 have et:t=s.cur:=by simpa using ht
 have E:Hid (code s 2 t fn=0):=hide (by
  have:(s.tasks s.cur).length ≠ 200:=by omega
  simp [code,et,this])
 have hd2:decide ((200:Int)≤((s.tasks s.cur).length:Int))=false:=by simp;omega
 clear et
 have HLI:=hide hl;clear hl
 have a0:=ta_callOpened_turned
 have a1:=ta_callOpened_callOpened
 have BA:=hide (((Below.refl w.heap.size w).alloc (Nat.le_refl _) (.cells #[.int .i64 s.cur,.pointer top,.pointer (some ⟨bw,0,none⟩)] 119)).alloc (by simp) (.cells #[.int .i64 0,.int .i64 0] 287))
 go_enter Tryz.func145,Tryz.ntmps145
 go_wp2_with fail
 refine upon_method (f:=270) (v':=.agg #[.int .i64 t,.int .i64 fn]) (by kernel_rfl) ?_
 go_wp2_with fail
 refine (site_any _ _ _).mono ?_
 rintro e w1 ⟨rfl,hb1⟩
 have hc:=old_cells hb1;have hf:=old_marks hb1
 have g0:w1.cell? ⟨w.heap.size,0,none⟩=some (.int .i64 s.cur):=by rw [hc _ _ (by simp;omega)];simp
 have g1:w1.cell? ⟨w.heap.size,1,none⟩=some (.pointer top):=by rw [hc _ _ (by simp;omega)];simp
 have hz:w.heap.size + 2≤w1.heap.size:=by have:=hb1.size;simp at this;omega
 have B1:=hide ((uh BA).trans (hb1.mono (uh BA).size))
 clear hc hf hb1
 have hne:w.heap.size ≠ w1.heap.size:=by omega
 have BA1:=hide ((Below.refl w1.heap.size w1).alloc (Nat.le_refl _) (.cells #[.int .i64 t,.int .i64 fn] 278))
 have g2:=cell_below (uh BA1) g0
 have g3:=cell_below (uh BA1) g1
 have BN:=hide ((uh B1).alloc (by omega) (.cells #[.int .i64 t,.int .i64 fn] 278))
 have HL:=hide (((uh HLI).below (uh B1)).below (uh BA1))
 go_wp2_with fail
 refine (count_any _ _ _ (uh HL)).mono ?_
 rintro e w2 ⟨rfl,rfl⟩
 go_wp2
 go_ret
 exact ⟨by rw [uh E];rfl,uh BN⟩
theorem refuses_none1 (s:St) (t fn l:Int) (top:Option Addr) (bw:Nat) (w:World) (hl:ListAt w (s.tasks s.cur) top) (ht:(t != (s.cur:Int))=false) (hs:s.tasks s.cur=[]) :
  Calls Tryz.prog 145 #[.agg #[.int .i64 s.cur,.pointer top,.pointer (some ⟨bw,0,none⟩)],evOf 1 t fn l] w (Refused w s 1 t fn):=by
 have e1:evOf 1 t fn l=.iface 280 (.agg #[.int .i64 t,.int .i64 fn,.int .i64 l]):=rfl
 rw [e1];clear e1
 have et:t=s.cur:=by simpa using ht
 have E:Hid (code s 1 t fn=4):=hide (by
  by_cases hf:fn=0
  ·simp [code,et,hs,topFn,hf]
  ·simp [code,et,hs,topFn,hf])
 have ep:top=none:=by rw [hs] at hl;exact hl
 subst ep
 clear et
 have HLI:=hide hl;clear hl
 have a0:=ta_lineBegun_turned
 have a1:=ta_lineBegun_callOpened
 have a2:=ta_lineBegun_lineBegun
 have BA:=hide (((Below.refl w.heap.size w).alloc (Nat.le_refl _) (.cells #[.int .i64 s.cur,.pointer none,.pointer (some ⟨bw,0,none⟩)] 119)).alloc (by simp) (.cells #[.int .i64 0,.int .i64 0] 287))
 go_enter Tryz.func145,Tryz.ntmps145
 go_wp2_with fail
 refine upon_method (f:=270) (v':=.agg #[.int .i64 t,.int .i64 fn]) (by kernel_rfl) ?_
 go_wp2_with fail
 refine (site_any _ _ _).mono ?_
 rintro e w1 ⟨rfl,hb1⟩
 have hc:=old_cells hb1;have hf:=old_marks hb1
 have g0:w1.cell? ⟨w.heap.size,0,none⟩=some (.int .i64 s.cur):=by rw [hc _ _ (by simp;omega)];simp
 have g1:w1.cell? ⟨w.heap.size,1,none⟩=some (.pointer none):=by rw [hc _ _ (by simp;omega)];simp
 have hz:w.heap.size + 2≤w1.heap.size:=by have:=hb1.size;simp at this;omega
 have B1:=hide ((uh BA).trans (hb1.mono (uh BA).size))
 clear hc hf hb1
 have hne:w.heap.size ≠ w1.heap.size:=by omega
 have BA1:=hide ((Below.refl w1.heap.size w1).alloc (Nat.le_refl _) (.cells #[.int .i64 t,.int .i64 fn] 278))
 have g2:=cell_below (uh BA1) g0
 have g3:=cell_below (uh BA1) g1
 have BN:=hide ((uh B1).alloc (by omega) (.cells #[.int .i64 t,.int .i64 fn] 278))
 have HL:=hide (((uh HLI).below (uh B1)).below (uh BA1))
 go_wp2
 go_ret
 exact ⟨by rw [uh E];rfl,uh BN⟩
theorem refuses_none3 (s:St) (t fn l:Int) (top:Option Addr) (bw:Nat) (w:World) (hl:ListAt w (s.tasks s.cur) top) (ht:(t != (s.cur:Int))=false) (hs:s.tasks s.cur=[]) :
  Calls Tryz.prog 145 #[.agg #[.int .i64 s.cur,.pointer top,.pointer (some ⟨bw,0,none⟩)],evOf 3 t fn l] w (Refused w s 3 t fn):=by
 have e1:evOf 3 t fn l=.iface 283 (.agg #[.int .i64 t,.int .i64 fn]):=rfl
 rw [e1];clear e1
 have et:t=s.cur:=by simpa using ht
 have E:Hid (code s 3 t fn=4):=hide (by
  by_cases hf:fn=0
  ·simp [code,et,hs,topFn,topFrom,hf]
  ·simp [code,et,hs,topFn,hf])
 have ep:top=none:=by rw [hs] at hl;exact hl
 subst ep
 clear et
 have HLI:=hide hl;clear hl
 have a0:=ta_callLeft_turned
 have a1:=ta_callLeft_callOpened
 have a2:=ta_callLeft_lineBegun
 have a3:=ta_callLeft_callLeft
 have BA:=hide (((Below.refl w.heap.size w).alloc (Nat.le_refl _) (.cells #[.int .i64 s.cur,.pointer none,.pointer (some ⟨bw,0,none⟩)] 119)).alloc (by simp) (.cells #[.int .i64 0,.int .i64 0] 287))
 go_enter Tryz.func145,Tryz.ntmps145
 go_wp2_with fail
 refine upon_method (f:=270) (v':=.agg #[.int .i64 t,.int .i64 fn]) (by kernel_rfl) ?_
 go_wp2_with fail
 refine (site_any _ _ _).mono ?_
 rintro e w1 ⟨rfl,hb1⟩
 have hc:=old_cells hb1;have hf:=old_marks hb1
 have g0:w1.cell? ⟨w.heap.size,0,none⟩=some (.int .i64 s.cur):=by rw [hc _ _ (by simp;omega)];simp
 have g1:w1.cell? ⟨w.heap.size,1,none⟩=some (.pointer none):=by rw [hc _ _ (by simp;omega)];simp
 have hz:w.heap.size + 2≤w1.heap.size:=by have:=hb1.size;simp at this;omega
 have B1:=hide ((uh BA).trans (hb1.mono (uh BA).size))
 clear hc hf hb1
 have hne:w.heap.size ≠ w1.heap.size:=by omega
 have BA1:=hide ((Below.refl w1.heap.size w1).alloc (Nat.le_refl _) (.cells #[.int .i64 t,.int .i64 fn] 278))
 have g2:=cell_below (uh BA1) g0
 have g3:=cell_below (uh BA1) g1
 have BN:=hide ((uh B1).alloc (by omega) (.cells #[.int .i64 t,.int .i64 fn] 278))
 have HL:=hide (((uh HLI).below (uh B1)).below (uh BA1))
 go_wp2
 go_ret
 exact ⟨by rw [uh E];rfl,uh BN⟩
theorem refuses_text (s:St) (t fn l:Int) (top:Option Addr) (bw:Nat) (w:World) (hl:ListAt w (s.tasks s.cur) top) (ht:(t != (s.cur:Int))=false) (f:Fr) (r:List Fr) (hs:s.tasks s.cur=f :: r) (hfr:f.frm=-1) :
  Calls Tryz.prog 145 #[.agg #[.int .i64 s.cur,.pointer top,.pointer (some ⟨bw,0,none⟩)],evOf 3 t fn l] w (Refused w s 3 t fn):=by
 have e1:evOf 3 t fn l=.iface 283 (.agg #[.int .i64 t,.int .i64 fn]):=rfl
 rw [e1];clear e1
 have et:t=s.cur:=by simpa using ht
 have E:Hid (code s 3 t fn=4):=hide (by
  by_cases hf:fn=f.fn
  ·simp [code,et,hs,topFn,topFrom,hf,hfr]
  ·simp [code,et,hs,topFn,hf])
 have hl':=hl
 rw [hs] at hl'
 obtain ⟨b,p',rfl,-,-,k2,-⟩:=hl'
 rw [hfr] at k2
 have HS:=hide hs;clear hs
 have HFR:=hide hfr;clear hfr
 clear et
 have HLI:=hide hl;clear hl
 have a0:=ta_callLeft_turned
 have a1:=ta_callLeft_callOpened
 have a2:=ta_callLeft_lineBegun
 have a3:=ta_callLeft_callLeft
 have BA:=hide (((Below.refl w.heap.size w).alloc (Nat.le_refl _) (.cells #[.int .i64 s.cur,.pointer (some ⟨b,0,none⟩),.pointer (some ⟨bw,0,none⟩)] 119)).alloc (by simp) (.cells #[.int .i64 0,.int .i64 0] 287))
 go_enter Tryz.func145,Tryz.ntmps145
 go_wp2_with fail
 refine upon_method (f:=270) (v':=.agg #[.int .i64 t,.int .i64 fn]) (by kernel_rfl) ?_
 go_wp2_with fail
 refine (site_any _ _ _).mono ?_
 rintro e w1 ⟨rfl,hb1⟩
 have hc:=old_cells hb1;have hf:=old_marks hb1
 have g0:w1.cell? ⟨w.heap.size,0,none⟩=some (.int .i64 s.cur):=by rw [hc _ _ (by simp;omega)];simp
 have g1:w1.cell? ⟨w.heap.size,1,none⟩=some (.pointer (some ⟨b,0,none⟩)):=by rw [hc _ _ (by simp;omega)];simp
 have hz:w.heap.size + 2≤w1.heap.size:=by have:=hb1.size;simp at this;omega
 have B1:=hide ((uh BA).trans (hb1.mono (uh BA).size))
 clear hc hf hb1
 have hne:w.heap.size ≠ w1.heap.size:=by omega
 have BA1:=hide ((Below.refl w1.heap.size w1).alloc (Nat.le_refl _) (.cells #[.int .i64 t,.int .i64 fn] 278))
 have g2:=cell_below (uh BA1) g0
 have g3:=cell_below (uh BA1) g1
 have BN:=hide ((uh B1).alloc (by omega) (.cells #[.int .i64 t,.int .i64 fn] 278))
 have HL:=hide (((uh HLI).below (uh B1)).below (uh BA1))
 have k2:=cell_below (uh BA1) (cell_below (uh B1) k2)
 go_wp2
 go_ret
 exact ⟨by rw [uh E];rfl,uh BN⟩
end Go.Proofs.YtmnmeaeicjhkhaaGreatDoor
namespace Go.Proofs.YtmnmeaeicjhkhaaGreatDoor
open Go.RowKit
theorem refuses_line_yes (s:St) (t fn l:Int) (top:Option Addr) (bw:Nat) (w:World) (hl:ListAt w (s.tasks s.cur) top) (ht:(t != (s.cur:Int))=false) (f:Fr) (r:List Fr) (hs:s.tasks s.cur=f :: r) (hfn:(fn != topFn (s.tasks s.cur))=false) :
  Calls Tryz.prog 145 #[.agg #[.int .i64 s.cur,.pointer top,.pointer (some ⟨bw,0,none⟩)],evOf 1 t fn l] w (Refused w s 1 t fn):=by
 have e1:evOf 1 t fn l=.iface 280 (.agg #[.int .i64 t,.int .i64 fn,.int .i64 l]):=rfl
 rw [e1];clear e1
 have et:t=s.cur:=by simpa using ht
 have E:Hid (code s 1 t fn=0):=hide (by
  have hf:fn=topFn (s.tasks s.cur):=by simpa using hfn
  rw [hs] at hf;simp [code,et,hs,hf])
 have hl':=hl
 rw [hs] at hl'
 obtain ⟨b,p',rfl,-⟩:=hl'
 have HS:=hide hs;clear hs
 clear et
 have HLI:=hide hl;clear hl
 have a0:=ta_lineBegun_turned
 have a1:=ta_lineBegun_callOpened
 have a2:=ta_lineBegun_lineBegun
 have BA:=hide (((Below.refl w.heap.size w).alloc (Nat.le_refl _) (.cells #[.int .i64 s.cur,.pointer (some ⟨b,0,none⟩),.pointer (some ⟨bw,0,none⟩)] 119)).alloc (by simp) (.cells #[.int .i64 0,.int .i64 0] 287))
 go_enter Tryz.func145,Tryz.ntmps145
 go_wp2_with fail
 refine upon_method (f:=270) (v':=.agg #[.int .i64 t,.int .i64 fn]) (by kernel_rfl) ?_
 go_wp2_with fail
 refine (site_any _ _ _).mono ?_
 rintro e w1 ⟨rfl,hb1⟩
 have hc:=old_cells hb1;have hf:=old_marks hb1
 have g0:w1.cell? ⟨w.heap.size,0,none⟩=some (.int .i64 s.cur):=by rw [hc _ _ (by simp;omega)];simp
 have g1:w1.cell? ⟨w.heap.size,1,none⟩=some (.pointer (some ⟨b,0,none⟩)):=by rw [hc _ _ (by simp;omega)];simp
 have hz:w.heap.size + 2≤w1.heap.size:=by have:=hb1.size;simp at this;omega
 have B1:=hide ((uh BA).trans (hb1.mono (uh BA).size))
 clear hc hf hb1
 have hne:w.heap.size ≠ w1.heap.size:=by omega
 have BA1:=hide ((Below.refl w1.heap.size w1).alloc (Nat.le_refl _) (.cells #[.int .i64 t,.int .i64 fn] 278))
 have g2:=cell_below (uh BA1) g0
 have g3:=cell_below (uh BA1) g1
 have BN:=hide ((uh B1).alloc (by omega) (.cells #[.int .i64 t,.int .i64 fn] 278))
 have HL:=hide (((uh HLI).below (uh B1)).below (uh BA1))
 have HF:Hid (∀ m,Calls Tryz.prog 179 #[.pointer (some ⟨b,0,none⟩)] ((w1.alloc (.cells #[.int .i64 t,.int .i64 fn] 278)).drewN m) fun e w'=>e=.returned (.int .i64 (topFn (s.tasks s.cur)))∧w'=(w1.alloc (.cells #[.int .i64 t,.int .i64 fn] 278)).drewN m) :=
  hide fun m=>ofn_any _ _ _ ((uh HL).below (below_drewN' _ m))
 go_wp2_with fail
 go_quiet ((go_at_call 179;exact Calls.quiet_of_same (uh HF _)))
 go_wp2
 go_ret
 exact ⟨by rw [uh E];rfl,below_drewN (uh BN) _⟩
theorem refuses_line_no (s:St) (t fn l:Int) (top:Option Addr) (bw:Nat) (w:World) (hl:ListAt w (s.tasks s.cur) top) (ht:(t != (s.cur:Int))=false) (f:Fr) (r:List Fr) (hs:s.tasks s.cur=f :: r) (hfn:(fn != topFn (s.tasks s.cur))=true) :
  Calls Tryz.prog 145 #[.agg #[.int .i64 s.cur,.pointer top,.pointer (some ⟨bw,0,none⟩)],evOf 1 t fn l] w (Refused w s 1 t fn):=by
 have e1:evOf 1 t fn l=.iface 280 (.agg #[.int .i64 t,.int .i64 fn,.int .i64 l]):=rfl
 rw [e1];clear e1
 have et:t=s.cur:=by simpa using ht
 have E:Hid (code s 1 t fn=4):=hide (by
  have hf:fn ≠ topFn (s.tasks s.cur):=by simpa using hfn
  simp [code,et,hs] at hf ⊢;simp [hf])
 have hl':=hl
 rw [hs] at hl'
 obtain ⟨b,p',rfl,-⟩:=hl'
 have HS:=hide hs;clear hs
 clear et
 have HLI:=hide hl;clear hl
 have a0:=ta_lineBegun_turned
 have a1:=ta_lineBegun_callOpened
 have a2:=ta_lineBegun_lineBegun
 have BA:=hide (((Below.refl w.heap.size w).alloc (Nat.le_refl _) (.cells #[.int .i64 s.cur,.pointer (some ⟨b,0,none⟩),.pointer (some ⟨bw,0,none⟩)] 119)).alloc (by simp) (.cells #[.int .i64 0,.int .i64 0] 287))
 go_enter Tryz.func145,Tryz.ntmps145
 go_wp2_with fail
 refine upon_method (f:=270) (v':=.agg #[.int .i64 t,.int .i64 fn]) (by kernel_rfl) ?_
 go_wp2_with fail
 refine (site_any _ _ _).mono ?_
 rintro e w1 ⟨rfl,hb1⟩
 have hc:=old_cells hb1;have hf:=old_marks hb1
 have g0:w1.cell? ⟨w.heap.size,0,none⟩=some (.int .i64 s.cur):=by rw [hc _ _ (by simp;omega)];simp
 have g1:w1.cell? ⟨w.heap.size,1,none⟩=some (.pointer (some ⟨b,0,none⟩)):=by rw [hc _ _ (by simp;omega)];simp
 have hz:w.heap.size + 2≤w1.heap.size:=by have:=hb1.size;simp at this;omega
 have B1:=hide ((uh BA).trans (hb1.mono (uh BA).size))
 clear hc hf hb1
 have hne:w.heap.size ≠ w1.heap.size:=by omega
 have BA1:=hide ((Below.refl w1.heap.size w1).alloc (Nat.le_refl _) (.cells #[.int .i64 t,.int .i64 fn] 278))
 have g2:=cell_below (uh BA1) g0
 have g3:=cell_below (uh BA1) g1
 have BN:=hide ((uh B1).alloc (by omega) (.cells #[.int .i64 t,.int .i64 fn] 278))
 have HL:=hide (((uh HLI).below (uh B1)).below (uh BA1))
 have HF:Hid (∀ m,Calls Tryz.prog 179 #[.pointer (some ⟨b,0,none⟩)] ((w1.alloc (.cells #[.int .i64 t,.int .i64 fn] 278)).drewN m) fun e w'=>e=.returned (.int .i64 (topFn (s.tasks s.cur)))∧w'=(w1.alloc (.cells #[.int .i64 t,.int .i64 fn] 278)).drewN m) :=
  hide fun m=>ofn_any _ _ _ ((uh HL).below (below_drewN' _ m))
 go_wp2_with fail
 go_quiet ((go_at_call 179;exact Calls.quiet_of_same (uh HF _)))
 go_wp2
 go_ret
 exact ⟨by rw [uh E];rfl,below_drewN (uh BN) _⟩
theorem refuses_back_yes (s:St) (t fn l:Int) (top:Option Addr) (bw:Nat) (w:World) (hl:ListAt w (s.tasks s.cur) top) (ht:(t != (s.cur:Int))=false) (f:Fr) (r:List Fr) (hs:s.tasks s.cur=f :: r) (hfr:0≤f.frm) (hfn:(fn != topFn (s.tasks s.cur))=false) :
  Calls Tryz.prog 145 #[.agg #[.int .i64 s.cur,.pointer top,.pointer (some ⟨bw,0,none⟩)],evOf 3 t fn l] w (Refused w s 3 t fn):=by
 have e1:evOf 3 t fn l=.iface 283 (.agg #[.int .i64 t,.int .i64 fn]):=rfl
 rw [e1];clear e1
 have et:t=s.cur:=by simpa using ht
 have E:Hid (code s 3 t fn=0):=hide (by
  have hf:fn=topFn (s.tasks s.cur):=by simpa using hfn
  have h0:¬ f.frm < 0:=by omega
  rw [hs] at hf;simp [code,et,hs,topFrom,h0,hf])
 have hl':=hl
 rw [hs] at hl'
 obtain ⟨b,p',rfl,-,-,k2,-⟩:=hl'
 have hq:(f.frm == -1)=false:=by simp;omega
 have HS:=hide hs;clear hs hfr
 clear et
 have HLI:=hide hl;clear hl
 have a0:=ta_callLeft_turned
 have a1:=ta_callLeft_callOpened
 have a2:=ta_callLeft_lineBegun
 have a3:=ta_callLeft_callLeft
 have BA:=hide (((Below.refl w.heap.size w).alloc (Nat.le_refl _) (.cells #[.int .i64 s.cur,.pointer (some ⟨b,0,none⟩),.pointer (some ⟨bw,0,none⟩)] 119)).alloc (by simp) (.cells #[.int .i64 0,.int .i64 0] 287))
 go_enter Tryz.func145,Tryz.ntmps145
 go_wp2_with fail
 refine upon_method (f:=270) (v':=.agg #[.int .i64 t,.int .i64 fn]) (by kernel_rfl) ?_
 go_wp2_with fail
 refine (site_any _ _ _).mono ?_
 rintro e w1 ⟨rfl,hb1⟩
 have hc:=old_cells hb1;have hf:=old_marks hb1
 have g0:w1.cell? ⟨w.heap.size,0,none⟩=some (.int .i64 s.cur):=by rw [hc _ _ (by simp;omega)];simp
 have g1:w1.cell? ⟨w.heap.size,1,none⟩=some (.pointer (some ⟨b,0,none⟩)):=by rw [hc _ _ (by simp;omega)];simp
 have hz:w.heap.size + 2≤w1.heap.size:=by have:=hb1.size;simp at this;omega
 have B1:=hide ((uh BA).trans (hb1.mono (uh BA).size))
 clear hc hf hb1
 have hne:w.heap.size ≠ w1.heap.size:=by omega
 have BA1:=hide ((Below.refl w1.heap.size w1).alloc (Nat.le_refl _) (.cells #[.int .i64 t,.int .i64 fn] 278))
 have g2:=cell_below (uh BA1) g0
 have g3:=cell_below (uh BA1) g1
 have BN:=hide ((uh B1).alloc (by omega) (.cells #[.int .i64 t,.int .i64 fn] 278))
 have HL:=hide (((uh HLI).below (uh B1)).below (uh BA1))
 have HF:Hid (∀ m,Calls Tryz.prog 179 #[.pointer (some ⟨b,0,none⟩)] ((w1.alloc (.cells #[.int .i64 t,.int .i64 fn] 278)).drewN m) fun e w'=>e=.returned (.int .i64 (topFn (s.tasks s.cur)))∧w'=(w1.alloc (.cells #[.int .i64 t,.int .i64 fn] 278)).drewN m) :=
  hide fun m=>ofn_any _ _ _ ((uh HL).below (below_drewN' _ m))
 have k2:=cell_below (uh BA1) (cell_below (uh B1) k2)
 go_wp2_with fail
 go_quiet ((go_at_call 179;exact Calls.quiet_of_same (uh HF _)))
 go_wp2
 go_ret
 exact ⟨by rw [uh E];rfl,below_drewN (uh BN) _⟩
theorem refuses_back_no (s:St) (t fn l:Int) (top:Option Addr) (bw:Nat) (w:World) (hl:ListAt w (s.tasks s.cur) top) (ht:(t != (s.cur:Int))=false) (f:Fr) (r:List Fr) (hs:s.tasks s.cur=f :: r) (hfr:0≤f.frm) (hfn:(fn != topFn (s.tasks s.cur))=true) :
  Calls Tryz.prog 145 #[.agg #[.int .i64 s.cur,.pointer top,.pointer (some ⟨bw,0,none⟩)],evOf 3 t fn l] w (Refused w s 3 t fn):=by
 have e1:evOf 3 t fn l=.iface 283 (.agg #[.int .i64 t,.int .i64 fn]):=rfl
 rw [e1];clear e1
 have et:t=s.cur:=by simpa using ht
 have E:Hid (code s 3 t fn=4):=hide (by
  have hf:fn ≠ topFn (s.tasks s.cur):=by simpa using hfn
  simp [code,et,hs] at hf ⊢;simp [hf])
 have hl':=hl
 rw [hs] at hl'
 obtain ⟨b,p',rfl,-,-,k2,-⟩:=hl'
 have hq:(f.frm == -1)=false:=by simp;omega
 have HS:=hide hs;clear hs hfr
 clear et
 have HLI:=hide hl;clear hl
 have a0:=ta_callLeft_turned
 have a1:=ta_callLeft_callOpened
 have a2:=ta_callLeft_lineBegun
 have a3:=ta_callLeft_callLeft
 have BA:=hide (((Below.refl w.heap.size w).alloc (Nat.le_refl _) (.cells #[.int .i64 s.cur,.pointer (some ⟨b,0,none⟩),.pointer (some ⟨bw,0,none⟩)] 119)).alloc (by simp) (.cells #[.int .i64 0,.int .i64 0] 287))
 go_enter Tryz.func145,Tryz.ntmps145
 go_wp2_with fail
 refine upon_method (f:=270) (v':=.agg #[.int .i64 t,.int .i64 fn]) (by kernel_rfl) ?_
 go_wp2_with fail
 refine (site_any _ _ _).mono ?_
 rintro e w1 ⟨rfl,hb1⟩
 have hc:=old_cells hb1;have hf:=old_marks hb1
 have g0:w1.cell? ⟨w.heap.size,0,none⟩=some (.int .i64 s.cur):=by rw [hc _ _ (by simp;omega)];simp
 have g1:w1.cell? ⟨w.heap.size,1,none⟩=some (.pointer (some ⟨b,0,none⟩)):=by rw [hc _ _ (by simp;omega)];simp
 have hz:w.heap.size + 2≤w1.heap.size:=by have:=hb1.size;simp at this;omega
 have B1:=hide ((uh BA).trans (hb1.mono (uh BA).size))
 clear hc hf hb1
 have hne:w.heap.size ≠ w1.heap.size:=by omega
 have BA1:=hide ((Below.refl w1.heap.size w1).alloc (Nat.le_refl _) (.cells #[.int .i64 t,.int .i64 fn] 278))
 have g2:=cell_below (uh BA1) g0
 have g3:=cell_below (uh BA1) g1
 have BN:=hide ((uh B1).alloc (by omega) (.cells #[.int .i64 t,.int .i64 fn] 278))
 have HL:=hide (((uh HLI).below (uh B1)).below (uh BA1))
 have HF:Hid (∀ m,Calls Tryz.prog 179 #[.pointer (some ⟨b,0,none⟩)] ((w1.alloc (.cells #[.int .i64 t,.int .i64 fn] 278)).drewN m) fun e w'=>e=.returned (.int .i64 (topFn (s.tasks s.cur)))∧w'=(w1.alloc (.cells #[.int .i64 t,.int .i64 fn] 278)).drewN m) :=
  hide fun m=>ofn_any _ _ _ ((uh HL).below (below_drewN' _ m))
 have k2:=cell_below (uh BA1) (cell_below (uh B1) k2)
 go_wp2_with fail
 go_quiet ((go_at_call 179;exact Calls.quiet_of_same (uh HF _)))
 go_wp2
 go_ret
 exact ⟨by rw [uh E];rfl,below_drewN (uh BN) _⟩
theorem refuses_other4_yes (s:St) (t fn l:Int) (top:Option Addr) (bw:Nat) (w:World) (hl:ListAt w (s.tasks s.cur) top) (ht:(t != (s.cur:Int))=false)  (hfn:(fn != topFn (s.tasks s.cur))=false) :
  Calls Tryz.prog 145 #[.agg #[.int .i64 s.cur,.pointer top,.pointer (some ⟨bw,0,none⟩)],evOf 4 t fn l] w (Refused w s 4 t fn):=by
 have e1:evOf 4 t fn l=.iface 284 (.agg #[.int .i64 t,.int .i64 fn]):=rfl
 rw [e1];clear e1
 have et:t=s.cur:=by simpa using ht
 have E:Hid (code s 4 t fn=0):=hide (by
  have hf:fn=topFn (s.tasks s.cur):=by simpa using hfn
  simp [code,et,← hf])
 clear et
 have HLI:=hide hl;clear hl
 have a0:=ta_thrown_turned
 have a1:=ta_thrown_callOpened
 have a2:=ta_thrown_lineBegun
 have a3:=ta_thrown_callLeft
 have BA:=hide (((Below.refl w.heap.size w).alloc (Nat.le_refl _) (.cells #[.int .i64 s.cur,.pointer top,.pointer (some ⟨bw,0,none⟩)] 119)).alloc (by simp) (.cells #[.int .i64 0,.int .i64 0] 287))
 go_enter Tryz.func145,Tryz.ntmps145
 go_wp2_with fail
 refine upon_method (f:=270) (v':=.agg #[.int .i64 t,.int .i64 fn]) (by kernel_rfl) ?_
 go_wp2_with fail
 refine (site_any _ _ _).mono ?_
 rintro e w1 ⟨rfl,hb1⟩
 have hc:=old_cells hb1;have hf:=old_marks hb1
 have g0:w1.cell? ⟨w.heap.size,0,none⟩=some (.int .i64 s.cur):=by rw [hc _ _ (by simp;omega)];simp
 have g1:w1.cell? ⟨w.heap.size,1,none⟩=some (.pointer top):=by rw [hc _ _ (by simp;omega)];simp
 have hz:w.heap.size + 2≤w1.heap.size:=by have:=hb1.size;simp at this;omega
 have B1:=hide ((uh BA).trans (hb1.mono (uh BA).size))
 clear hc hf hb1
 have hne:w.heap.size ≠ w1.heap.size:=by omega
 have BA1:=hide ((Below.refl w1.heap.size w1).alloc (Nat.le_refl _) (.cells #[.int .i64 t,.int .i64 fn] 278))
 have g2:=cell_below (uh BA1) g0
 have g3:=cell_below (uh BA1) g1
 have BN:=hide ((uh B1).alloc (by omega) (.cells #[.int .i64 t,.int .i64 fn] 278))
 have HL:=hide (((uh HLI).below (uh B1)).below (uh BA1))
 have HF:Hid (∀ m,Calls Tryz.prog 179 #[.pointer top] ((w1.alloc (.cells #[.int .i64 t,.int .i64 fn] 278)).drewN m) fun e w'=>e=.returned (.int .i64 (topFn (s.tasks s.cur)))∧w'=(w1.alloc (.cells #[.int .i64 t,.int .i64 fn] 278)).drewN m) :=
  hide fun m=>ofn_any _ _ _ ((uh HL).below (below_drewN' _ m))
 go_wp2_with fail
 go_quiet ((go_at_call 179;exact Calls.quiet_of_same (uh HF _)))
 go_wp2
 go_ret
 exact ⟨by rw [uh E];rfl,below_drewN (uh BN) _⟩
theorem refuses_other4_no (s:St) (t fn l:Int) (top:Option Addr) (bw:Nat) (w:World) (hl:ListAt w (s.tasks s.cur) top) (ht:(t != (s.cur:Int))=false)  (hfn:(fn != topFn (s.tasks s.cur))=true) :
  Calls Tryz.prog 145 #[.agg #[.int .i64 s.cur,.pointer top,.pointer (some ⟨bw,0,none⟩)],evOf 4 t fn l] w (Refused w s 4 t fn):=by
 have e1:evOf 4 t fn l=.iface 284 (.agg #[.int .i64 t,.int .i64 fn]):=rfl
 rw [e1];clear e1
 have et:t=s.cur:=by simpa using ht
 have E:Hid (code s 4 t fn=4):=hide (by
  have hf:fn ≠ topFn (s.tasks s.cur):=by simpa using hfn
  simp [code,et,hf])
 clear et
 have HLI:=hide hl;clear hl
 have a0:=ta_thrown_turned
 have a1:=ta_thrown_callOpened
 have a2:=ta_thrown_lineBegun
 have a3:=ta_thrown_callLeft
 have BA:=hide (((Below.refl w.heap.size w).alloc (Nat.le_refl _) (.cells #[.int .i64 s.cur,.pointer top,.pointer (some ⟨bw,0,none⟩)] 119)).alloc (by simp) (.cells #[.int .i64 0,.int .i64 0] 287))
 go_enter Tryz.func145,Tryz.ntmps145
 go_wp2_with fail
 refine upon_method (f:=270) (v':=.agg #[.int .i64 t,.int .i64 fn]) (by kernel_rfl) ?_
 go_wp2_with fail
 refine (site_any _ _ _).mono ?_
 rintro e w1 ⟨rfl,hb1⟩
 have hc:=old_cells hb1;have hf:=old_marks hb1
 have g0:w1.cell? ⟨w.heap.size,0,none⟩=some (.int .i64 s.cur):=by rw [hc _ _ (by simp;omega)];simp
 have g1:w1.cell? ⟨w.heap.size,1,none⟩=some (.pointer top):=by rw [hc _ _ (by simp;omega)];simp
 have hz:w.heap.size + 2≤w1.heap.size:=by have:=hb1.size;simp at this;omega
 have B1:=hide ((uh BA).trans (hb1.mono (uh BA).size))
 clear hc hf hb1
 have hne:w.heap.size ≠ w1.heap.size:=by omega
 have BA1:=hide ((Below.refl w1.heap.size w1).alloc (Nat.le_refl _) (.cells #[.int .i64 t,.int .i64 fn] 278))
 have g2:=cell_below (uh BA1) g0
 have g3:=cell_below (uh BA1) g1
 have BN:=hide ((uh B1).alloc (by omega) (.cells #[.int .i64 t,.int .i64 fn] 278))
 have HL:=hide (((uh HLI).below (uh B1)).below (uh BA1))
 have HF:Hid (∀ m,Calls Tryz.prog 179 #[.pointer top] ((w1.alloc (.cells #[.int .i64 t,.int .i64 fn] 278)).drewN m) fun e w'=>e=.returned (.int .i64 (topFn (s.tasks s.cur)))∧w'=(w1.alloc (.cells #[.int .i64 t,.int .i64 fn] 278)).drewN m) :=
  hide fun m=>ofn_any _ _ _ ((uh HL).below (below_drewN' _ m))
 go_wp2_with fail
 go_quiet ((go_at_call 179;exact Calls.quiet_of_same (uh HF _)))
 go_wp2
 go_ret
 exact ⟨by rw [uh E];rfl,below_drewN (uh BN) _⟩
theorem refuses_other5_yes (s:St) (t fn l:Int) (top:Option Addr) (bw:Nat) (w:World) (hl:ListAt w (s.tasks s.cur) top) (ht:(t != (s.cur:Int))=false)  (hfn:(fn != topFn (s.tasks s.cur))=false) :
  Calls Tryz.prog 145 #[.agg #[.int .i64 s.cur,.pointer top,.pointer (some ⟨bw,0,none⟩)],evOf 5 t fn l] w (Refused w s 5 t fn):=by
 have e1:evOf 5 t fn l=.iface 285 (.agg #[.int .i64 t,.int .i64 fn]):=rfl
 rw [e1];clear e1
 have et:t=s.cur:=by simpa using ht
 have E:Hid (code s 5 t fn=0):=hide (by
  have hf:fn=topFn (s.tasks s.cur):=by simpa using hfn
  simp [code,et,← hf])
 clear et
 have HLI:=hide hl;clear hl
 have a0:=ta_caught_turned
 have a1:=ta_caught_callOpened
 have a2:=ta_caught_lineBegun
 have a3:=ta_caught_callLeft
 have BA:=hide (((Below.refl w.heap.size w).alloc (Nat.le_refl _) (.cells #[.int .i64 s.cur,.pointer top,.pointer (some ⟨bw,0,none⟩)] 119)).alloc (by simp) (.cells #[.int .i64 0,.int .i64 0] 287))
 go_enter Tryz.func145,Tryz.ntmps145
 go_wp2_with fail
 refine upon_method (f:=270) (v':=.agg #[.int .i64 t,.int .i64 fn]) (by kernel_rfl) ?_
 go_wp2_with fail
 refine (site_any _ _ _).mono ?_
 rintro e w1 ⟨rfl,hb1⟩
 have hc:=old_cells hb1;have hf:=old_marks hb1
 have g0:w1.cell? ⟨w.heap.size,0,none⟩=some (.int .i64 s.cur):=by rw [hc _ _ (by simp;omega)];simp
 have g1:w1.cell? ⟨w.heap.size,1,none⟩=some (.pointer top):=by rw [hc _ _ (by simp;omega)];simp
 have hz:w.heap.size + 2≤w1.heap.size:=by have:=hb1.size;simp at this;omega
 have B1:=hide ((uh BA).trans (hb1.mono (uh BA).size))
 clear hc hf hb1
 have hne:w.heap.size ≠ w1.heap.size:=by omega
 have BA1:=hide ((Below.refl w1.heap.size w1).alloc (Nat.le_refl _) (.cells #[.int .i64 t,.int .i64 fn] 278))
 have g2:=cell_below (uh BA1) g0
 have g3:=cell_below (uh BA1) g1
 have BN:=hide ((uh B1).alloc (by omega) (.cells #[.int .i64 t,.int .i64 fn] 278))
 have HL:=hide (((uh HLI).below (uh B1)).below (uh BA1))
 have HF:Hid (∀ m,Calls Tryz.prog 179 #[.pointer top] ((w1.alloc (.cells #[.int .i64 t,.int .i64 fn] 278)).drewN m) fun e w'=>e=.returned (.int .i64 (topFn (s.tasks s.cur)))∧w'=(w1.alloc (.cells #[.int .i64 t,.int .i64 fn] 278)).drewN m) :=
  hide fun m=>ofn_any _ _ _ ((uh HL).below (below_drewN' _ m))
 go_wp2_with fail
 go_quiet ((go_at_call 179;exact Calls.quiet_of_same (uh HF _)))
 go_wp2
 go_ret
 exact ⟨by rw [uh E];rfl,below_drewN (uh BN) _⟩
theorem refuses_other5_no (s:St) (t fn l:Int) (top:Option Addr) (bw:Nat) (w:World) (hl:ListAt w (s.tasks s.cur) top) (ht:(t != (s.cur:Int))=false)  (hfn:(fn != topFn (s.tasks s.cur))=true) :
  Calls Tryz.prog 145 #[.agg #[.int .i64 s.cur,.pointer top,.pointer (some ⟨bw,0,none⟩)],evOf 5 t fn l] w (Refused w s 5 t fn):=by
 have e1:evOf 5 t fn l=.iface 285 (.agg #[.int .i64 t,.int .i64 fn]):=rfl
 rw [e1];clear e1
 have et:t=s.cur:=by simpa using ht
 have E:Hid (code s 5 t fn=4):=hide (by
  have hf:fn ≠ topFn (s.tasks s.cur):=by simpa using hfn
  simp [code,et,hf])
 clear et
 have HLI:=hide hl;clear hl
 have a0:=ta_caught_turned
 have a1:=ta_caught_callOpened
 have a2:=ta_caught_lineBegun
 have a3:=ta_caught_callLeft
 have BA:=hide (((Below.refl w.heap.size w).alloc (Nat.le_refl _) (.cells #[.int .i64 s.cur,.pointer top,.pointer (some ⟨bw,0,none⟩)] 119)).alloc (by simp) (.cells #[.int .i64 0,.int .i64 0] 287))
 go_enter Tryz.func145,Tryz.ntmps145
 go_wp2_with fail
 refine upon_method (f:=270) (v':=.agg #[.int .i64 t,.int .i64 fn]) (by kernel_rfl) ?_
 go_wp2_with fail
 refine (site_any _ _ _).mono ?_
 rintro e w1 ⟨rfl,hb1⟩
 have hc:=old_cells hb1;have hf:=old_marks hb1
 have g0:w1.cell? ⟨w.heap.size,0,none⟩=some (.int .i64 s.cur):=by rw [hc _ _ (by simp;omega)];simp
 have g1:w1.cell? ⟨w.heap.size,1,none⟩=some (.pointer top):=by rw [hc _ _ (by simp;omega)];simp
 have hz:w.heap.size + 2≤w1.heap.size:=by have:=hb1.size;simp at this;omega
 have B1:=hide ((uh BA).trans (hb1.mono (uh BA).size))
 clear hc hf hb1
 have hne:w.heap.size ≠ w1.heap.size:=by omega
 have BA1:=hide ((Below.refl w1.heap.size w1).alloc (Nat.le_refl _) (.cells #[.int .i64 t,.int .i64 fn] 278))
 have g2:=cell_below (uh BA1) g0
 have g3:=cell_below (uh BA1) g1
 have BN:=hide ((uh B1).alloc (by omega) (.cells #[.int .i64 t,.int .i64 fn] 278))
 have HL:=hide (((uh HLI).below (uh B1)).below (uh BA1))
 have HF:Hid (∀ m,Calls Tryz.prog 179 #[.pointer top] ((w1.alloc (.cells #[.int .i64 t,.int .i64 fn] 278)).drewN m) fun e w'=>e=.returned (.int .i64 (topFn (s.tasks s.cur)))∧w'=(w1.alloc (.cells #[.int .i64 t,.int .i64 fn] 278)).drewN m) :=
  hide fun m=>ofn_any _ _ _ ((uh HL).below (below_drewN' _ m))
 go_wp2_with fail
 go_quiet ((go_at_call 179;exact Calls.quiet_of_same (uh HF _)))
 go_wp2
 go_ret
 exact ⟨by rw [uh E];rfl,below_drewN (uh BN) _⟩
theorem refuses_other6_yes (s:St) (t fn l:Int) (top:Option Addr) (bw:Nat) (w:World) (hl:ListAt w (s.tasks s.cur) top) (ht:(t != (s.cur:Int))=false)  (hfn:(fn != topFn (s.tasks s.cur))=false) :
  Calls Tryz.prog 145 #[.agg #[.int .i64 s.cur,.pointer top,.pointer (some ⟨bw,0,none⟩)],evOf 6 t fn l] w (Refused w s 6 t fn):=by
 have e1:evOf 6 t fn l=.iface 286 (.agg #[.int .i64 t,.int .i64 fn]):=rfl
 rw [e1];clear e1
 have et:t=s.cur:=by simpa using ht
 have E:Hid (code s 6 t fn=0):=hide (by
  have hf:fn=topFn (s.tasks s.cur):=by simpa using hfn
  simp [code,et,← hf])
 clear et
 have HLI:=hide hl;clear hl
 have a0:=ta_printed_turned
 have a1:=ta_printed_callOpened
 have a2:=ta_printed_lineBegun
 have a3:=ta_printed_callLeft
 have BA:=hide (((Below.refl w.heap.size w).alloc (Nat.le_refl _) (.cells #[.int .i64 s.cur,.pointer top,.pointer (some ⟨bw,0,none⟩)] 119)).alloc (by simp) (.cells #[.int .i64 0,.int .i64 0] 287))
 go_enter Tryz.func145,Tryz.ntmps145
 go_wp2_with fail
 refine upon_method (f:=270) (v':=.agg #[.int .i64 t,.int .i64 fn]) (by kernel_rfl) ?_
 go_wp2_with fail
 refine (site_any _ _ _).mono ?_
 rintro e w1 ⟨rfl,hb1⟩
 have hc:=old_cells hb1;have hf:=old_marks hb1
 have g0:w1.cell? ⟨w.heap.size,0,none⟩=some (.int .i64 s.cur):=by rw [hc _ _ (by simp;omega)];simp
 have g1:w1.cell? ⟨w.heap.size,1,none⟩=some (.pointer top):=by rw [hc _ _ (by simp;omega)];simp
 have hz:w.heap.size + 2≤w1.heap.size:=by have:=hb1.size;simp at this;omega
 have B1:=hide ((uh BA).trans (hb1.mono (uh BA).size))
 clear hc hf hb1
 have hne:w.heap.size ≠ w1.heap.size:=by omega
 have BA1:=hide ((Below.refl w1.heap.size w1).alloc (Nat.le_refl _) (.cells #[.int .i64 t,.int .i64 fn] 278))
 have g2:=cell_below (uh BA1) g0
 have g3:=cell_below (uh BA1) g1
 have BN:=hide ((uh B1).alloc (by omega) (.cells #[.int .i64 t,.int .i64 fn] 278))
 have HL:=hide (((uh HLI).below (uh B1)).below (uh BA1))
 have HF:Hid (∀ m,Calls Tryz.prog 179 #[.pointer top] ((w1.alloc (.cells #[.int .i64 t,.int .i64 fn] 278)).drewN m) fun e w'=>e=.returned (.int .i64 (topFn (s.tasks s.cur)))∧w'=(w1.alloc (.cells #[.int .i64 t,.int .i64 fn] 278)).drewN m) :=
  hide fun m=>ofn_any _ _ _ ((uh HL).below (below_drewN' _ m))
 go_wp2_with fail
 go_quiet ((go_at_call 179;exact Calls.quiet_of_same (uh HF _)))
 go_wp2
 go_ret
 exact ⟨by rw [uh E];rfl,below_drewN (uh BN) _⟩
theorem refuses_other6_no (s:St) (t fn l:Int) (top:Option Addr) (bw:Nat) (w:World) (hl:ListAt w (s.tasks s.cur) top) (ht:(t != (s.cur:Int))=false)  (hfn:(fn != topFn (s.tasks s.cur))=true) :
  Calls Tryz.prog 145 #[.agg #[.int .i64 s.cur,.pointer top,.pointer (some ⟨bw,0,none⟩)],evOf 6 t fn l] w (Refused w s 6 t fn):=by
 have e1:evOf 6 t fn l=.iface 286 (.agg #[.int .i64 t,.int .i64 fn]):=rfl
 rw [e1];clear e1
 have et:t=s.cur:=by simpa using ht
 have E:Hid (code s 6 t fn=4):=hide (by
  have hf:fn ≠ topFn (s.tasks s.cur):=by simpa using hfn
  simp [code,et,hf])
 clear et
 have HLI:=hide hl;clear hl
 have a0:=ta_printed_turned
 have a1:=ta_printed_callOpened
 have a2:=ta_printed_lineBegun
 have a3:=ta_printed_callLeft
 have BA:=hide (((Below.refl w.heap.size w).alloc (Nat.le_refl _) (.cells #[.int .i64 s.cur,.pointer top,.pointer (some ⟨bw,0,none⟩)] 119)).alloc (by simp) (.cells #[.int .i64 0,.int .i64 0] 287))
 go_enter Tryz.func145,Tryz.ntmps145
 go_wp2_with fail
 refine upon_method (f:=270) (v':=.agg #[.int .i64 t,.int .i64 fn]) (by kernel_rfl) ?_
 go_wp2_with fail
 refine (site_any _ _ _).mono ?_
 rintro e w1 ⟨rfl,hb1⟩
 have hc:=old_cells hb1;have hf:=old_marks hb1
 have g0:w1.cell? ⟨w.heap.size,0,none⟩=some (.int .i64 s.cur):=by rw [hc _ _ (by simp;omega)];simp
 have g1:w1.cell? ⟨w.heap.size,1,none⟩=some (.pointer top):=by rw [hc _ _ (by simp;omega)];simp
 have hz:w.heap.size + 2≤w1.heap.size:=by have:=hb1.size;simp at this;omega
 have B1:=hide ((uh BA).trans (hb1.mono (uh BA).size))
 clear hc hf hb1
 have hne:w.heap.size ≠ w1.heap.size:=by omega
 have BA1:=hide ((Below.refl w1.heap.size w1).alloc (Nat.le_refl _) (.cells #[.int .i64 t,.int .i64 fn] 278))
 have g2:=cell_below (uh BA1) g0
 have g3:=cell_below (uh BA1) g1
 have BN:=hide ((uh B1).alloc (by omega) (.cells #[.int .i64 t,.int .i64 fn] 278))
 have HL:=hide (((uh HLI).below (uh B1)).below (uh BA1))
 have HF:Hid (∀ m,Calls Tryz.prog 179 #[.pointer top] ((w1.alloc (.cells #[.int .i64 t,.int .i64 fn] 278)).drewN m) fun e w'=>e=.returned (.int .i64 (topFn (s.tasks s.cur)))∧w'=(w1.alloc (.cells #[.int .i64 t,.int .i64 fn] 278)).drewN m) :=
  hide fun m=>ofn_any _ _ _ ((uh HL).below (below_drewN' _ m))
 go_wp2_with fail
 go_quiet ((go_at_call 179;exact Calls.quiet_of_same (uh HF _)))
 go_wp2
 go_ret
 exact ⟨by rw [uh E];rfl,below_drewN (uh BN) _⟩
end Go.Proofs.YtmnmeaeicjhkhaaGreatDoor
