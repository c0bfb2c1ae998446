import Derived.Test.YtmnmeaeicjhkhaaGreatDoorGAz
import Derived.Deep.RegionHeld3
import Derived.Deep.QuietTactic
import Derived.BigQuiet
import Derived.WalkSmall
set_option maxHeartbeats 16000000
namespace Go.Proofs.YtmnmeaeicjhkhaaGreatDoor
open Go.RowKit
theorem eqVar_any (nm tx:ByteArray) (w:World) :
  Calls Tryz.prog 178 #[.agg #[.string nm,.string tx],.agg #[.string nm,.string tx]] w fun e w'=>e=.returned (.bool true)∧Below w.heap.size w w':=by
 go_enter Tryz.func178,Tryz.ntmps178
 go_wp2
 go_ret
 exact ⟨rfl,((Below.refl _ _).alloc (Nat.le_refl _) _).alloc (by simp) _⟩
theorem eqStringS_any (lo lo':Nat) (v v':Value) (n:Nat) (f:Nat→ByteArray) (w:World) (hv:StrsAt lo w v n f) (hv':StrsAt lo' w v' n f) :
  Calls Tryz.prog 73 #[v,v'] w fun e w'=>e=.returned (.bool true)∧Below w.heap.size w w':=by
 have HV:=hide hv
 have HV':=hide hv'
 obtain ⟨a,cap,rfl,hn,_⟩:=hv
 obtain ⟨a',cap',rfl,_,_⟩:=hv'
 unfold maxLen at hn
 go_enter Tryz.func73,Tryz.ntmps73
 go_wp2
 go_loopw [5] (fun i w'=>∃ (k:Nat),k≤n∧i=.int .i64 k∧Below w.heap.size w w') (fun i _=>n - (intOf i).toNat)
 case atStart=>exact ⟨0,by omega,rfl,Below.refl _ _⟩
 case round =>
  obtain ⟨k,hk,rfl,hb⟩:=hrel
  by_cases hlt:k < n
  ·obtain ⟨_,_,e,_,h1⟩:=(uh HV).below hb
   cases e
   obtain ⟨b,o,rfl,hc1,_⟩:=h1 k hlt
   obtain ⟨_,_,e,_,h2⟩:=(uh HV').below hb
   cases e
   obtain ⟨b',o',rfl,hc2,_⟩:=h2 k hlt
   clear h1 h2
   have hi1:(0:Int)≤(k:Int):=by omega
   have hi2:(k:Int) < (n:Int):=by omega
   go_wp2
   go_quiet (fail)
   go_wp2
   go_roundw
   case rel=>exact ⟨k + 1,by omega,by go_num,below_drewN hb _⟩
   case measure=>simp [intOf];omega
  ·go_wp2
   go_ret
   exact ⟨rfl,hb⟩
theorem eqVarS_any (lo lo':Nat) (v v':Value) (n:Nat) (f:Nat→V) (w:World) (hv:VarsAt lo w v n f) (hv':VarsAt lo' w v' n f) :
  Calls Tryz.prog 133 #[v,v'] w fun e w'=>e=.returned (.bool true)∧Below w.heap.size w w':=by
 have HV:=hide hv
 have HV':=hide hv'
 obtain ⟨a,cap,rfl,hn,_⟩:=hv
 obtain ⟨a',cap',rfl,_,_⟩:=hv'
 unfold maxLen at hn
 go_enter Tryz.func133,Tryz.ntmps133
 go_wp2
 go_loopw [5] (fun i w'=>∃ (k:Nat),k≤n∧i=.int .i64 k∧Below w.heap.size w w') (fun i _=>n - (intOf i).toNat)
 case atStart=>exact ⟨0,by omega,rfl,Below.refl _ _⟩
 case round =>
  obtain ⟨k,hk,rfl,hb⟩:=hrel
  by_cases hlt:k < n
  ·obtain ⟨_,_,e,_,h1⟩:=(uh HV).below hb
   cases e
   obtain ⟨b,o,rfl,hc1,hc2,_⟩:=h1 k hlt
   obtain ⟨_,_,e,_,h2⟩:=(uh HV').below hb
   cases e
   obtain ⟨b',o',rfl,hc3,hc4,_⟩:=h2 k hlt
   clear h1 h2
   have hi1:(0:Int)≤(k:Int):=by omega
   have hi2:(k:Int) < (n:Int):=by omega
   go_wp2
   go_region_held3 (fun w'=>w'.cell? ⟨b,o + k * 2,none⟩=some (.string (f k).name)∧w'.cell? ⟨b,o + k * 2 + 1,none⟩=some (.string (f k).text)∧w'.cell? ⟨b',o' + k * 2,none⟩=some (.string (f k).name)∧w'.cell? ⟨b',o' + k * 2 + 1,none⟩=some (.string (f k).text)) (first | go_keep | (refine ⟨cell_below hb1 ?_,cell_below hb1 ?_,cell_below hb1 ?_,cell_below hb1 ?_⟩<;>simp [*]))
    ((go_at_call 178;refine (eqVar_any _ _ _).mono ?_;rintro e w1 ⟨rfl,hb1⟩))
   go_wp2
   go_roundw
   case rel=>exact ⟨k + 1,by omega,by go_num,hb.drew.trans (hb1.mono (by simpa using hb.size))⟩
   case measure=>simp [intOf];omega
  ·go_wp2
   go_ret
   exact ⟨rfl,hb⟩
theorem eqMoment_any (lo lo':Nat) (k t fn l:Int) (tx:ByteArray) (v v':Value) (n:Nat) (f:Nat→V) (w:World) (hv:VarsAt lo w v n f) (hv':VarsAt lo' w v' n f) :
  Calls Tryz.prog 134 #[.agg #[.int .i64 k,.int .i64 t,.int .i64 fn,.int .i64 l,.string tx,v],.agg #[.int .i64 k,.int .i64 t,.int .i64 fn,.int .i64 l,.string tx,v']] w fun e w'=>e=.returned (.bool true)∧Below w.heap.size w w':=by
 have HV:=hide hv;clear hv
 have HV':=hide hv';clear hv'
 go_enter Tryz.func134,Tryz.ntmps134
 go_wp2_with fail
 refine (eqVarS_any lo lo' _ _ n f _ ((uh HV).below (by exact ((Below.refl _ _).alloc (Nat.le_refl _) _).alloc (by simp) _)) ((uh HV').below (by exact ((Below.refl _ _).alloc (Nat.le_refl _) _).alloc (by simp) _))).mono ?_
 rintro e w1 ⟨rfl,hb1⟩
 have HB:=hide hb1;clear hb1
 go_wp2
 go_ret
 exact ⟨rfl,Below.trans (by exact ((Below.refl _ _).alloc (Nat.le_refl _) _).alloc (by simp) _) ((uh HB).mono (by simp;omega))⟩
theorem eqMomentS_any (lo lo':Nat) (v v':Value) (n:Nat) (f:Nat→M) (w:World) (hv:MomsAt lo w v n f) (hv':MomsAt lo' w v' n f) :
  Calls Tryz.prog 74 #[v,v'] w fun e w'=>e=.returned (.bool true)∧Below w.heap.size w w':=by
 have HV:=hide hv
 have HV':=hide hv'
 obtain ⟨a,cap,rfl,hn,_⟩:=hv
 obtain ⟨a',cap',rfl,_,_⟩:=hv'
 unfold maxLen at hn
 go_enter Tryz.func74,Tryz.ntmps74
 go_wp2
 go_loopw [5] (fun i w'=>∃ (k:Nat),k≤n∧i=.int .i64 k∧Below w.heap.size w w') (fun i _=>n - (intOf i).toNat)
 case atStart=>exact ⟨0,by omega,rfl,Below.refl _ _⟩
 case round =>
  obtain ⟨k,hk,rfl,hb⟩:=hrel
  by_cases hlt:k < n
  ·obtain ⟨_,_,e,_,h1⟩:=(uh HV).below hb
   cases e
   obtain ⟨b,o,vv,rfl,hc0,hc1,hc2,hc3,hc4,hc5,_,hvv,_⟩:=h1 k hlt
   obtain ⟨_,_,e,_,h2⟩:=(uh HV').below hb
   cases e
   obtain ⟨b',o',vv',rfl,hd0,hd1,hd2,hd3,hd4,hd5,_,hvv',_⟩:=h2 k hlt
   clear h1 h2
   have HS:=hide hvv;clear hvv
   have HS':=hide hvv';clear hvv'
   have hi1:(0:Int)≤(k:Int):=by omega
   have hi2:(k:Int) < (n:Int):=by omega
   go_wp2
   go_region_held3 (fun w'=>(w'.cell? ⟨b,o + k * 6,none⟩=some (.int .i64 (f k).kind)∧w'.cell? ⟨b,o + k * 6 + 1,none⟩=some (.int .i64 (f k).task)∧w'.cell? ⟨b,o + k * 6 + 2,none⟩=some (.int .i64 (f k).fn)∧w'.cell? ⟨b,o + k * 6 + 3,none⟩=some (.int .i64 (f k).line)∧w'.cell? ⟨b,o + k * 6 + 4,none⟩=some (.string (f k).text)∧w'.cell? ⟨b,o + k * 6 + 5,none⟩=some vv) ∧
     w'.cell? ⟨b',o' + k * 6,none⟩=some (.int .i64 (f k).kind)∧w'.cell? ⟨b',o' + k * 6 + 1,none⟩=some (.int .i64 (f k).task)∧w'.cell? ⟨b',o' + k * 6 + 2,none⟩=some (.int .i64 (f k).fn)∧w'.cell? ⟨b',o' + k * 6 + 3,none⟩=some (.int .i64 (f k).line)∧w'.cell? ⟨b',o' + k * 6 + 4,none⟩=some (.string (f k).text)∧w'.cell? ⟨b',o' + k * 6 + 5,none⟩=some vv')
    (first | go_keep | (refine ⟨⟨cell_below hb1 ?_,cell_below hb1 ?_,cell_below hb1 ?_,cell_below hb1 ?_,cell_below hb1 ?_,cell_below hb1 ?_⟩,cell_below hb1 ?_,cell_below hb1 ?_,cell_below hb1 ?_,cell_below hb1 ?_,cell_below hb1 ?_,cell_below hb1 ?_⟩<;>simp [*]))
    ((go_at_call 134;refine (eqMoment_any lo lo' _ _ _ _ _ _ _ _ _ _ (by exact uh HS) (by exact uh HS')).mono ?_;rintro e w1 ⟨rfl,hb1⟩))
   go_wp2
   go_roundw
   case rel=>exact ⟨k + 1,by omega,by go_num,hb.drew.trans (hb1.mono (by simpa using hb.size))⟩
   case measure=>simp [intOf];omega
  ·go_wp2
   go_ret
   exact ⟨rfl,hb⟩
theorem eqTrace_any (lo lo':Nat) (v1 v2 v1' v2':Value) (nf:Nat) (fns:Nat→ByteArray) (n:Nat) (f:Nat→M) (w:World) (h1:StrsAt lo w v1 nf fns) (h2:MomsAt lo w v2 n f) (h1':StrsAt lo' w v1' nf fns) (h2':MomsAt lo' w v2' n f) :
  Calls Tryz.prog 28 #[.agg #[v1,v2],.agg #[v1',v2']] w fun e w'=>e=.returned (.bool true)∧Below w.heap.size w w':=by
 have H1:=hide h1;clear h1
 have H2:=hide h2;clear h2
 have H1':=hide h1';clear h1'
 have H2':=hide h2';clear h2'
 have B0:=hide (((Below.refl w.heap.size w).alloc (Nat.le_refl _) (.cells #[v1,v2] 26)).alloc (by simp) (.cells #[v1',v2'] 26))
 go_enter Tryz.func28,Tryz.ntmps28
 go_wp2_with fail
 refine (eqStringS_any lo lo' _ _ nf fns _ ((uh H1).below (uh B0)) ((uh H1').below (uh B0))).mono ?_
 rintro e w1 ⟨rfl,hb1⟩
 have hc:=old_cells hb1;have hf:=old_marks hb1
 have B1:=hide ((uh B0).trans (hb1.mono (uh B0).size));clear hb1
 go_wp2_with fail
 refine (eqMomentS_any lo lo' _ _ n f _ ((uh H2).below (uh B1)) ((uh H2').below (uh B1))).mono ?_
 rintro e w2 ⟨rfl,hb2⟩
 have B2:=hide ((uh B1).trans (hb2.mono (uh B1).size));clear hb2
 go_wp2
 go_ret
 exact ⟨rfl,uh B2⟩
end Go.Proofs.YtmnmeaeicjhkhaaGreatDoor
