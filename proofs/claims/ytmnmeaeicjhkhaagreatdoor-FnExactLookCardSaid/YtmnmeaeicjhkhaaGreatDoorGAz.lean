import Derived.Test.YtmnmeaeicjhkhaaGreatDoorProg
import Derived.Test.YtmnmeaeicjhkhaaGreatDoorGBz
import Derived.WalkLawsBesides
set_option maxHeartbeats 16000000
namespace Go.Proofs.YtmnmeaeicjhkhaaGreatDoor
open Go.RowKit
theorem szVar_any (nm tx:ByteArray) (left:Int) (w:World) (h1:nm.size≤maxLen) (h2:tx.size≤maxLen) (hl:0≤left) (hl2:left≤1048576) :
  Calls Tryz.prog 217 #[.agg #[.string nm,.string tx],.int .i64 left] w fun e w'=>(∃ r:Int,e=.returned (.int .i64 r)∧r≤left)∧Below w.heap.size w w':=by
 unfold maxLen at h1 h2
 go_enter Tryz.func217,Tryz.ntmps217
 go_wp2
 all_goals
  go_ret
  exact ⟨⟨_,rfl,by omega⟩,(Below.refl _ _).alloc (Nat.le_refl _) _⟩
theorem szStringS_any (lo:Nat) (v:Value) (n:Nat) (f:Nat→ByteArray) (left:Int) (w:World) (hv:StrsAt lo w v n f) (hl:0≤left) (hl2:left≤1048576) :
  Calls Tryz.prog 66 #[v,.int .i64 left] w fun e w'=>(∃ r:Int,e=.returned (.int .i64 r)∧r≤left∧(0≤r→(n:Int)≤1048576))∧w'=w:=by
 obtain ⟨a,cap,rfl,hn,hv⟩:=hv
 unfold maxLen at hn hv
 have HV:=hide hv;clear hv
 go_enter Tryz.func66,Tryz.ntmps66
 by_cases h0:left - n < 0
 ·go_wp2
  go_ret
  exact ⟨⟨_,rfl,by omega,by omega⟩,rfl⟩
 ·go_wp2
  go_loop [1,5] (fun l i=>∃ (k:Nat) (r:Int),k≤n∧i=.int .i64 k∧l=.int .i64 r∧0≤r∧r≤left - n) (fun _ i=>n - (intOf i).toNat)
  case atStart=>exact ⟨0,_,by omega,rfl,rfl,by omega,by omega⟩
  case round =>
   obtain ⟨k,r,hk,rfl,rfl,hr1,hr2⟩:=hrel
   by_cases hlt:k < n
   ·obtain ⟨b,o,rfl,hc,hs,_⟩:=uh HV k hlt
    go_wp2
    ·go_ret
     exact ⟨⟨_,rfl,by omega,by omega⟩,rfl⟩
    ·go_round
     case rel=>exact ⟨k + 1,_,by omega,by go_num,rfl,by omega,by omega⟩
     case measure=>simp [intOf];omega
   ·go_wp2
    go_ret
    exact ⟨⟨_,rfl,by omega,by omega⟩,rfl⟩
end Go.Proofs.YtmnmeaeicjhkhaaGreatDoor
namespace Go.Proofs.YtmnmeaeicjhkhaaGreatDoor
open Go.RowKit
theorem szVarS_any (lo:Nat) (v:Value) (n:Nat) (f:Nat→V) (left:Int) (w:World) (hv:VarsAt lo w v n f) (hl:0≤left) (hl2:left≤1048576) :
  Calls Tryz.prog 175 #[v,.int .i64 left] w fun e w'=>(∃ r:Int,e=.returned (.int .i64 r)∧r≤left∧(0≤r→(n:Int)≤1048576))∧Below w.heap.size w w':=by
 have HV:=hide hv
 obtain ⟨a,cap,rfl,hn,_⟩:=hv
 unfold maxLen at hn
 go_enter Tryz.func175,Tryz.ntmps175
 by_cases h0:left - n < 0
 ·go_wp2
  go_ret
  exact ⟨⟨_,rfl,by omega,by omega⟩,Below.refl _ _⟩
 ·go_wp2
  go_loopw [1,5] (fun l i w'=>∃ (k:Nat) (r:Int),k≤n∧i=.int .i64 k∧l=.int .i64 r∧0≤r∧r≤left - n∧Below w.heap.size w w') (fun _ i _=>n - (intOf i).toNat)
  case atStart=>exact ⟨0,_,by omega,rfl,rfl,by omega,by omega,Below.refl _ _⟩
  case round =>
   obtain ⟨k,r,hk,rfl,rfl,hr1,hr2,hb⟩:=hrel
   by_cases hlt:k < n
   ·obtain ⟨a',cap',e,_,hv⟩:=(uh HV).below hb
    cases e
    obtain ⟨b,o,rfl,hc1,hc2,hs1,hs2,_⟩:=hv k hlt
    clear hv
    go_wp2_with (go_at_call 217;refine (szVar_any _ _ _ _ hs1 hs2 hr1 (by omega)).mono ?_;rintro e w1 ⟨⟨r1,rfl,hr3⟩,hb1⟩)
    ·go_ret
     exact ⟨⟨_,rfl,by omega,by omega⟩,hb.trans (hb1.mono hb.size)⟩
    ·go_roundw
     case rel=>exact ⟨k + 1,_,by omega,by go_num,rfl,by omega,by omega,hb.trans (hb1.mono hb.size)⟩
     case measure=>simp [intOf];omega
   ·go_wp2
    go_ret
    exact ⟨⟨_,rfl,by omega,by omega⟩,hb⟩
theorem szMoment_any (lo:Nat) (k t fn l:Int) (tx:ByteArray) (v:Value) (n:Nat) (f:Nat→V) (left:Int) (w:World) (ht:tx.size≤maxLen) (hv:VarsAt lo w v n f) (hl:0≤left) (hl2:left≤1048576) :
  Calls Tryz.prog 128 #[.agg #[.int .i64 k,.int .i64 t,.int .i64 fn,.int .i64 l,.string tx,v],.int .i64 left] w fun e w'=>(∃ r:Int,e=.returned (.int .i64 r)∧r≤left∧(0≤r→(n:Int)≤1048576))∧Below w.heap.size w w':=by
 unfold maxLen at ht
 have HV:=hide hv;clear hv
 go_enter Tryz.func128,Tryz.ntmps128
 go_wp2_with (go_at_call 175;refine (szVarS_any lo _ n f _ _ ((uh HV).below ((Below.refl _ _).alloc (Nat.le_refl _) _)) (by omega) (by omega)).mono ?_;rintro e w1 ⟨⟨r1,rfl,hr3,hr4⟩,hb1⟩)
 ·go_ret
  exact ⟨⟨_,rfl,by omega,by omega⟩,(Below.refl _ _).alloc (Nat.le_refl _) _⟩
 ·go_ret
  exact ⟨⟨_,rfl,by omega,by omega⟩,((Below.refl _ _).alloc (Nat.le_refl _) _).trans (hb1.mono (by simp))⟩
 ·go_ret
  exact ⟨⟨_,rfl,by omega,by omega⟩,((Below.refl _ _).alloc (Nat.le_refl _) _).trans (hb1.mono (by simp))⟩
theorem szMomentS_any (lo:Nat) (v:Value) (n:Nat) (f:Nat→M) (left:Int) (w:World) (hv:MomsAt lo w v n f) (hl:0≤left) (hl2:left≤1048576) :
  Calls Tryz.prog 67 #[v,.int .i64 left] w fun e w'=>(∃ r:Int,e=.returned (.int .i64 r)∧r≤left∧(0≤r→(n:Int)≤1048576∧∀ i,i < n→(f i).nv≤1048576))∧Below w.heap.size w w':=by
 have HV:=hide hv
 obtain ⟨a,cap,rfl,hn,_⟩:=hv
 unfold maxLen at hn
 go_enter Tryz.func67,Tryz.ntmps67
 by_cases h0:left - n < 0
 ·go_wp2
  go_ret
  exact ⟨⟨_,rfl,by omega,by omega⟩,Below.refl _ _⟩
 ·go_wp2
  go_loopw [1,5] (fun l i w'=>∃ (k:Nat) (r:Int),k≤n∧i=.int .i64 k∧l=.int .i64 r∧0≤r∧r≤left - n∧(∀ i,i < k→(f i).nv≤1048576)∧Below w.heap.size w w') (fun _ i _=>n - (intOf i).toNat)
  case atStart=>exact ⟨0,_,by omega,rfl,rfl,by omega,by omega,by omega,Below.refl _ _⟩
  case round =>
   obtain ⟨k,r,hk,rfl,rfl,hr1,hr2,hq,hb⟩:=hrel
   have HQ:=hide hq;clear hq
   by_cases hlt:k < n
   ·obtain ⟨a',cap',e,_,hv⟩:=(uh HV).below hb
    cases e
    obtain ⟨b,o,vv,rfl,hc0,hc1,hc2,hc3,hc4,hc5,hs1,hs2,_⟩:=hv k hlt
    clear hv
    have HS:=hide hs2;clear hs2
    go_wp2_with (go_at_call 128;refine (szMoment_any lo _ _ _ _ _ _ _ _ _ _ hs1 (uh HS) hr1 (by omega)).mono ?_;rintro e w1 ⟨⟨r1,rfl,hr3,hr4⟩,hb1⟩)
    ·go_ret
     exact ⟨⟨_,rfl,by omega,by omega⟩,hb.trans (hb1.mono hb.size)⟩
    ·go_roundw
     case rel =>
      refine ⟨k + 1,_,by omega,by go_num,rfl,by omega,by omega,fun i hi=>?_,hb.trans (hb1.mono hb.size)⟩
      by_cases hik:i < k
      ·exact uh HQ i hik
      ·have e:i=k:=by omega
       rw [e];omega
     case measure=>simp [intOf];omega
   ·go_wp2
    go_ret
    exact ⟨⟨_,rfl,by omega,fun _=>⟨by omega,fun i hi=>uh HQ i (by omega)⟩⟩,hb⟩
theorem szTrace_any (lo:Nat) (v1 v2:Value) (nf:Nat) (fns:Nat→ByteArray) (n:Nat) (f:Nat→M) (left:Int) (w:World) (h1:StrsAt lo w v1 nf fns) (h2:MomsAt lo w v2 n f) (hl:0≤left) (hl2:left≤1048576) :
  Calls Tryz.prog 23 #[.agg #[v1,v2],.int .i64 left] w fun e w'=>(∃ r:Int,e=.returned (.int .i64 r)∧r≤left∧(0≤r→(nf:Int)≤1048576∧(n:Int)≤1048576∧∀ i,i < n→(f i).nv≤1048576))∧Below w.heap.size w w':=by
 have H1:=hide h1;clear h1
 have H2:=hide h2;clear h2
 have B1:=(Below.refl w.heap.size w).alloc (Nat.le_refl _) (.cells #[v1,v2] 59)
 go_enter Tryz.func23,Tryz.ntmps23
 go_wp2_with (first
  | (go_at_call 66;refine (szStringS_any lo _ nf fns _ _ ((uh H1).below B1) (by omega) (by omega)).mono ?_;rintro e w1 ⟨⟨r1,rfl,hr3,hr4⟩,rfl⟩)
  | (go_at_call 67;refine (szMomentS_any lo _ n f _ _ ((uh H2).below B1) (by omega) (by omega)).mono ?_;rintro e w1 ⟨⟨r2,rfl,hr5,hr6⟩,hb1⟩))
 ·go_ret
  exact ⟨⟨_,rfl,by omega,by omega⟩,B1⟩
 ·go_ret
  exact ⟨⟨_,rfl,by omega,by omega⟩,B1.trans (hb1.mono (by simp))⟩
 ·go_ret
  exact ⟨⟨_,rfl,by omega,fun h=>⟨hr4 ‹_›,hr6 h⟩⟩,B1.trans (hb1.mono (by simp))⟩
end Go.Proofs.YtmnmeaeicjhkhaaGreatDoor
namespace Go.Proofs.YtmnmeaeicjhkhaaGreatDoor
open Go.RowKit
theorem info_string:(Tryz.prog.info? 9).map (fun i=>(i.zero,i.size,i.bytes))=some (some (.string ByteArray.empty),1,16):=by kernel_rfl
theorem info_Var:(Tryz.prog.info? 40).map (fun i=>(i.zero,i.size,i.bytes))=some (some (.agg #[.string ByteArray.empty,.string ByteArray.empty]),2,32):=by kernel_rfl
theorem info_Moment:(Tryz.prog.info? 108).map (fun i=>(i.zero,i.size,i.bytes))=some (some (.agg #[.int .i64 0,.int .i64 0,.int .i64 0,.int .i64 0,.string ByteArray.empty,.slice none 0 0]),6,72):=by kernel_rfl
def MomOk (lo:Nat) (w:World) (F:Nat→Value) (f:Nat→M) (i:Nat):Prop :=
 ∃ vv,(F (i * 6)=.int .i64 (f i).kind∧F (i * 6 + 1)=.int .i64 (f i).task∧F (i * 6 + 2)=.int .i64 (f i).fn∧F (i * 6 + 3)=.int .i64 (f i).line∧F (i * 6 + 4)=.string (f i).text∧F (i * 6 + 5)=vv)∧VarsAt lo w vv (f i).nv (f i).vars
theorem toVar_any (nm tx:ByteArray) (w:World) :
  Calls Tryz.prog 218 #[.agg #[.string nm,.string tx]] w fun e w'=>e=.returned (.agg #[.string nm,.string tx])∧Below w.heap.size w w':=by
 go_enter Tryz.func218,Tryz.ntmps218
 go_wp2
 refine bodyPost_ret (v:=.agg #[.string nm,.string tx]) (by simp [results,Tryz.results218,go_sem]) rfl ⟨rfl,?_⟩
 exact (((Below.refl _ _).alloc (Nat.le_refl _) _).alloc (by simp) _).alloc (by simp;omega) _
theorem toStringS_any (lo:Nat) (v:Value) (n:Nat) (f:Nat→ByteArray) (w:World) (hv:StrsAt lo w v n f) (hn:n≤1048576) :
  Calls Tryz.prog 69 #[v] w fun e w'=>(∃ v',e=.returned v'∧StrsAt w.heap.size w' v' n f)∧Below w.heap.size w w':=by
 have HV:=hide hv
 obtain ⟨a,cap,rfl,hn',_⟩:=hv
 clear hn'
 have hmk:=run_make_many (P:=Tryz.prog) 23 9 _ _ _ Tryz.underlying23 info_string n (by omega) (by omega)
 obtain ⟨F0,hF0⟩:=row_made w #[.string ByteArray.empty] (n * 1) 9
 have HF0:=hide hF0;clear hF0
 go_enter Tryz.func69,Tryz.ntmps69
 go_wp2
 go_loopw [4] (fun i w'=>∃ (k:Nat) (F:Nat→Value),k≤n∧i=.int .i64 k∧w'.rowIs w.heap.size 9 n F∧(∀ i,i < k→F i=.string (f i))∧Below w.heap.size w w') (fun i _=>n - (intOf i).toNat)
 case atStart=>exact ⟨0,F0,by omega,rfl,by simpa using uh HF0,by omega,(Below.refl _ _).alloc (Nat.le_refl _) _⟩
 case round =>
  obtain ⟨k,F,hk,rfl,hrow,hF,hb⟩:=hrel
  have HF:=hide hF;clear hF
  have HR:=hide hrow;clear hrow
  by_cases hlt:k < n
  ·obtain ⟨a',cap',e,_,hv⟩:=uh HV
   cases e
   obtain ⟨b,o,rfl,hc1,hs,_⟩:=hv k hlt
   clear hv
   have hc2:=cell_lt hc1
   have hc:=hb.cell hc2
   rw [hc1] at hc
   have hz:=(uh HR).frozen k
   have hy:=(uh HR).cell hlt
   go_wp2
   go_roundw
   case rel =>
    refine ⟨k + 1,fun j=>if j=k then .string (f k) else F j,by omega,by go_num,(uh HR).set k _,fun i hi=>?_,hb.setCell (Nat.le_refl _) _⟩
    by_cases hik:i=k
    ·simp [hik]
    ·simp [hik];exact uh HF i (by omega)
   case measure=>simp [intOf];omega
  ·go_wp2
   go_ret
   refine ⟨⟨_,rfl,_,_,rfl,by unfold maxLen;omega,fun i hi=>⟨_,_,rfl,?_,?_,?_,?_⟩⟩,hb⟩
   ·rw [Nat.zero_add,(uh HR).cell hi,uh HF i (by omega)]
   ·obtain ⟨_,_,_,_,hv⟩:=uh HV
    obtain ⟨_,_,_,_,hs,_⟩:=hv i hi
    exact hs
   ·exact Nat.le_refl _
   ·intro _;rw [Nat.zero_add];exact (uh HR).frozen i
theorem toVarS_any (lo:Nat) (v:Value) (n:Nat) (f:Nat→V) (w:World) (hv:VarsAt lo w v n f) (hn:n≤1048576) :
  Calls Tryz.prog 176 #[v] w fun e w'=>(∃ v',e=.returned v'∧VarsAt w.heap.size w' v' n f)∧Below w.heap.size w w':=by
 have HV:=hide hv
 obtain ⟨a,cap,rfl,hn',_⟩:=hv
 clear hn'
 have hmk:=run_make_many (P:=Tryz.prog) 36 40 _ _ _ Tryz.underlying36 info_Var n (by omega) (by omega)
 obtain ⟨F0,hF0⟩:=row_made w #[.string ByteArray.empty,.string ByteArray.empty] (n * 2) 40
 have HF0:=hide hF0;clear hF0
 go_enter Tryz.func176,Tryz.ntmps176
 go_wp2
 go_loopw [4] (fun i w'=>∃ (k:Nat) (F:Nat→Value),k≤n∧i=.int .i64 k∧w'.rowIs w.heap.size 40 (n * 2) F∧(∀ i,i < k→F (i * 2)=.string (f i).name∧F (i * 2 + 1)=.string (f i).text)∧Below w.heap.size w w') (fun i _=>n - (intOf i).toNat)
 case atStart=>exact ⟨0,F0,by omega,rfl,by simpa using uh HF0,by omega,(Below.refl _ _).alloc (Nat.le_refl _) _⟩
 case round =>
  obtain ⟨k,F,hk,rfl,hrow,hF,hb⟩:=hrel
  have HF:=hide hF;clear hF
  have HR:=hide hrow;clear hrow
  by_cases hlt:k < n
  ·obtain ⟨a',cap',e,_,hv⟩:=uh HV
   cases e
   obtain ⟨b,o,rfl,hc1,hc2,hs1,hs2,_⟩:=hv k hlt
   clear hv
   have hc3:=hb.cell (cell_lt hc1)
   rw [hc1] at hc3
   have hc4:=hb.cell (cell_lt hc2)
   rw [hc2] at hc4
   have hlt2:=(uh HR).lt
   go_wp2_with fail
   refine (toVar_any _ _ _).mono ?_
   rintro e w1 ⟨rfl,hb1⟩
   have HR1:=hide ((uh HR).of_block (hb1.block _ hlt2))
   have hz1:=(uh HR1).frozen (k * 2)
   have hy1:=(uh HR1).cell (i:=k * 2) (by omega)
   have hz2:=(uh HR1).frozen (k * 2 + 1)
   have hy2:=(uh HR1).cell (i:=k * 2 + 1) (by omega)
   go_wp2
   go_roundw
   case rel =>
    refine ⟨k + 1,_,by omega,by go_num,((uh HR1).set (k * 2) _).set (k * 2 + 1) _,fun i hi=>?_,((hb.trans (hb1.mono hb.size)).setCell (Nat.le_refl _) _).setCell (Nat.le_refl _) _⟩
    by_cases hik:i=k
    ·simp [hik]
    ·have:=uh HF i (by omega)
     rw [if_neg (by omega),if_neg (by omega),if_neg (by omega),if_neg (by omega)]
     exact this
   case measure=>simp [intOf];omega
  ·go_wp2
   go_ret
   refine ⟨⟨_,rfl,_,_,rfl,by unfold maxLen;omega,fun i hi=>?_⟩,hb⟩
   have hF:=uh HF i (by omega)
   obtain ⟨_,_,_,_,hv⟩:=uh HV
   obtain ⟨_,_,_,_,_,hs1,hs2,_⟩:=hv i hi
   refine ⟨_,_,rfl,?_,?_,hs1,hs2,⟨Nat.le_refl _,fun _=>(uh HR).frozen _⟩,⟨Nat.le_refl _,fun _=>(uh HR).frozen _⟩⟩
   ·rw [Nat.zero_add,(uh HR).cell (by omega),hF.1]
   ·rw [Nat.zero_add,(uh HR).cell (by omega),hF.2]
theorem toMoment_any (lo:Nat) (k t fn l:Int) (tx:ByteArray) (v:Value) (n:Nat) (f:Nat→V) (w:World) (hv:VarsAt lo w v n f) (hn:n≤1048576) :
  Calls Tryz.prog 130 #[.agg #[.int .i64 k,.int .i64 t,.int .i64 fn,.int .i64 l,.string tx,v]] w fun e w' =>
   (∃ v',e=.returned (.agg #[.int .i64 k,.int .i64 t,.int .i64 fn,.int .i64 l,.string tx,v'])∧VarsAt w.heap.size w' v' n f)∧Below w.heap.size w w':=by
 have HV:=hide hv;clear hv
 go_enter Tryz.func130,Tryz.ntmps130
 go_wp2_with fail
 refine (toVarS_any lo v n f _ ((uh HV).below (by exact (((Below.refl _ _).alloc (Nat.le_refl _) _).alloc (by simp) _).alloc (by simp;omega) _)) hn).mono ?_
 rintro e w1 ⟨⟨v',rfl,hv'⟩,hb1⟩
 have HV1:=hide hv'
 obtain ⟨a',cap',rfl,_⟩:=hv'
 have hc:=old_cells hb1;have hf:=old_marks hb1
 have hz:w.heap.size + 3≤w1.heap.size:=by have:=hb1.size;simp at this;omega
 have HB:=hide hb1;clear hb1
 go_wp2
 refine bodyPost_ret (v:=.agg #[.int .i64 k,.int .i64 t,.int .i64 fn,.int .i64 l,.string tx,.slice a' n cap']) (by simp [results,Tryz.results130,go_sem,hc]) rfl ⟨⟨_,rfl,?_⟩,?_⟩
 ·refine VarsAt.low (show w.heap.size≤w.heap.size + 3 by omega) ?_
  repeat (refine VarsAt.set (by simp) ?_)
  simpa using uh HV1
 ·repeat (refine Below.setCell ?_ (by simp<;>omega) _)
  refine Below.trans ?_ ((uh HB).mono (by simp;omega))
  exact (((Below.refl _ _).alloc (Nat.le_refl _) _).alloc (by simp) _).alloc (by simp;omega) _
theorem toMomentS_sep (lo:Nat) (v:Value) (n:Nat) (f:Nat→M) (w:World) (hv:MomsAt lo w v n f) (hn:n≤1048576) (hnv:∀ i,i < n→(f i).nv≤1048576) :
  Calls Tryz.prog 70 #[v] w fun e w'=>(∃ v',e=.returned v'∧MomsAt w.heap.size w' v' n f∧MomsSep w.heap.size w' v' n f)∧Below w.heap.size w w':=by
 have HV:=hide hv
 have HN:=hide hnv;clear hnv
 obtain ⟨a,cap,rfl,hn',_⟩:=hv
 clear hn'
 have hmk:=run_make_many (P:=Tryz.prog) 24 108 _ _ _ Tryz.underlying24 info_Moment n (by omega) (by omega)
 obtain ⟨F0,hF0⟩:=row_made w #[.int .i64 0,.int .i64 0,.int .i64 0,.int .i64 0,.string ByteArray.empty,.slice none 0 0] (n * 6) 108
 have HF0:=hide hF0;clear hF0
 go_enter Tryz.func70,Tryz.ntmps70
 go_wp2
 go_loopw [4] (fun i w'=>∃ (k:Nat) (F:Nat→Value),k≤n∧i=.int .i64 k∧w'.rowIs w.heap.size 108 (n * 6) F∧(∀ i,i < k→MomOk (w.heap.size + 1) w' F f i)∧Below w.heap.size w w') (fun i _=>n - (intOf i).toNat)
 case atStart=>exact ⟨0,F0,by omega,rfl,by simpa using uh HF0,by omega,(Below.refl _ _).alloc (Nat.le_refl _) _⟩
 case round =>
  obtain ⟨k,F,hk,rfl,hrow,hF,hb⟩:=hrel
  have HF:=hide hF;clear hF
  have HR:=hide hrow;clear hrow
  by_cases hlt:k < n
  ·obtain ⟨a',cap',e,_,hv⟩:=(uh HV)
   cases e
   obtain ⟨b,o,vv,rfl,hc0,hc1,hc2,hc3,hc4,hc5,hs1,hs2,_⟩:=hv k hlt
   clear hv
   have hd0:=hb.cell (cell_lt hc0)
   have hd1:=hb.cell (cell_lt hc1)
   have hd2:=hb.cell (cell_lt hc2)
   have hd3:=hb.cell (cell_lt hc3)
   have hd4:=hb.cell (cell_lt hc4)
   have hd5:=hb.cell (cell_lt hc5)
   rw [hc0] at hd0;rw [hc1] at hd1;rw [hc2] at hd2;rw [hc3] at hd3;rw [hc4] at hd4;rw [hc5] at hd5
   clear hc0 hc1 hc2 hc3 hc4 hc5
   have HS:=hide (hs2.below hb);clear hs2
   have hlt2:=(uh HR).lt
   go_wp2_with fail
   refine (toMoment_any lo _ _ _ _ _ _ _ _ _ (uh HS) (uh HN k hlt)).mono ?_
   rintro e w1 ⟨⟨v',rfl,hv'⟩,hb1⟩
   have HV1:=hide hv'
   obtain ⟨a2,cap2,rfl,_⟩:=hv'
   have HR1:=hide ((uh HR).of_block (hb1.block _ hlt2))
   have HB1:=hide hb1;clear hb1
   have hz0:=(uh HR1).frozen (k * 6)
   have hz1:=(uh HR1).frozen (k * 6 + 1)
   have hz2:=(uh HR1).frozen (k * 6 + 2)
   have hz3:=(uh HR1).frozen (k * 6 + 3)
   have hz4:=(uh HR1).frozen (k * 6 + 4)
   have hz5:=(uh HR1).frozen (k * 6 + 5)
   have hy0:=(uh HR1).cell (i:=k * 6) (by omega)
   have hy1:=(uh HR1).cell (i:=k * 6 + 1) (by omega)
   have hy2:=(uh HR1).cell (i:=k * 6 + 2) (by omega)
   have hy3:=(uh HR1).cell (i:=k * 6 + 3) (by omega)
   have hy4:=(uh HR1).cell (i:=k * 6 + 4) (by omega)
   have hy5:=(uh HR1).cell (i:=k * 6 + 5) (by omega)
   go_wp2
   go_roundw
   case rel =>
    refine ⟨k + 1,_,by omega,by go_num,((((((uh HR1).set (k * 6) _).set (k * 6 + 1) _).set (k * 6 + 2) _).set (k * 6 + 3) _).set (k * 6 + 4) _).set (k * 6 + 5) _,fun i hi=>?_,?_⟩
    ·by_cases hik:i=k
     ·subst hik
      refine ⟨.slice a2 (f i).nv cap2,by simp,?_⟩
      repeat (refine VarsAt.set (by simp) ?_)
      exact (uh HV1).low (by omega)
     ·obtain ⟨vv',hF,hvv⟩:=uh HF i (by omega)
      refine ⟨vv',?_,?_⟩
      ·obtain ⟨e0,e1,e2,e3,e4,e5⟩:=hF
       refine ⟨?_,?_,?_,?_,?_,?_⟩
       ·dsimp only;repeat rw [if_neg (by omega)]
        exact e0
       ·dsimp only;repeat rw [if_neg (by omega)]
        exact e1
       ·dsimp only;repeat rw [if_neg (by omega)]
        exact e2
       ·dsimp only;repeat rw [if_neg (by omega)]
        exact e3
       ·dsimp only;repeat rw [if_neg (by omega)]
        exact e4
       ·dsimp only;repeat rw [if_neg (by omega)]
        exact e5
      ·repeat (refine VarsAt.set (by simp) ?_)
       exact hvv.below (uh HB1)
    ·repeat (refine Below.setCell ?_ (by simp) _)
     exact hb.trans ((uh HB1).mono hb.size)
   case measure=>simp [intOf];omega
  ·go_wp2
   go_ret
   refine ⟨⟨_,rfl,⟨_,_,rfl,by unfold maxLen;omega,fun i hi=>?_⟩,⟨_,_,rfl,Nat.le_refl _,fun i hi=>?_⟩⟩,hb⟩
   case refine_2 =>
    obtain ⟨vv,hF,hvv⟩:=uh HF i (by omega)
    exact ⟨vv,by rw [(uh HR).cell (by omega),hF.2.2.2.2.2],hvv⟩
   obtain ⟨vv,hF,hvv⟩:=uh HF i (by omega)
   obtain ⟨_,_,_,_,hv⟩:=uh HV
   obtain ⟨_,_,_,_,_,_,_,_,_,_,hs1,_⟩:=hv i hi
   refine ⟨_,_,vv,rfl,?_,?_,?_,?_,?_,?_,hs1,hvv.low (by omega),fun j _=>⟨Nat.le_refl _,fun _=>(uh HR).frozen _⟩⟩
   all_goals rw [Nat.zero_add,(uh HR).cell (by omega)]
   ·rw [hF.1]
   ·rw [hF.2.1]
   ·rw [hF.2.2.1]
   ·rw [hF.2.2.2.1]
   ·rw [hF.2.2.2.2.1]
   ·rw [hF.2.2.2.2.2]
theorem toTrace_sep (lo:Nat) (v1 v2:Value) (nf:Nat) (fns:Nat→ByteArray) (n:Nat) (f:Nat→M) (w:World) (h1:StrsAt lo w v1 nf fns) (h2:MomsAt lo w v2 n f) (hnf:nf≤1048576) (hn:n≤1048576) (hnv:∀ i,i < n→(f i).nv≤1048576) :
  Calls Tryz.prog 25 #[.agg #[v1,v2]] w fun e w'=>(∃ v1' v2',e=.returned (.agg #[v1',v2'])∧StrsAt w.heap.size w' v1' nf fns∧MomsAt w.heap.size w' v2' n f∧MomsSep w.heap.size w' v2' n f)∧Below w.heap.size w w':=by
 have H1:=hide h1;clear h1
 have H2:=hide h2;clear h2
 have HN:=hide hnv;clear hnv
 go_enter Tryz.func25,Tryz.ntmps25
 go_wp2_with fail
 refine (toStringS_any lo v1 nf fns _ ((uh H1).below (by exact (((Below.refl _ _).alloc (Nat.le_refl _) _).alloc (by simp) _).alloc (by simp;omega) _)) hnf).mono ?_
 rintro e w1 ⟨⟨v1',rfl,hv'⟩,hb1⟩
 have HV1:=hide hv'
 obtain ⟨a1,cap1,rfl,_⟩:=hv'
 have hc:=old_cells hb1;have hf:=old_marks hb1
 have hz:w.heap.size + 3≤w1.heap.size:=by have:=hb1.size;simp at this;omega
 have HB:=hide hb1;clear hb1
 go_wp2_with fail
 have hB2:Below w.heap.size w (w1.setCell ⟨w.heap.size + 1 + 1,0,none⟩ (.slice a1 nf cap1)):=by
  refine Below.setCell ?_ (by simp<;>omega) _
  refine Below.trans ?_ ((uh HB).mono (by simp;omega))
  exact (((Below.refl _ _).alloc (Nat.le_refl _) _).alloc (by simp) _).alloc (by simp;omega) _
 refine (toMomentS_sep lo v2 n f _ ((uh H2).below hB2) hn (uh HN)).mono ?_
 rintro e w2 ⟨⟨v2',rfl,hv2',hsp2⟩,hb2⟩
 have HSP2:=hide hsp2
 clear hsp2
 have HB2:=hide (hB2.trans (hb2.mono hB2.size));clear hB2
 have HV2:=hide hv2'
 obtain ⟨a2,cap2,rfl,_⟩:=hv2'
 have hd:=old_cells hb2;have he:=old_marks hb2
 have hz2:w1.heap.size≤w2.heap.size:=by have:=hb2.size;simpa using this
 have HV3:Hid (StrsAt (w.heap.size + 3) w2 (.slice a1 nf cap1) nf fns):=by
  refine StrsAt.below hb2 ?_
  refine StrsAt.set (by simp) ?_
  simpa using uh HV1
 clear hb2
 have hy:w.heap.size + 1 + 1 < w1.heap.size:=by omega
 have hy':w.heap.size + 1 < w1.heap.size:=by omega
 go_wp2
 refine bodyPost_ret (v:=.agg #[.slice a1 nf cap1,.slice a2 n cap2]) (by simp [results,Tryz.results25,go_sem,hc,hd,hy']) rfl ⟨⟨_,_,rfl,?_,?_,?_⟩,?_⟩
 ·refine StrsAt.low (show w.heap.size≤w.heap.size + 3 by omega) ?_
  repeat (refine StrsAt.set (by simp) ?_)
  exact uh HV3
 ·refine MomsAt.low (show w.heap.size≤w.heap.size + 3 by omega) ?_
  repeat (refine MomsAt.set (by simp) ?_)
  exact (uh HV2).low (by simpa using hz)
 ·refine MomsSep.low (show w.heap.size≤w.heap.size + 3 by omega) ?_
  repeat (refine MomsSep.set (by simp) ?_)
  exact (uh HSP2).low (by simpa using hz)
 ·repeat (refine Below.setCell ?_ (by simp<;>omega) _)
  exact uh HB2
theorem toTrace_any (lo:Nat) (v1 v2:Value) (nf:Nat) (fns:Nat→ByteArray) (n:Nat) (f:Nat→M) (w:World) (h1:StrsAt lo w v1 nf fns) (h2:MomsAt lo w v2 n f) (hnf:nf≤1048576) (hn:n≤1048576) (hnv:∀ i,i < n→(f i).nv≤1048576) :
  Calls Tryz.prog 25 #[.agg #[v1,v2]] w fun e w'=>(∃ v1' v2',e=.returned (.agg #[v1',v2'])∧StrsAt w.heap.size w' v1' nf fns∧MomsAt w.heap.size w' v2' n f)∧Below w.heap.size w w' :=
 (toTrace_sep lo v1 v2 nf fns n f w h1 h2 hnf hn hnv).mono fun _ _ ⟨⟨a,b,h1,h2,h3,_⟩,h4⟩=>⟨⟨a,b,h1,h2,h3⟩,h4⟩
end Go.Proofs.YtmnmeaeicjhkhaaGreatDoor
