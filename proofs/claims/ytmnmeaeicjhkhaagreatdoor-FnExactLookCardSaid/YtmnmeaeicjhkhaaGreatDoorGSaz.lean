import Derived.Test.YtmnmeaeicjhkhaaGreatDoorProg
import Derived.Test.YtmnmeaeicjhkhaaGreatDoorGBz
import Derived.WalkLawsBesides
import Derived.WalkSmall
set_option maxHeartbeats 16000000
namespace Go.Proofs.YtmnmeaeicjhkhaaGreatDoor
open Go.RowKit
theorem l1in_any (x a b:Int) (w:World) :
  Calls Tryz.prog 124 #[.int .i64 x,.int .i64 a,.int .i64 b] w fun e w'=>e=.returned (.bool (decide (a≤x∧x≤b)))∧w'=w:=by
 by_cases h1:a≤x
 ·by_cases h2:x≤b
  ·have e:decide (a≤x∧x≤b)=true:=by simp [h1,h2]
   rw [e];clear e
   go_enter Tryz.func124,Tryz.ntmps124
   go_wp2
   go_ret
   exact ⟨rfl,rfl⟩
  ·have e:decide (a≤x∧x≤b)=false:=by simp [h1,h2]
   rw [e];clear e
   go_enter Tryz.func124,Tryz.ntmps124
   go_wp2
   go_ret
   exact ⟨rfl,rfl⟩
 ·have e:decide (a≤x∧x≤b)=false:=by simp [h1]
  rw [e];clear e
  go_enter Tryz.func124,Tryz.ntmps124
  go_wp2
  go_ret
  exact ⟨rfl,rfl⟩
theorem l1sizes_any (lo:Nat) (v1 v2:Value) (nf:Nat) (fns:Nat→ByteArray) (n:Nat) (f:Nat→M) (w:World) (h1:StrsAt lo w v1 nf fns) (h2:MomsAt lo w v2 n f) :
  Calls Tryz.prog 54 #[.agg #[v1,v2]] w fun e w'=>SaysB (SizesOk nf fns n) e∧Below w.heap.size w w':=by
 have H1:=hide h1
 obtain ⟨a1,cap1,rfl,hn1,-⟩:=h1
 obtain ⟨a2,cap2,rfl,hn2,-⟩:=h2
 unfold maxLen at hn1 hn2
 have B0:=hide ((Below.refl w.heap.size w).alloc (Nat.le_refl _) (.cells #[.slice a1 nf cap1,.slice a2 n cap2] 26))
 by_cases g1:nf=0
 ·have d1:((nf:Int) == 0)=true:=by rw [beq_iff_eq];omega
  have G1:=hide g1;clear g1
  go_enter Tryz.func54,Tryz.ntmps54
  go_wp2
  go_ret
  exact ⟨SaysB.no (fun h=>h.1 (uh G1)),uh B0⟩
 have d1:((nf:Int) == 0)=false:=by rw [beq_eq_false_iff_ne];omega
 by_cases g2:nf≤300
 ·by_cases g3:n≤3000
  ·have d2:decide ((300:Int) < (nf:Int))=false:=by simp;omega
   have d3:decide ((3000:Int) < (n:Int))=false:=by simp;omega
   go_enter Tryz.func54,Tryz.ntmps54
   go_wp2
   go_loop [4,24] (fun _ i=>∃ (k:Nat),k≤nf∧i=.int .i64 k∧∀ i,i < k→(fns i).size≤40) (fun _ i=>nf - (intOf i).toNat)
   case atStart=>exact ⟨0,by omega,rfl,by omega⟩
   case round =>
    obtain ⟨k,hk,rfl,hq⟩:=hrel
    have HQ:=hide hq;clear hq
    by_cases hlt:k < nf
    ·obtain ⟨_,_,e,_,hv⟩:=(uh H1).below (uh B0)
     cases e
     obtain ⟨b,o,rfl,hc,hs,_⟩:=hv k hlt
     clear hv
     unfold maxLen at hs
     go_wp2
     ·go_ret
      refine ⟨SaysB.no ?_,uh B0⟩
      rintro ⟨_,_,_,h⟩
      have:=h k hlt
      omega
     ·go_round
      case rel =>
       refine ⟨k + 1,by omega,by go_num,fun i hi=>?_⟩
       by_cases hik:i < k
       ·exact uh HQ i hik
       ·have e:i=k:=by omega
        rw [e];omega
      case measure=>simp [intOf];omega
    ·go_wp2
     go_ret
     exact ⟨SaysB.yes ⟨g1,g2,g3,fun i hi=>uh HQ i (by omega)⟩,uh B0⟩
  ·go_enter Tryz.func54,Tryz.ntmps54
   have d2:decide ((300:Int) < (nf:Int))=false:=by simp;omega
   have d3:decide ((3000:Int) < (n:Int))=true:=by simp;omega
   go_wp2
   go_ret
   exact ⟨SaysB.no (fun h=>g3 h.2.2.1),uh B0⟩
 ·go_enter Tryz.func54,Tryz.ntmps54
  have d2:decide ((300:Int) < (nf:Int))=true:=by simp;omega
  go_wp2
  go_ret
  exact ⟨SaysB.no (fun h=>g2 h.2.1),uh B0⟩
end Go.Proofs.YtmnmeaeicjhkhaaGreatDoor
namespace Go.Proofs.YtmnmeaeicjhkhaaGreatDoor
open Go.RowKit
theorem sizesOk_any (lo:Nat) (v1 v2:Value) (nf:Nat) (fns:Nat→ByteArray) (n:Nat) (f:Nat→M) (w:World) (h1:StrsAt lo w v1 nf fns) (h2:MomsAt lo w v2 n f) :
  Calls Tryz.prog 101 #[.agg #[v1,v2]] w fun e w'=>SaysB (SizesOk nf fns n) e∧Below w.heap.size w w':=by
 have H1:=hide h1
 obtain ⟨a1,cap1,rfl,hn1,-⟩:=h1
 obtain ⟨a2,cap2,rfl,hn2,-⟩:=h2
 unfold maxLen at hn1 hn2
 have B0:=hide ((Below.refl w.heap.size w).alloc (Nat.le_refl _) (.cells #[.slice a1 nf cap1,.slice a2 n cap2] 26))
 by_cases g1:nf=0
 ·have d1:((nf:Int) == 0)=true:=by rw [beq_iff_eq];omega
  have G1:=hide g1;clear g1
  go_enter Tryz.func101,Tryz.ntmps101
  go_wp2
  go_ret
  exact ⟨SaysB.no (fun h=>h.1 (uh G1)),uh B0⟩
 have d1:((nf:Int) == 0)=false:=by rw [beq_eq_false_iff_ne];omega
 by_cases g2:nf≤300
 ·by_cases g3:n≤3000
  ·have d2:decide ((300:Int) < (nf:Int))=false:=by simp;omega
   have d3:decide ((3000:Int) < (n:Int))=false:=by simp;omega
   go_enter Tryz.func101,Tryz.ntmps101
   go_wp2
   go_loop [4,24] (fun _ i=>∃ (k:Nat),k≤nf∧i=.int .i64 k∧∀ i,i < k→(fns i).size≤40) (fun _ i=>nf - (intOf i).toNat)
   case atStart=>exact ⟨0,by omega,rfl,by omega⟩
   case round =>
    obtain ⟨k,hk,rfl,hq⟩:=hrel
    have HQ:=hide hq;clear hq
    by_cases hlt:k < nf
    ·obtain ⟨_,_,e,_,hv⟩:=(uh H1).below (uh B0)
     cases e
     obtain ⟨b,o,rfl,hc,hs,_⟩:=hv k hlt
     clear hv
     unfold maxLen at hs
     go_wp2
     ·go_ret
      refine ⟨SaysB.no ?_,uh B0⟩
      rintro ⟨_,_,_,h⟩
      have:=h k hlt
      omega
     ·go_round
      case rel =>
       refine ⟨k + 1,by omega,by go_num,fun i hi=>?_⟩
       by_cases hik:i < k
       ·exact uh HQ i hik
       ·have e:i=k:=by omega
        rw [e];omega
      case measure=>simp [intOf];omega
    ·go_wp2
     go_ret
     exact ⟨SaysB.yes ⟨g1,g2,g3,fun i hi=>uh HQ i (by omega)⟩,uh B0⟩
  ·go_enter Tryz.func101,Tryz.ntmps101
   have d2:decide ((300:Int) < (nf:Int))=false:=by simp;omega
   have d3:decide ((3000:Int) < (n:Int))=true:=by simp;omega
   go_wp2
   go_ret
   exact ⟨SaysB.no (fun h=>g3 h.2.2.1),uh B0⟩
 ·go_enter Tryz.func101,Tryz.ntmps101
  have d2:decide ((300:Int) < (nf:Int))=true:=by simp;omega
  go_wp2
  go_ret
  exact ⟨SaysB.no (fun h=>g2 h.2.1),uh B0⟩
theorem l1moment_any (lo:Nat) (v1 v2:Value) (nf:Nat) (fns:Nat→ByteArray) (k t fn l:Int) (tx:ByteArray) (v:Value) (n:Nat) (f:Nat→V) (w:World) (h1:StrsAt lo w v1 nf fns) (ht:tx.size≤maxLen) (hv:VarsAt lo w v n f) :
  Calls Tryz.prog 55 #[.agg #[v1,v2],.agg #[.int .i64 k,.int .i64 t,.int .i64 fn,.int .i64 l,.string tx,v]] w fun e w'=>SaysB (HeadOk nf k t fn l tx.size∧VarsOk n f) e∧Below w.heap.size w w':=by
 have HV:=hide hv
 obtain ⟨a1,cap1,rfl,hn1,-⟩:=h1
 obtain ⟨a,cap,rfl,hn,-⟩:=hv
 unfold maxLen at hn1 hn ht
 have B0:=hide (((Below.refl w.heap.size w).alloc (Nat.le_refl _) (.cells #[.slice a1 nf cap1,v2] 26)).alloc (by simp) (.cells #[.int .i64 k,.int .i64 t,.int .i64 fn,.int .i64 l,.string tx,.slice a n cap] 108))
 by_cases c1:(decide (1≤k∧k≤7))=false
 ·go_enter Tryz.func55,Tryz.ntmps55
  go_wp2_with (go_at_call 124;refine (l1in_any _ _ _ _).mono ?_;rintro e w1 ⟨rfl,rfl⟩)
  go_ret
  exact ⟨SaysB.no (fun h=>by have:=h.1;unfold HeadOk at this;simp at c1;omega),uh B0⟩
 have c1:(decide (1≤k∧k≤7))=true:=by simpa using c1
 by_cases c2:(decide (0≤t∧t≤100))=false
 ·go_enter Tryz.func55,Tryz.ntmps55
  go_wp2_with (go_at_call 124;refine (l1in_any _ _ _ _).mono ?_;rintro e w1 ⟨rfl,rfl⟩)
  go_ret
  exact ⟨SaysB.no (fun h=>by have:=h.1;unfold HeadOk at this;simp at c2;omega),uh B0⟩
 have c2:(decide (0≤t∧t≤100))=true:=by simpa using c2
 by_cases c3:(decide (0≤fn∧fn≤(nf:Int) - 1))=false
 ·go_enter Tryz.func55,Tryz.ntmps55
  go_wp2_with (go_at_call 124;refine (l1in_any _ _ _ _).mono ?_;rintro e w1 ⟨rfl,rfl⟩)
  go_ret
  exact ⟨SaysB.no (fun h=>by have:=h.1;unfold HeadOk at this;simp at c3;omega),uh B0⟩
 have c3:(decide (0≤fn∧fn≤(nf:Int) - 1))=true:=by simpa using c3
 by_cases c4:(decide (0≤l∧l≤100000))=false
 ·go_enter Tryz.func55,Tryz.ntmps55
  go_wp2_with (go_at_call 124;refine (l1in_any _ _ _ _).mono ?_;rintro e w1 ⟨rfl,rfl⟩)
  go_ret
  exact ⟨SaysB.no (fun h=>by have:=h.1;unfold HeadOk at this;simp at c4;omega),uh B0⟩
 have c4:(decide (0≤l∧l≤100000))=true:=by simpa using c4
 by_cases c5:(decide ((4000:Int) < (tx.size:Int)))=true
 ·go_enter Tryz.func55,Tryz.ntmps55
  go_wp2_with (go_at_call 124;refine (l1in_any _ _ _ _).mono ?_;rintro e w1 ⟨rfl,rfl⟩)
  go_ret
  exact ⟨SaysB.no (fun h=>by have:=h.1;unfold HeadOk at this;simp at c5;omega),uh B0⟩
 have c5:(decide ((4000:Int) < (tx.size:Int)))=false:=by simpa using c5
 by_cases c6:(decide ((200:Int) < (n:Int)))=true
 ·go_enter Tryz.func55,Tryz.ntmps55
  go_wp2_with (go_at_call 124;refine (l1in_any _ _ _ _).mono ?_;rintro e w1 ⟨rfl,rfl⟩)
  go_ret
  exact ⟨SaysB.no (fun h=>by have:=h.2.1;simp at c6;omega),uh B0⟩
 have c6:(decide ((200:Int) < (n:Int)))=false:=by simpa using c6
 by_cases c7:k=1∧l=0
 ·have c8:(k == 1)=true:=by simpa using c7.1
  have c9:(l == 0)=true:=by simpa using c7.2
  have C7:=hide c7;clear c7
  go_enter Tryz.func55,Tryz.ntmps55
  go_wp2_with (go_at_call 124;refine (l1in_any _ _ _ _).mono ?_;rintro e w1 ⟨rfl,rfl⟩)
  go_ret
  exact ⟨SaysB.no (fun h=>by have:=h.1;unfold HeadOk at this;exact this.2.2.2.2.2.2.2.2.1 (uh C7)),uh B0⟩
 have HO:Hid (HeadOk nf k t fn l tx.size):=by
  simp at c1 c2 c3 c4 c5
  exact ⟨by omega,by omega,by omega,by omega,by omega,by omega,by omega,by omega,c7,by omega⟩
 have HN:Hid (n≤200):=by simp at c6;exact hide (by omega)
 have c7:((k == 1)=true∧(l == 0)=false)∨(k == 1)=false:=by
  by_cases h:k=1
  ·left;exact ⟨by simpa using h,by simpa using fun h'=>c7 ⟨h,h'⟩⟩
  ·right;simpa using h
 rcases c7 with ⟨c7,c8⟩ | c7
 all_goals
  go_enter Tryz.func55,Tryz.ntmps55
  go_wp2_with (go_at_call 124;refine (l1in_any _ _ _ _).mono ?_;rintro e w1 ⟨rfl,rfl⟩)
  clear c1 c2 c3 c4 c5 c6 c7
  go_loopw [56] (fun i w'=>∃ (j:Nat),j≤n∧i=.int .i64 j∧(∀ i,i < j→(f i).name.size ≠ 0∧(f i).name.size≤40∧(f i).text.size≤4000)∧Below w.heap.size w w') (fun i _=>n - (intOf i).toNat)
  case atStart=>exact ⟨0,by omega,rfl,by omega,uh B0⟩
  case round =>
   obtain ⟨j,hk,rfl,hq,hb⟩:=hrel
   have HQ:=hide hq;clear hq
   by_cases hlt:j < n
   ·obtain ⟨_,_,e,_,hv⟩:=(uh HV).below hb
    cases e
    obtain ⟨b,o,rfl,hc1,hc2,hs1,hs2,-⟩:=hv j hlt
    clear hv
    have hb2:=hide (hb.alloc hb.size (.cells #[.string (f j).name,.string (f j).text] 40))
    unfold maxLen at hs1 hs2
    by_cases e1:(((f j).name.size:Int) == 0)=true
    ·go_wp2
     go_ret
     exact ⟨SaysB.no (fun h=>(h.2.2 j hlt).1 (by simpa using e1)),uh hb2⟩
    have e1:(((f j).name.size:Int) == 0)=false:=by simpa using e1
    by_cases e2:decide ((40:Int) < ((f j).name.size:Int))=true
    ·go_wp2
     go_ret
     exact ⟨SaysB.no (fun h=>by have:=(h.2.2 j hlt).2.1;simp at e2;omega),uh hb2⟩
    have e2:decide ((40:Int) < ((f j).name.size:Int))=false:=by simpa using e2
    by_cases e3:decide ((4000:Int) < ((f j).text.size:Int))=true
    ·go_wp2
     go_ret
     exact ⟨SaysB.no (fun h=>by have:=(h.2.2 j hlt).2.2;simp at e3;omega),uh hb2⟩
    have e3:decide ((4000:Int) < ((f j).text.size:Int))=false:=by simpa using e3
    go_wp2
    go_roundw
    case rel =>
     refine ⟨j + 1,by omega,by go_num,fun i hi=>?_,uh hb2⟩
     by_cases hik:i < j
     ·exact uh HQ i hik
     ·have e:i=j:=by omega
      rw [e]
      refine ⟨fun h=>?_,?_,?_⟩
      ·rw [h] at e1;simp at e1
      ·simp at e2;omega
      ·simp at e3;omega
    case measure=>simp [intOf];omega
   ·go_wp2
    go_ret
    exact ⟨SaysB.yes ⟨uh HO,uh HN,fun i hi=>uh HQ i (by omega)⟩,hb⟩
end Go.Proofs.YtmnmeaeicjhkhaaGreatDoor
namespace Go.Proofs.YtmnmeaeicjhkhaaGreatDoor
open Go.RowKit
theorem varsOk_any (lo:Nat) (v:Value) (n:Nat) (f:Nat→V) (w:World) (hv:VarsAt lo w v n f) :
  Calls Tryz.prog 142 #[v] w fun e w'=>SaysB (VarsOk n f) e∧Below w.heap.size w w':=by
 have HV:=hide hv
 obtain ⟨a,cap,rfl,hn,-⟩:=hv
 unfold maxLen at hn
 by_cases c6:(decide ((200:Int) < (n:Int)))=true
 ·go_enter Tryz.func142,Tryz.ntmps142
  go_wp2
  go_ret
  exact ⟨SaysB.no (fun h=>by have:=h.1;simp at c6;omega),Below.refl _ _⟩
 have c6:(decide ((200:Int) < (n:Int)))=false:=by simpa using c6
 have HN:Hid (n≤200):=by simp at c6;exact hide (by omega)
 go_enter Tryz.func142,Tryz.ntmps142
 go_wp2
 go_loopw [10] (fun i w'=>∃ (j:Nat),j≤n∧i=.int .i64 j∧(∀ i,i < j→(f i).name.size ≠ 0∧(f i).name.size≤40∧(f i).text.size≤4000)∧Below w.heap.size w w') (fun i _=>n - (intOf i).toNat)
 case atStart=>exact ⟨0,by omega,rfl,by omega,Below.refl _ _⟩
 case round =>
  obtain ⟨j,hk,rfl,hq,hb⟩:=hrel
  have HQ:=hide hq;clear hq
  by_cases hlt:j < n
  ·obtain ⟨_,_,e,_,hv⟩:=(uh HV).below hb
   cases e
   obtain ⟨b,o,rfl,hc1,hc2,hs1,hs2,-⟩:=hv j hlt
   clear hv
   have hb2:=hide (hb.alloc hb.size (.cells #[.string (f j).name,.string (f j).text] 40))
   unfold maxLen at hs1 hs2
   by_cases e1:decide (((f j).name.size:Int) < 1)=true
   ·go_wp2
    go_ret
    exact ⟨SaysB.no (fun h=>(h.2 j hlt).1 (by simp at e1;omega)),uh hb2⟩
   have e1:decide (((f j).name.size:Int) < 1)=false:=by simpa using e1
   by_cases e2:decide ((40:Int) < ((f j).name.size:Int))=true
   ·go_wp2
    go_ret
    exact ⟨SaysB.no (fun h=>by have:=(h.2 j hlt).2.1;simp at e2;omega),uh hb2⟩
   have e2:decide ((40:Int) < ((f j).name.size:Int))=false:=by simpa using e2
   by_cases e3:decide ((4000:Int) < ((f j).text.size:Int))=true
   ·go_wp2
    go_ret
    exact ⟨SaysB.no (fun h=>by have:=(h.2 j hlt).2.2;simp at e3;omega),uh hb2⟩
   have e3:decide ((4000:Int) < ((f j).text.size:Int))=false:=by simpa using e3
   go_wp2
   go_roundw
   case rel =>
    refine ⟨j + 1,by omega,by go_num,fun i hi=>?_,uh hb2⟩
    by_cases hik:i < j
    ·exact uh HQ i hik
    ·have e:i=j:=by omega
     rw [e]
     refine ⟨fun h=>?_,?_,?_⟩
     ·rw [h] at e1;simp at e1
     ·simp at e2;omega
     ·simp at e3;omega
   case measure=>simp [intOf];omega
  ·go_wp2
   go_ret
   exact ⟨SaysB.yes ⟨uh HN,fun i hi=>uh HQ i (by omega)⟩,hb⟩
theorem momentOk_any (lo nf:Nat) (k t fn l:Int) (tx:ByteArray) (v:Value) (n:Nat) (f:Nat→V) (w:World) (ht:tx.size≤maxLen) (hv:VarsAt lo w v n f) :
  Calls Tryz.prog 102 #[.agg #[.int .i64 k,.int .i64 t,.int .i64 fn,.int .i64 l,.string tx,v],.int .i64 nf] w fun e w'=>SaysB (HeadOk nf k t fn l tx.size∧VarsOk n f) e∧Below w.heap.size w w':=by
 have HV:=hide hv;clear hv
 unfold maxLen at ht
 have B0:=hide ((Below.refl w.heap.size w).alloc (Nat.le_refl _) (.cells #[.int .i64 k,.int .i64 t,.int .i64 fn,.int .i64 l,.string tx,v] 108))
 by_cases c1:(decide (k < 1))=true
 ·go_enter Tryz.func102,Tryz.ntmps102
  go_wp2
  go_ret
  exact ⟨SaysB.no (fun h=>by have:=h.1;unfold HeadOk at this;simp at c1;omega),uh B0⟩
 have c1:(decide (k < 1))=false:=by simpa using c1
 by_cases c2:(decide (7 < k))=true
 ·go_enter Tryz.func102,Tryz.ntmps102
  go_wp2
  go_ret
  exact ⟨SaysB.no (fun h=>by have:=h.1;unfold HeadOk at this;simp at c2;omega),uh B0⟩
 have c2:(decide (7 < k))=false:=by simpa using c2
 by_cases c3:(decide (t < 0))=true
 ·go_enter Tryz.func102,Tryz.ntmps102
  go_wp2
  go_ret
  exact ⟨SaysB.no (fun h=>by have:=h.1;unfold HeadOk at this;simp at c3;omega),uh B0⟩
 have c3:(decide (t < 0))=false:=by simpa using c3
 by_cases c4:(decide (101≤t))=true
 ·go_enter Tryz.func102,Tryz.ntmps102
  go_wp2
  go_ret
  exact ⟨SaysB.no (fun h=>by have:=h.1;unfold HeadOk at this;simp at c4;omega),uh B0⟩
 have c4:(decide (101≤t))=false:=by simpa using c4
 by_cases c5:(decide (fn < 0))=true
 ·go_enter Tryz.func102,Tryz.ntmps102
  go_wp2
  go_ret
  exact ⟨SaysB.no (fun h=>by have:=h.1;unfold HeadOk at this;simp at c5;omega),uh B0⟩
 have c5:(decide (fn < 0))=false:=by simpa using c5
 by_cases c6:(decide ((nf:Int)≤fn))=true
 ·go_enter Tryz.func102,Tryz.ntmps102
  go_wp2
  go_ret
  exact ⟨SaysB.no (fun h=>by have:=h.1;unfold HeadOk at this;simp at c6;omega),uh B0⟩
 have c6:(decide ((nf:Int)≤fn))=false:=by simpa using c6
 by_cases c7:(decide (l < 0))=true
 ·go_enter Tryz.func102,Tryz.ntmps102
  go_wp2
  go_ret
  exact ⟨SaysB.no (fun h=>by have:=h.1;unfold HeadOk at this;simp at c7;omega),uh B0⟩
 have c7:(decide (l < 0))=false:=by simpa using c7
 by_cases c8:(decide (100000 < l))=true
 ·go_enter Tryz.func102,Tryz.ntmps102
  go_wp2
  go_ret
  exact ⟨SaysB.no (fun h=>by have:=h.1;unfold HeadOk at this;simp at c8;omega),uh B0⟩
 have c8:(decide (100000 < l))=false:=by simpa using c8
 by_cases c9:k=1∧l=0
 ·have d8:(k == 1)=true:=by simpa using c9.1
  have d9:(l == 0)=true:=by simpa using c9.2
  have C9:=hide c9;clear c9
  go_enter Tryz.func102,Tryz.ntmps102
  go_wp2
  go_ret
  exact ⟨SaysB.no (fun h=>by have:=h.1;unfold HeadOk at this;exact this.2.2.2.2.2.2.2.2.1 (uh C9)),uh B0⟩
 have C9:=hide c9
 have c9:((k == 1)=true∧(l == 0)=false)∨(k == 1)=false:=by
  by_cases h:k=1
  ·left;exact ⟨by simpa using h,by simpa using fun h'=>c9 ⟨h,h'⟩⟩
  ·right;simpa using h
 by_cases c10:decide ((tx.size:Int)≤4000)=false
 ·rcases c9 with ⟨c9,d9⟩ | c9
  all_goals
   go_enter Tryz.func102,Tryz.ntmps102
   go_wp2
   go_ret
   exact ⟨SaysB.no (fun h=>by have:=h.1;unfold HeadOk at this;simp at c10;omega),uh B0⟩
 have c10:decide ((tx.size:Int)≤4000)=true:=by simpa using c10
 have HO:Hid (HeadOk nf k t fn l tx.size):=by
  simp at c1 c2 c3 c4 c5 c6 c7 c8 c10
  exact ⟨by omega,by omega,by omega,by omega,by omega,by omega,by omega,by omega,uh C9,by omega⟩
 rcases c9 with ⟨c9,d9⟩ | c9
 all_goals
  go_enter Tryz.func102,Tryz.ntmps102
  go_wp2_with fail
  refine (varsOk_any lo _ n f _ ((uh HV).below (by exact uh B0))).mono ?_
  rintro e w1 ⟨⟨b,rfl,hbv⟩,hb1⟩
  have B1:=hide ((uh B0).trans (hb1.mono (uh B0).size));clear hb1
  have HBV:=hide hbv;clear hbv
  go_wp2
  go_ret
  refine ⟨⟨b,rfl,?_⟩,uh B1⟩
  rw [uh HBV]
  exact ⟨fun h=>⟨uh HO,h⟩,fun h=>h.2⟩
end Go.Proofs.YtmnmeaeicjhkhaaGreatDoor
