import Derived.Test.YtmnmeaeicjhkhaaGreatDoorProg
import Derived.Test.YtmnmeaeicjhkhaaGreatDoorGBx
import Derived.WalkLawsBesides
import Derived.BigQuiet
import Derived.Deep.RegionHeld3
import Derived.Deep.AppendLies
set_option maxHeartbeats 16000000
namespace Go.Proofs.YtmnmeaeicjhkhaaGreatDoor
open Go.RowKit
theorem bZ (x a b:Int) (w:World) :
  Calls Tryz.prog 124 #[.int .i64 x,.int .i64 a,.int .i64 b] w fun e w'=>e=.returned (.bool (decide (a<=x/\x<=b)))/\w'=w:=by
 by_cases h1:a<=x
 ·by_cases h2:x<=b
  ·have e:decide (a<=x/\x<=b)=true:=by simp [h1,h2]
   rw [e];clear e
   go_enter Tryz.func124,Tryz.ntmps124
   go_wp2
   go_ret
   exact ⟨rfl,rfl⟩
  have e:decide (a<=x/\x<=b)=false:=by simp [h1,h2]
  rw [e];clear e
  go_enter Tryz.func124,Tryz.ntmps124
  go_wp2
  go_ret
  exact ⟨rfl,rfl⟩
 have e:decide (a<=x/\x<=b)=false:=by simp [h1]
 rw [e];clear e
 go_enter Tryz.func124,Tryz.ntmps124
 go_wp2
 go_ret
 exact ⟨rfl,rfl⟩
theorem l1sizes_any (lo:Nat) (v1 v2:Value) (nf:Nat) (fns:Nat->ByteArray) (n:Nat) (f:Nat->M) (w:World) (h1:eE lo w v1 nf fns) (h2:bQ lo w v2 n f) :
  Calls Tryz.prog 54 #[.agg #[v1,v2]] w fun e w'=>bS (kN nf fns n) e/\Below w.heap.size w w':=by
 have H1:=O h1
 obtain ⟨a1,cap1,rfl,hn1,-⟩:=h1
 obtain ⟨a2,cap2,rfl,hn2,-⟩:=h2
 unfold maxLen at hn1 hn2
 have B0:=O ((Below.refl w.heap.size w).alloc (Nat.le_refl _) (.cells #[.slice a1 nf cap1,.slice a2 n cap2] 26))
 by_cases g1:nf=0
 ·have d1:((nf:Int) == 0)=true:=by rw [beq_iff_eq];omega
  have G1:=O g1;clear g1
  go_enter Tryz.func54,Tryz.ntmps54
  go_wp2
  go_ret
  exact ⟨bS.no (fun h=>h.1 (Z G1)),Z B0⟩
 have d1:((nf:Int) == 0)=false:=by rw [beq_eq_false_iff_ne];omega
 by_cases g2:nf<=300
 ·by_cases g3:n<=3000
  ·have d2:decide ((300:Int)<(nf:Int))=false:=by simp;omega
   have d3:decide ((3000:Int)<(n:Int))=false:=by simp;omega
   go_enter Tryz.func54,Tryz.ntmps54
   go_wp2
   go_loop [4,24] (fun _ i=>∃ (k:Nat),k<=nf/\i=.int .i64 k/\∀ i,i<k->(fns i).size<=40) (fun _ i=>nf - (intOf i).toNat)
   case atStart=>exact ⟨0,by omega,rfl,by omega⟩
   case round =>
    obtain ⟨k,hk,rfl,hq⟩:=hrel
    have HQ:=O hq;clear hq
    by_cases hlt:k<nf
    ·obtain ⟨_,_,e,_,hv⟩:=(Z H1).below (Z B0)
     cases e
     obtain ⟨b,o,rfl,hc,hs,_⟩:=hv k hlt
     clear hv
     unfold maxLen at hs
     go_wp2
     ·go_ret
      refine ⟨bS.no ?_,Z B0⟩
      rintro ⟨_,_,_,h⟩
      have:=h k hlt
      omega
     go_round
     case rel =>
      refine ⟨k+1,by omega,by go_num,fun i hi=>?_⟩
      by_cases hik:i<k
      ·exact Z HQ i hik
      have e:i=k:=by omega
      rw [e];omega
     case measure=>simp [intOf];omega
    go_wp2
    go_ret
    exact ⟨bS.yes ⟨g1,g2,g3,fun i hi=>Z HQ i (by omega)⟩,Z B0⟩
  go_enter Tryz.func54,Tryz.ntmps54
  have d2:decide ((300:Int)<(nf:Int))=false:=by simp;omega
  have d3:decide ((3000:Int)<(n:Int))=true:=by simp;omega
  go_wp2
  go_ret
  exact ⟨bS.no (fun h=>g3 h.2.2.1),Z B0⟩
 go_enter Tryz.func54,Tryz.ntmps54
 have d2:decide ((300:Int)<(nf:Int))=true:=by simp;omega
 go_wp2
 go_ret
 exact ⟨bS.no (fun h=>g2 h.2.1),Z B0⟩
theorem sizesOk_any (lo:Nat) (v1 v2:Value) (nf:Nat) (fns:Nat->ByteArray) (n:Nat) (f:Nat->M) (w:World) (h1:eE lo w v1 nf fns) (h2:bQ lo w v2 n f) :
  Calls Tryz.prog 101 #[.agg #[v1,v2]] w fun e w'=>bS (kN nf fns n) e/\Below w.heap.size w w':=by
 have H1:=O h1
 obtain ⟨a1,cap1,rfl,hn1,-⟩:=h1
 obtain ⟨a2,cap2,rfl,hn2,-⟩:=h2
 unfold maxLen at hn1 hn2
 have B0:=O ((Below.refl w.heap.size w).alloc (Nat.le_refl _) (.cells #[.slice a1 nf cap1,.slice a2 n cap2] 26))
 by_cases g1:nf=0
 ·have d1:((nf:Int) == 0)=true:=by rw [beq_iff_eq];omega
  have G1:=O g1;clear g1
  go_enter Tryz.func101,Tryz.ntmps101
  go_wp2
  go_ret
  exact ⟨bS.no (fun h=>h.1 (Z G1)),Z B0⟩
 have d1:((nf:Int) == 0)=false:=by rw [beq_eq_false_iff_ne];omega
 by_cases g2:nf<=300
 ·by_cases g3:n<=3000
  ·have d2:decide ((300:Int)<(nf:Int))=false:=by simp;omega
   have d3:decide ((3000:Int)<(n:Int))=false:=by simp;omega
   go_enter Tryz.func101,Tryz.ntmps101
   go_wp2
   go_loop [4,24] (fun _ i=>∃ (k:Nat),k<=nf/\i=.int .i64 k/\∀ i,i<k->(fns i).size<=40) (fun _ i=>nf - (intOf i).toNat)
   case atStart=>exact ⟨0,by omega,rfl,by omega⟩
   case round =>
    obtain ⟨k,hk,rfl,hq⟩:=hrel
    have HQ:=O hq;clear hq
    by_cases hlt:k<nf
    ·obtain ⟨_,_,e,_,hv⟩:=(Z H1).below (Z B0)
     cases e
     obtain ⟨b,o,rfl,hc,hs,_⟩:=hv k hlt
     clear hv
     unfold maxLen at hs
     go_wp2
     ·go_ret
      refine ⟨bS.no ?_,Z B0⟩
      rintro ⟨_,_,_,h⟩
      have:=h k hlt
      omega
     go_round
     case rel =>
      refine ⟨k+1,by omega,by go_num,fun i hi=>?_⟩
      by_cases hik:i<k
      ·exact Z HQ i hik
      have e:i=k:=by omega
      rw [e];omega
     case measure=>simp [intOf];omega
    go_wp2
    go_ret
    exact ⟨bS.yes ⟨g1,g2,g3,fun i hi=>Z HQ i (by omega)⟩,Z B0⟩
  go_enter Tryz.func101,Tryz.ntmps101
  have d2:decide ((300:Int)<(nf:Int))=false:=by simp;omega
  have d3:decide ((3000:Int)<(n:Int))=true:=by simp;omega
  go_wp2
  go_ret
  exact ⟨bS.no (fun h=>g3 h.2.2.1),Z B0⟩
 go_enter Tryz.func101,Tryz.ntmps101
 have d2:decide ((300:Int)<(nf:Int))=true:=by simp;omega
 go_wp2
 go_ret
 exact ⟨bS.no (fun h=>g2 h.2.1),Z B0⟩
theorem l1moment_any (lo:Nat) (v1 v2:Value) (nf:Nat) (fns:Nat->ByteArray) (k t fn l:Int) (tx:ByteArray) (v:Value) (n:Nat) (f:Nat->V) (w:World) (h1:eE lo w v1 nf fns) (ht:tx.size<=maxLen) (hv:fN lo w v n f) :
  Calls Tryz.prog 55 #[.agg #[v1,v2],.agg #[.int .i64 k,.int .i64 t,.int .i64 fn,.int .i64 l,.string tx,v]] w fun e w'=>bS (fG nf k t fn l tx.size/\VarsOk n f) e/\Below w.heap.size w w':=by
 have HV:=O hv
 obtain ⟨a1,cap1,rfl,hn1,-⟩:=h1
 obtain ⟨a,cap,rfl,hn,-⟩:=hv
 unfold maxLen at hn1 hn ht
 have B0:=O (((Below.refl w.heap.size w).alloc (Nat.le_refl _) (.cells #[.slice a1 nf cap1,v2] 26)).alloc (by simp) (.cells #[.int .i64 k,.int .i64 t,.int .i64 fn,.int .i64 l,.string tx,.slice a n cap] 108))
 by_cases c1:(decide (1<=k/\k<=7))=false
 ·go_enter Tryz.func55,Tryz.ntmps55
  go_wp2_with (go_at_call 124;refine (bZ _ _ _ _).mono ?_;rintro e w1 ⟨rfl,rfl⟩)
  go_ret
  exact ⟨bS.no (fun h=>by have:=h.1;unfold fG at this;simp at c1;omega),Z B0⟩
 have c1:(decide (1<=k/\k<=7))=true:=by simpa using c1
 by_cases c2:(decide (0<=t/\t<=100))=false
 ·go_enter Tryz.func55,Tryz.ntmps55
  go_wp2_with (go_at_call 124;refine (bZ _ _ _ _).mono ?_;rintro e w1 ⟨rfl,rfl⟩)
  go_ret
  exact ⟨bS.no (fun h=>by have:=h.1;unfold fG at this;simp at c2;omega),Z B0⟩
 have c2:(decide (0<=t/\t<=100))=true:=by simpa using c2
 by_cases c3:(decide (0<=fn/\fn<=(nf:Int) - 1))=false
 ·go_enter Tryz.func55,Tryz.ntmps55
  go_wp2_with (go_at_call 124;refine (bZ _ _ _ _).mono ?_;rintro e w1 ⟨rfl,rfl⟩)
  go_ret
  exact ⟨bS.no (fun h=>by have:=h.1;unfold fG at this;simp at c3;omega),Z B0⟩
 have c3:(decide (0<=fn/\fn<=(nf:Int) - 1))=true:=by simpa using c3
 by_cases c4:(decide (0<=l/\l<=100000))=false
 ·go_enter Tryz.func55,Tryz.ntmps55
  go_wp2_with (go_at_call 124;refine (bZ _ _ _ _).mono ?_;rintro e w1 ⟨rfl,rfl⟩)
  go_ret
  exact ⟨bS.no (fun h=>by have:=h.1;unfold fG at this;simp at c4;omega),Z B0⟩
 have c4:(decide (0<=l/\l<=100000))=true:=by simpa using c4
 by_cases c5:(decide ((4000:Int)<(tx.size:Int)))=true
 ·go_enter Tryz.func55,Tryz.ntmps55
  go_wp2_with (go_at_call 124;refine (bZ _ _ _ _).mono ?_;rintro e w1 ⟨rfl,rfl⟩)
  go_ret
  exact ⟨bS.no (fun h=>by have:=h.1;unfold fG at this;simp at c5;omega),Z B0⟩
 have c5:(decide ((4000:Int)<(tx.size:Int)))=false:=by simpa using c5
 by_cases c6:(decide ((200:Int)<(n:Int)))=true
 ·go_enter Tryz.func55,Tryz.ntmps55
  go_wp2_with (go_at_call 124;refine (bZ _ _ _ _).mono ?_;rintro e w1 ⟨rfl,rfl⟩)
  go_ret
  exact ⟨bS.no (fun h=>by have:=h.2.1;simp at c6;omega),Z B0⟩
 have c6:(decide ((200:Int)<(n:Int)))=false:=by simpa using c6
 by_cases c7:k=1/\l=0
 ·have c8:(k == 1)=true:=by simpa using c7.1
  have c9:(l == 0)=true:=by simpa using c7.2
  have C7:=O c7;clear c7
  go_enter Tryz.func55,Tryz.ntmps55
  go_wp2_with (go_at_call 124;refine (bZ _ _ _ _).mono ?_;rintro e w1 ⟨rfl,rfl⟩)
  go_ret
  exact ⟨bS.no (fun h=>by have:=h.1;unfold fG at this;exact this.2.2.2.2.2.2.2.2.1 (Z C7)),Z B0⟩
 have HO:Hid (fG nf k t fn l tx.size):=by
  simp at c1 c2 c3 c4 c5
  exact ⟨by omega,by omega,by omega,by omega,by omega,by omega,by omega,by omega,c7,by omega⟩
 have HN:Hid (n<=200):=by simp at c6;exact O (by omega)
 have c7:((k == 1)=true/\(l == 0)=false)∨(k == 1)=false:=by
  by_cases h:k=1
  ·left;exact ⟨by simpa using h,by simpa using fun h'=>c7 ⟨h,h'⟩⟩
  right;simpa using h
 rcases c7 with ⟨c7,c8⟩ | c7
 all_goals
  go_enter Tryz.func55,Tryz.ntmps55
  go_wp2_with (go_at_call 124;refine (bZ _ _ _ _).mono ?_;rintro e w1 ⟨rfl,rfl⟩)
  clear c1 c2 c3 c4 c5 c6 c7
  go_loopw [56] (fun i w'=>∃ (j:Nat),j<=n/\i=.int .i64 j/\(∀ i,i<j->(f i).name.size≠0/\(f i).name.size<=40/\(f i).text.size<=4000)/\Below w.heap.size w w') (fun i _=>n - (intOf i).toNat)
  case atStart=>exact ⟨0,by omega,rfl,by omega,Z B0⟩
  case round =>
   obtain ⟨j,hk,rfl,hq,hb⟩:=hrel
   have HQ:=O hq;clear hq
   by_cases hlt:j<n
   ·obtain ⟨_,_,e,_,hv⟩:=(Z HV).below hb
    cases e
    obtain ⟨b,o,rfl,hc1,hc2,hs1,hs2,-⟩:=hv j hlt
    clear hv
    have hb2:=O (hb.alloc hb.size (.cells #[.string (f j).name,.string (f j).text] 40))
    unfold maxLen at hs1 hs2
    by_cases e1:(((f j).name.size:Int) == 0)=true
    ·go_wp2
     go_ret
     exact ⟨bS.no (fun h=>(h.2.2 j hlt).1 (by simpa using e1)),Z hb2⟩
    have e1:(((f j).name.size:Int) == 0)=false:=by simpa using e1
    by_cases e2:decide ((40:Int)<((f j).name.size:Int))=true
    ·go_wp2
     go_ret
     exact ⟨bS.no (fun h=>by have:=(h.2.2 j hlt).2.1;simp at e2;omega),Z hb2⟩
    have e2:decide ((40:Int)<((f j).name.size:Int))=false:=by simpa using e2
    by_cases e3:decide ((4000:Int)<((f j).text.size:Int))=true
    ·go_wp2
     go_ret
     exact ⟨bS.no (fun h=>by have:=(h.2.2 j hlt).2.2;simp at e3;omega),Z hb2⟩
    have e3:decide ((4000:Int)<((f j).text.size:Int))=false:=by simpa using e3
    go_wp2
    go_roundw
    case rel =>
     refine ⟨j+1,by omega,by go_num,fun i hi=>?_,Z hb2⟩
     by_cases hik:i<j
     ·exact Z HQ i hik
     have e:i=j:=by omega
     rw [e]
     refine ⟨fun h=>?_,?_,?_⟩
     ·rw [h] at e1;simp at e1
     ·simp at e2;omega
     simp at e3;omega
    case measure=>simp [intOf];omega
   go_wp2
   go_ret
   exact ⟨bS.yes ⟨Z HO,Z HN,fun i hi=>Z HQ i (by omega)⟩,hb⟩
theorem varsOk_any (lo:Nat) (v:Value) (n:Nat) (f:Nat->V) (w:World) (hv:fN lo w v n f) :
  Calls Tryz.prog 142 #[v] w fun e w'=>bS (VarsOk n f) e/\Below w.heap.size w w':=by
 have HV:=O hv
 obtain ⟨a,cap,rfl,hn,-⟩:=hv
 unfold maxLen at hn
 by_cases c6:(decide ((200:Int)<(n:Int)))=true
 ·go_enter Tryz.func142,Tryz.ntmps142
  go_wp2
  go_ret
  exact ⟨bS.no (fun h=>by have:=h.1;simp at c6;omega),Below.refl _ _⟩
 have c6:(decide ((200:Int)<(n:Int)))=false:=by simpa using c6
 have HN:Hid (n<=200):=by simp at c6;exact O (by omega)
 go_enter Tryz.func142,Tryz.ntmps142
 go_wp2
 go_loopw [10] (fun i w'=>∃ (j:Nat),j<=n/\i=.int .i64 j/\(∀ i,i<j->(f i).name.size≠0/\(f i).name.size<=40/\(f i).text.size<=4000)/\Below w.heap.size w w') (fun i _=>n - (intOf i).toNat)
 case atStart=>exact ⟨0,by omega,rfl,by omega,Below.refl _ _⟩
 case round =>
  obtain ⟨j,hk,rfl,hq,hb⟩:=hrel
  have HQ:=O hq;clear hq
  by_cases hlt:j<n
  ·obtain ⟨_,_,e,_,hv⟩:=(Z HV).below hb
   cases e
   obtain ⟨b,o,rfl,hc1,hc2,hs1,hs2,-⟩:=hv j hlt
   clear hv
   have hb2:=O (hb.alloc hb.size (.cells #[.string (f j).name,.string (f j).text] 40))
   unfold maxLen at hs1 hs2
   by_cases e1:decide (((f j).name.size:Int)<1)=true
   ·go_wp2
    go_ret
    exact ⟨bS.no (fun h=>(h.2 j hlt).1 (by simp at e1;omega)),Z hb2⟩
   have e1:decide (((f j).name.size:Int)<1)=false:=by simpa using e1
   by_cases e2:decide ((40:Int)<((f j).name.size:Int))=true
   ·go_wp2
    go_ret
    exact ⟨bS.no (fun h=>by have:=(h.2 j hlt).2.1;simp at e2;omega),Z hb2⟩
   have e2:decide ((40:Int)<((f j).name.size:Int))=false:=by simpa using e2
   by_cases e3:decide ((4000:Int)<((f j).text.size:Int))=true
   ·go_wp2
    go_ret
    exact ⟨bS.no (fun h=>by have:=(h.2 j hlt).2.2;simp at e3;omega),Z hb2⟩
   have e3:decide ((4000:Int)<((f j).text.size:Int))=false:=by simpa using e3
   go_wp2
   go_roundw
   case rel =>
    refine ⟨j+1,by omega,by go_num,fun i hi=>?_,Z hb2⟩
    by_cases hik:i<j
    ·exact Z HQ i hik
    have e:i=j:=by omega
    rw [e]
    refine ⟨fun h=>?_,?_,?_⟩
    ·rw [h] at e1;simp at e1
    ·simp at e2;omega
    simp at e3;omega
   case measure=>simp [intOf];omega
  go_wp2
  go_ret
  exact ⟨bS.yes ⟨Z HN,fun i hi=>Z HQ i (by omega)⟩,hb⟩
theorem momentOk_any (lo nf:Nat) (k t fn l:Int) (tx:ByteArray) (v:Value) (n:Nat) (f:Nat->V) (w:World) (ht:tx.size<=maxLen) (hv:fN lo w v n f) :
  Calls Tryz.prog 102 #[.agg #[.int .i64 k,.int .i64 t,.int .i64 fn,.int .i64 l,.string tx,v],.int .i64 nf] w fun e w'=>bS (fG nf k t fn l tx.size/\VarsOk n f) e/\Below w.heap.size w w':=by
 have HV:=O hv;clear hv
 unfold maxLen at ht
 have B0:=O ((Below.refl w.heap.size w).alloc (Nat.le_refl _) (.cells #[.int .i64 k,.int .i64 t,.int .i64 fn,.int .i64 l,.string tx,v] 108))
 by_cases c1:(decide (k<1))=true
 ·go_enter Tryz.func102,Tryz.ntmps102
  go_wp2
  go_ret
  exact ⟨bS.no (fun h=>by have:=h.1;unfold fG at this;simp at c1;omega),Z B0⟩
 have c1:(decide (k<1))=false:=by simpa using c1
 by_cases c2:(decide (7<k))=true
 ·go_enter Tryz.func102,Tryz.ntmps102
  go_wp2
  go_ret
  exact ⟨bS.no (fun h=>by have:=h.1;unfold fG at this;simp at c2;omega),Z B0⟩
 have c2:(decide (7<k))=false:=by simpa using c2
 by_cases c3:(decide (t<0))=true
 ·go_enter Tryz.func102,Tryz.ntmps102
  go_wp2
  go_ret
  exact ⟨bS.no (fun h=>by have:=h.1;unfold fG at this;simp at c3;omega),Z B0⟩
 have c3:(decide (t<0))=false:=by simpa using c3
 by_cases c4:(decide (101<=t))=true
 ·go_enter Tryz.func102,Tryz.ntmps102
  go_wp2
  go_ret
  exact ⟨bS.no (fun h=>by have:=h.1;unfold fG at this;simp at c4;omega),Z B0⟩
 have c4:(decide (101<=t))=false:=by simpa using c4
 by_cases c5:(decide (fn<0))=true
 ·go_enter Tryz.func102,Tryz.ntmps102
  go_wp2
  go_ret
  exact ⟨bS.no (fun h=>by have:=h.1;unfold fG at this;simp at c5;omega),Z B0⟩
 have c5:(decide (fn<0))=false:=by simpa using c5
 by_cases c6:(decide ((nf:Int)<=fn))=true
 ·go_enter Tryz.func102,Tryz.ntmps102
  go_wp2
  go_ret
  exact ⟨bS.no (fun h=>by have:=h.1;unfold fG at this;simp at c6;omega),Z B0⟩
 have c6:(decide ((nf:Int)<=fn))=false:=by simpa using c6
 by_cases c7:(decide (l<0))=true
 ·go_enter Tryz.func102,Tryz.ntmps102
  go_wp2
  go_ret
  exact ⟨bS.no (fun h=>by have:=h.1;unfold fG at this;simp at c7;omega),Z B0⟩
 have c7:(decide (l<0))=false:=by simpa using c7
 by_cases c8:(decide (100000<l))=true
 ·go_enter Tryz.func102,Tryz.ntmps102
  go_wp2
  go_ret
  exact ⟨bS.no (fun h=>by have:=h.1;unfold fG at this;simp at c8;omega),Z B0⟩
 have c8:(decide (100000<l))=false:=by simpa using c8
 by_cases c9:k=1/\l=0
 ·have d8:(k == 1)=true:=by simpa using c9.1
  have d9:(l == 0)=true:=by simpa using c9.2
  have C9:=O c9;clear c9
  go_enter Tryz.func102,Tryz.ntmps102
  go_wp2
  go_ret
  exact ⟨bS.no (fun h=>by have:=h.1;unfold fG at this;exact this.2.2.2.2.2.2.2.2.1 (Z C9)),Z B0⟩
 have C9:=O c9
 have c9:((k == 1)=true/\(l == 0)=false)∨(k == 1)=false:=by
  by_cases h:k=1
  ·left;exact ⟨by simpa using h,by simpa using fun h'=>c9 ⟨h,h'⟩⟩
  right;simpa using h
 by_cases c10:decide ((tx.size:Int)<=4000)=false
 ·rcases c9 with ⟨c9,d9⟩ | c9
  all_goals
   go_enter Tryz.func102,Tryz.ntmps102
   go_wp2
   go_ret
   exact ⟨bS.no (fun h=>by have:=h.1;unfold fG at this;simp at c10;omega),Z B0⟩
 have c10:decide ((tx.size:Int)<=4000)=true:=by simpa using c10
 have HO:Hid (fG nf k t fn l tx.size):=by
  simp at c1 c2 c3 c4 c5 c6 c7 c8 c10
  exact ⟨by omega,by omega,by omega,by omega,by omega,by omega,by omega,by omega,Z C9,by omega⟩
 rcases c9 with ⟨c9,d9⟩ | c9
 all_goals
  go_enter Tryz.func102,Tryz.ntmps102
  go_wp2_with fail
  refine (varsOk_any lo _ n f _ ((Z HV).below (by exact Z B0))).mono ?_
  rintro e w1 ⟨⟨b,rfl,hbv⟩,hb1⟩
  have B1:=hT B0 hb1;clear hb1
  have HBV:=O hbv;clear hbv
  go_wp2
  go_ret
  refine ⟨⟨b,rfl,?_⟩,Z B1⟩
  rw [Z HBV]
  exact ⟨fun h=>⟨Z HO,h⟩,fun h=>h.2⟩
def cA (l:List Fr):List Value:=l.flatMap fun f=>[.int .i64 f.fn,.int .i64 f.line,.int .i64 f.frm]
structure dV (B:Nat) (w:World) (ps bt:Nat) (V:Nat->Value) (s:St):Prop where
 hp:B<=ps
 hbt:B<=bt
 ne:ps≠bt
 c0:w.cell? ⟨ps,0,none⟩=some (.slice (some ⟨bt,0,none⟩) 101 101)
 c1:w.cell? ⟨ps,1,none⟩=some (.int .i64 s.cur)
 fz:w.frozen? ⟨ps,1,none⟩=false
 row:w.rowIs bt 35 101 V
 own:∀ t,t<101->w.ownsRow B 42 3 (V t) (s.tasks t).length (cA (s.tasks t).reverse)
 nps:∀ t,t<101->(V t).ownBlock≠some ps
 nbt:∀ t,t<101->(V t).ownBlock≠some bt
 dis:∀ t t',t<101->t' < 101->t≠t'->(V t).ownBlock=none∨(V t).ownBlock≠(V t').ownBlock
 cur:s.cur<101
 len:∀ t,t<101->(s.tasks t).length<=200
def cG (B:Nat) (w:World) (ps:Nat) (s:St):Prop:=∃ bt V,dV B w ps bt V s
theorem bR {w:World} {B:Nat} {e:TypeId} {z:Nat} {v:Value} {n:Nat} {xs:List Value} (h:w.ownsRow B e z v n xs):∃ a cap,v=.slice a n cap:=by
 rcases h.2 with ⟨rfl,rfl⟩ | ⟨g,cap,_,rfl,_⟩
 ·exact ⟨none,0,rfl⟩
 exact ⟨_,cap,rfl⟩
theorem tG (l:List Fr):(cA l).length=l.length*3:=by
 induction l with
 | nil=>rfl
 | cons f r ih=>simp only [cA,List.flatMap_cons,List.length_append,List.length_cons,List.length_nil] at *;omega
theorem gQ (a b:List Fr):cA (a ++ b)=cA a ++ cA b:=by simp [cA]
theorem bL {w:World} {B:Nat} {e:TypeId} {z:Nat} {g:Nat} {n cap:Nat} {xs:List Value} (h:w.ownsRow B e z (.slice (some ⟨g,0,none⟩) n cap) n xs) (j:Nat) (u:Value) (hu:xs[j]?=some u) :
  w.cell? ⟨g,j,none⟩=some u/\w.frozen? ⟨g,j,none⟩=false:=by
 rcases h.2 with ⟨h,_⟩ | ⟨g',cap',cur,hv,_,hg,_,_,_,ht⟩
 ·cases h
 cases hv
 rw [<- ht,List.getElem?_take] at hu
 split at hu
 ·refine ⟨?_,by simp [World.frozen?,hg]⟩
  simp only [World.cell?,hg]
  simpa using hu
 cases hu
theorem pV {w:World} {B:Nat} {e:TypeId} {v:Value} {f:Fr} {r:List Fr} (h:w.ownsRow B e 3 v (f :: r).length (cA (f :: r).reverse)) :
  ∃ g cap,v=.slice (some ⟨g,0,none⟩) (r.length+1) cap/\B<=g/\g<w.heap.size/\w.cell? ⟨g,r.length*3,none⟩=some (.int .i64 f.fn)/\w.cell? ⟨g,r.length*3+1,none⟩=some (.int .i64 f.line)/\w.cell? ⟨g,r.length*3+2,none⟩=some (.int .i64 f.frm) /\
   w.frozen? ⟨g,r.length*3+1,none⟩=false:=by
 have h':=h
 rcases h.2 with ⟨_,h0⟩ | ⟨g,cap,cur,rfl,hB,hg,_⟩
 ·simp at h0
 have e1:cA (f :: r).reverse=cA r.reverse ++ [.int .i64 f.fn,.int .i64 f.line,.int .i64 f.frm]:=by rw [List.reverse_cons,gQ];rfl
 have hl:(cA r.reverse).length=r.length*3:=by rw [tG,List.length_reverse]
 rw [e1] at h'
 refine ⟨g,cap,rfl,hB,(Array.getElem?_eq_some_iff.1 hg).1,(bL h' _ _ ?_).1,(bL h' _ _ ?_).1,(bL h' _ _ ?_).1,(bL h' (r.length*3+1) (.int .i64 f.line) ?_).2⟩
 ·rw [List.getElem?_append_right (by omega),hl];simp
 ·rw [List.getElem?_append_right (by omega),hl];simp
 ·rw [List.getElem?_append_right (by omega),hl];simp
 rw [List.getElem?_append_right (by omega),hl];simp
theorem dV.grown {B:Nat} {w w':World} {ps bt:Nat} {V:Nat->Value} {s:St} (h:dV B w ps bt V s) (hb:Below w.heap.size w w'):dV B w' ps bt V s:=by
 have hg:w.grownBy w' none:=⟨hb.os,hb.tape,hb.output,hb.size,fun k hk _=>hb.block k hk⟩
 refine ⟨h.hp,h.hbt,h.ne,bG hb h.c0,bG hb h.c1,?_,h.row.of_block (hb.block _ h.row.lt),fun t ht=>(h.own t ht).kept hg ?_,h.nps,h.nbt,h.dis,h.cur,h.len⟩
 ·rw [hb.frozen (bV h.c1)];exact h.fz
 by_cases e:(V t).ownBlock=none
 ·exact .inl e
 exact .inr e
theorem cG.below {B:Nat} {w w':World} {ps:Nat} {s:St} (hb:Below w.heap.size w w') (h:cG B w ps s):cG B w' ps s:=by
 obtain ⟨bt,V,h⟩:=h
 exact ⟨bt,V,h.grown hb⟩
theorem fZ (B ps:Nat) (s:St) (w:World) (h:cG B w ps s) :
  Calls Tryz.prog 86 #[.pointer (some ⟨ps,0,none⟩)] w fun e w'=>e=.returned (.int .i64 ((s.tasks s.cur).length - 1))/\∃ q,w'=w.drewN q:=by
 obtain ⟨bt,V,hh⟩:=h
 have h0:=hh.c0
 have h1:=hh.c1
 have h4:=hh.cur
 obtain ⟨a,cap,hV⟩:=bR (hh.own s.cur h4)
 have hc:=hh.row.cell h4
 rw [hV] at hc
 have hl:=hh.len s.cur h4
 clear hh
 have hi1:(0:Int)<=(s.cur:Int):=by omega
 have hi2:(s.cur:Int)<101:=by omega
 clear hV
 generalize (s.tasks s.cur).length=n at *
 generalize s.cur=c at *
 go_enter Tryz.func86,Tryz.ntmps86
 go_wp2
 go_quiet (fail)
 go_wp2
 go_ret
 exact ⟨rfl,_,rfl⟩
theorem bP (w:World) (q:Nat):Below w.heap.size w (w.drewN q):=below_drewN (Below.refl _ _) q
theorem rL (B ps:Nat) (s:St) (w:World) (h:cG B w ps s) :
  Calls Tryz.prog 84 #[.pointer (some ⟨ps,0,none⟩)] w fun e w'=>e=.returned (.int .i64 (topFn (s.tasks s.cur)))/\∃ q,w'=w.drewN q:=by
 have H:=O h
 obtain ⟨bt,V,hh⟩:=h
 have h0:=hh.c0
 have h1:=hh.c1
 have h4:=hh.cur
 have hc:=hh.row.cell h4
 have hl:=hh.len s.cur h4
 have ho:=hh.own s.cur h4
 clear hh
 have hi1:(0:Int)<=(s.cur:Int):=by omega
 have hi2:(s.cur:Int)<101:=by omega
 have HT:Hid (∀ q,Calls Tryz.prog 86 #[.pointer (some ⟨ps,0,none⟩)] (w.drewN q) fun e w'=>e=.returned (.int .i64 ((s.tasks s.cur).length - 1))/\∃ q',w'=(w.drewN q).drewN q') :=
  O fun q=>fZ B ps s _ ((Z H).below (bP w q))
 have HT2:Hid (∀ p q,Calls Tryz.prog 86 #[.pointer (some ⟨ps,0,none⟩)] ((w.drewN p).drewN q) fun e w'=>e=.returned (.int .i64 ((s.tasks s.cur).length - 1))/\∃ q',w'=((w.drewN p).drewN q).drewN q') :=
  O fun p q=>fZ B ps s _ (((Z H).below (bP w p)).below (bP (w.drewN p) q))
 cases hs:s.tasks s.cur with
 | nil =>
  clear HT2
  rw [hs] at HT
  have HT0:=O (Z HT 0)
  clear HT ho hc hl hs
  go_enter Tryz.func84,Tryz.ntmps84
  go_wp2_with fail
  refine (show Calls Tryz.prog _ _ w _ from Z HT0).mono ?_
  rintro e w1 ⟨rfl,q,hq⟩
  subst hq
  go_wp2
  go_ret
  exact ⟨rfl,_,rfl⟩
 | cons f r =>
  rw [hs] at HT HT2 ho hl
  obtain ⟨g,cap,hV,-,-,k0,-⟩:=pV ho
  rw [hV] at hc
  clear hs ho hV
  have hl':r.length<200:=by simp at hl;omega
  clear hl
  rw [show (((f :: r).length:Nat):Int) - 1=(r.length:Int) by simp] at HT HT2
  have e2:topFn (f :: r)=f.fn:=rfl
  rw [e2]
  clear e2
  generalize f.fn=fn at *
  generalize r.length=n at *
  generalize s.cur=c at *
  clear H
  go_enter Tryz.func84,Tryz.ntmps84
  go_wp2_with fail
  refine (show Calls Tryz.prog _ _ w _ from Z HT 0).mono ?_
  rintro e w1 ⟨rfl,q,hq⟩
  have hq':w1=w.drewN q:=hq
  have HT3:Hid (∀ m,Calls Tryz.prog 86 #[.pointer (some ⟨ps,0,none⟩)] (w1.drewN m) fun e w'=>e=.returned (.int .i64 (n:Int))/\∃ q',w'=(w1.drewN m).drewN q'):=by
   rw [hq'];exact O (Z HT2 q)
  have h0':w1.cell? ⟨ps,0,none⟩=some (.slice (some ⟨bt,0,none⟩) 101 101):=by rw [hq'];simpa using h0
  have h1':w1.cell? ⟨ps,1,none⟩=some (.int .i64 c):=by rw [hq'];simpa using h1
  have hc':w1.cell? ⟨bt,c,none⟩=some (.slice (some ⟨g,0,none⟩) (n+1) cap):=by rw [hq'];simpa using hc
  have k0':w1.cell? ⟨g,n*3,none⟩=some (.int .i64 fn):=by rw [hq'];simpa using k0
  have HQ:=O hq'
  clear hq hq' HT HT2 h0 h1 hc k0
  go_wp2_with fail
  go_quiet ((go_at_call 86;exact Calls.quiet_of (Z HT3 _)))
  go_wp2
  go_ret
  refine ⟨rfl,?_⟩
  rw [Z HQ]
  exact ⟨_,World.drewN_drewN _ _ _⟩
theorem cM {w:World} {B:Nat} {e:TypeId} {z:Nat} {v:Value} {n:Nat} {xs:List Value} {a:Addr} {u:Value} (h:w.ownsRow B e z v n xs) (hne:v.ownBlock≠some a.block):(w.setCell a u).ownsRow B e z v n xs:=by
 refine ⟨h.1,?_⟩
 rcases h.2 with hn | ⟨g,cap,cur,rfl,hb,hgg,rest⟩
 ·exact .inl hn
 refine .inr ⟨g,cap,cur,rfl,hb,?_,rest⟩
 rw [Below.heap_setCell _ _ _ _ (fun e=>hne (by simp [Value.ownBlock,e]))]
 exact hgg
theorem cG.setCur {B:Nat} {w:World} {ps:Nat} {s:St} (h:cG B w ps s) (t:Nat) (ht:t<101):cG B (w.setCell ⟨ps,1,none⟩ (.int .i64 t)) ps ⟨t,s.tasks⟩:=by
 obtain ⟨bt,V,h⟩:=h
 refine ⟨bt,V,h.hp,h.hbt,h.ne,?_,World.cell?_setCell_same _ _ _ h.c1,by rw [World.frozen?_setCell];exact h.fz,h.row.setOther (fun e=>h.ne e.symm) _,fun t ht=>cM (h.own t ht) (h.nps t ht),h.nps,h.nbt,h.dis,ht,h.len⟩
 rw [World.cell?_setCell_other _ _ _ _ (by simp)];exact h.c0
theorem dV.putRow {B:Nat} {w w2:World} {ps bt:Nat} {V:Nat->Value} {s:St} {l:List Fr} {v':Value} {g:Nat} (h:dV B w ps bt V s) (hg:w.grownBy w2 (V s.cur).ownBlock)
  (ho:w2.ownsRow B 42 3 v' l.length (cA l.reverse)) (hv:v'.ownBlock=some g) (hat:(V s.cur).ownBlock=some g∨w.heap.size<=g) (hl:l.length<=200) :
  dV B (w2.setCell ⟨bt,s.cur,none⟩ v') ps bt (fun t=>if t=s.cur then v' else V t) (s.put l):=by
 have hps:ps<w.heap.size:=bV h.c0
 have hbt:=h.row.lt
 have n1:some ps≠(V s.cur).ownBlock:=fun e=>h.nps _ h.cur e.symm
 have n2:some bt≠(V s.cur).ownBlock:=fun e=>h.nbt _ h.cur e.symm
 have hgb:∀ t,t<101->∀ k,(V t).ownBlock=some k->k<w.heap.size:=fun t ht k hk=>((h.own t ht).lt k hk).2
 have hgp:g≠ps:=fun e=>by
  rcases hat with h1 | h1
  ·exact n1 (by rw [h1,e])
  omega
 have hgt:g≠bt:=fun e=>by
  rcases hat with h1 | h1
  ·exact n2 (by rw [h1,e])
  omega
 refine ⟨h.hp,h.hbt,h.ne,?_,?_,?_,?_,fun t ht=>?_,fun t ht=>?_,fun t ht=>?_,fun t t' ht ht' hne=>?_,h.cur,fun t ht=>?_⟩
 ·exact bJ (fun e=>h.ne e.symm) (hg.cell h.c0 n1)
 ·exact bJ (fun e=>h.ne e.symm) (hg.cell h.c1 n1)
 ·rw [World.frozen?_setCell,World.frozen?_of_block (hg.block ps hps n1)];exact h.fz
 ·exact (h.row.of_block (hg.block bt hbt n2)).set s.cur v'
 ·show (w2.setCell _ _).ownsRow B _ 3 (if t=s.cur then v' else V t) (if t=s.cur then l else s.tasks t).length (cA (if t=s.cur then l else s.tasks t).reverse)
  by_cases e:t=s.cur
  ·rw [if_pos e,if_pos e]
   exact cM ho (by rw [hv];simpa using hgt)
  rw [if_neg e,if_neg e]
  exact cM ((h.own t ht).kept hg (h.dis t s.cur ht h.cur e)) (h.nbt t ht)
 ·by_cases e:t=s.cur
  ·rw [if_pos e,hv];simpa using hgp
  rw [if_neg e];exact h.nps t ht
 ·by_cases e:t=s.cur
  ·rw [if_pos e,hv];simpa using hgt
  rw [if_neg e];exact h.nbt t ht
 ·by_cases e:t=s.cur
  ·by_cases e':t'=s.cur
   ·exact absurd (e.trans e'.symm) hne
   rw [if_pos e,if_neg e',hv]
   right
   intro h1
   rcases hat with h2 | h2
   ·rcases h.dis t' s.cur ht' h.cur e' with h3 | h3
    ·rw [h3] at h1;cases h1
    exact h3 (by rw [<- h1,h2])
   have:=hgb t' ht' g h1.symm;omega
  by_cases e':t'=s.cur
  ·rw [if_neg e,if_pos e',hv]
   by_cases h0:(V t).ownBlock=none
   ·exact .inl h0
   right
   intro h1
   rcases hat with h2 | h2
   ·rcases h.dis t s.cur ht h.cur e with h3 | h3
    ·exact h0 h3
    exact h3 (by rw [h1,h2])
   have:=hgb t ht g h1;omega
  rw [if_neg e,if_neg e'];exact h.dis t t' ht ht' hne
 show (if t=s.cur then l else s.tasks t).length<=200
 by_cases e:t=s.cur
 ·rw [if_pos e];exact hl
 rw [if_neg e];exact h.len t ht
def gD (ps:Nat) (w w':World):Prop :=
 ∀ b cs e fr,w.heap[b]?=some (.cells cs e fr)->b≠ps->e≠42->e≠35->w'.heap[b]?=w.heap[b]?
theorem gD.of_below {ps:Nat} {w w':World} (hb:Below w.heap.size w w'):gD ps w w':=fun b _ _ _ h _ _ _=>hb.block b (Array.getElem?_eq_some_iff.1 h).1
theorem gD.drew {ps:Nat} {w w':World} (h:gD ps w w'):gD ps w w'.drew:=h
theorem gD.of_out {ps:Nat} {w w':World} (X:Nat->Prop) (h1:∀ b,b<w.heap.size->¬ X b->w'.heap[b]?=w.heap[b]?)
  (h2:∀ b,X b->b=ps∨(∃ cs fr,w.heap[b]?=some (.cells cs 42 fr))∨∃ cs fr,w.heap[b]?=some (.cells cs 35 fr)):gD ps w w':=by
 intro b cs e fr h hp n1 n2
 refine h1 b (Array.getElem?_eq_some_iff.1 h).1 (fun hx=>?_)
 rcases h2 b hx with e1 | ⟨cs',fr',e1⟩ | ⟨cs',fr',e1⟩
 ·exact hp e1
 ·rw [h] at e1;cases e1;exact n1 rfl
 rw [h] at e1;cases e1;exact n2 rfl
def Kinds (w:World) (bt:Nat) (V:Nat->Value):Prop :=
 (∃ cs fr,w.heap[bt]?=some (.cells cs 35 fr))/\∀ t,t<101->∀ b,(V t).ownBlock=some b->∃ cs fr,w.heap[b]?=some (.cells cs 42 fr)
theorem dV.kinds {B:Nat} {w:World} {ps bt:Nat} {V:Nat->Value} {s:St} (h:dV B w ps bt V s):Kinds w bt V:=by
 refine ⟨?_,fun t ht b hb=>?_⟩
 ·obtain ⟨c,hc,_⟩:=h.row
  exact ⟨c,_,hc⟩
 rcases (h.own t ht).2 with ⟨e,_⟩ | ⟨g,cap,cur,e,_,hg,_⟩
 ·rw [e] at hb;cases hb
 rw [e] at hb;cases hb;exact ⟨cur,_,hg⟩
def tC (B:Nat) (w:World) (ps:Nat) (s:St) (k t fn l i:Int) (e:Ending) (w':World):Prop :=
 e=.returned (.int .i64 (code s k t fn))/\(code s k t fn=0->cG B w' ps (s.step k t fn l i))/\Below B w w'/\gD ps w w'
theorem cG.base {B:Nat} {w:World} {ps:Nat} {s:St} (h:cG B w ps s):B<=w.heap.size:=by
 obtain ⟨bt,V,h⟩:=h
 exact Nat.le_of_lt (Nat.lt_of_le_of_lt h.hp (bV h.c0))
theorem move_turn (B ps:Nat) (s:St) (t fn l i:Int) (tx:ByteArray) (v:Value) (w:World) (h:cG B w ps s) (h1:0<=t) (h2:t<=100) :
  Calls Tryz.prog 57 #[.pointer (some ⟨ps,0,none⟩),.agg #[.int .i64 7,.int .i64 t,.int .i64 fn,.int .i64 l,.string tx,v],.int .i64 i] w (tC B w ps s 7 t fn l i):=by
 have H:=O h
 have hB:=O h.base
 obtain ⟨bt,V,hh⟩:=h
 have hp:=hh.hp
 have h0:=hh.c0
 have hc1:=hh.c1
 have hf:=hh.fz
 clear hh
 have hz:=bV h0
 simp only at hz
 obtain ⟨n,rfl⟩:=Int.eq_ofNat_of_zero_le h1
 go_enter Tryz.func57,Tryz.ntmps57
 go_wp2
 go_ret
 refine ⟨rfl,fun _=>?_,?_,?_⟩
 ·have e:s.step 7 (n:Int) fn l i=⟨n,s.tasks⟩:=by simp [St.step]
  rw [e]
  exact ((Z H).setCur n (by omega)).below ((Below.refl _ _).alloc (Nat.le_refl _) _)
 ·exact ((Below.refl _ _).setCell (p:=⟨ps,1,none⟩) hp _).alloc (by simpa using Z hB) _
 refine gD.of_out (fun b=>b=ps) (fun b hb hx=>?_) (fun b hx=>.inl hx)
 rw [Below.heap_alloc _ _ _ (by simpa using hb),Below.heap_setCell _ _ _ _ hx]
theorem move_task (B ps:Nat) (s:St) (k t fn l i:Int) (tx:ByteArray) (v:Value) (w:World) (h:cG B w ps s) (hk:(k == 7)=false) (ht:t≠s.cur) :
  Calls Tryz.prog 57 #[.pointer (some ⟨ps,0,none⟩),.agg #[.int .i64 k,.int .i64 t,.int .i64 fn,.int .i64 l,.string tx,v],.int .i64 i] w (tC B w ps s k t fn l i):=by
 have H:=O h
 have hB:=O h.base
 obtain ⟨bt,V,hh⟩:=h
 have hp:=hh.hp
 have h0:=hh.c0
 have hc1:=hh.c1
 have hf:=hh.fz
 clear hh
 have hz:=bV h0
 simp only at hz
 have e3:code s k t fn=3:=by
  have:k≠7:=by simpa using hk
  simp [code,this,ht]
 have E3:=O e3;clear e3
 have htt:(t != (s.cur:Int))=true:=by simpa using ht
 have HT:=O ht;clear ht
 have hne:ps≠w.heap.size:=by omega
 go_enter Tryz.func57,Tryz.ntmps57
 go_wp2
 go_quiet (fail)
 go_wp2
 go_ret
 refine ⟨by rw [Z E3];rfl,fun h=>?_,?_,?_⟩
 ·rw [Z E3] at h;cases h
 ·exact below_drewN ((Below.refl _ _).alloc (Z hB) _) _
 exact gD.of_below (below_drewN ((Below.refl _ _).alloc (Nat.le_refl _) _) _)
end Go.Proofs.YtmnmeaeicjhkhaaGreatDoor
