import Derived.Test.YtmnmeaeicjhkhaaGreatDoorGE0x
set_option maxRecDepth 100000
set_option maxHeartbeats 16000000
namespace Go.Proofs.YtmnmeaeicjhkhaaGreatDoor
open Go.RowKit
theorem dE {P:Prop} (h:¬ P:=by intro h;unfold qN at h;first | (simp_all<;>omega;done) | (have G:=of_decide_eq_false g0;have K:=eq_of_beq k1;dsimp only at h;obtain ⟨_,_,h⟩:=h;rcases h with ⟨a,b⟩ | ⟨a,b⟩ | ⟨a,b⟩ | ⟨a,b⟩<;>first | omega | exact G ⟨b.1,b.2.1⟩)):bS P (.returned (.bool false)):=bS.no h
theorem pY (kd fn line:Int) (name:ByteArray) (w:World) (hz:name.size<=maxLen) :
  Calls Tryz.prog 192 #[.agg #[.int .i64 kd,.int .i64 fn,.int .i64 line,.string name]] w fun e w'=>bS (qN ⟨kd,fn,line,name⟩) e/\Below w.heap.size w w':=by
 unfold maxLen at hz
 have B0:=O ((Below.refl w.heap.size w).alloc (Nat.le_refl _) (.cells #[.int .i64 kd,.int .i64 fn,.int .i64 line,.string name] 45))
 by_cases f0:(decide (fn<0))=true
 ·as_aux_lemma =>
   go_enter Tryz.func192,Tryz.ntmps192
   go_wp2
   go_ret
   exact ⟨dE,Z B0⟩
 have f0:(decide (fn<0))=false:=Bool.of_not_eq_true f0
 by_cases f1:(decide (300<=fn))=true
 ·as_aux_lemma =>
   go_enter Tryz.func192,Tryz.ntmps192
   go_wp2
   go_ret
   exact ⟨dE,Z B0⟩
 have f1:(decide (300<=fn))=false:=Bool.of_not_eq_true f1
 by_cases hn:name=ByteArray.empty
 ·subst hn
  by_cases k1:(kd == 1)=true
  ·by_cases g0:(decide (1<=line))=false
   ·as_aux_lemma =>
     go_enter Tryz.func192,Tryz.ntmps192
     go_wp2
     go_ret
     exact ⟨dE,Z B0⟩
   have g0:(decide (1<=line))=true:=Bool.of_not_eq_false g0
   by_cases g1:(decide (line<=100000))=false
   ·as_aux_lemma =>
     go_enter Tryz.func192,Tryz.ntmps192
     go_wp2
     go_ret
     exact ⟨dE,Z B0⟩
   have g1:(decide (line<=100000))=true:=Bool.of_not_eq_false g1
   as_aux_lemma =>
    go_enter Tryz.func192,Tryz.ntmps192
    go_wp2
    go_ret
    exact ⟨bS.yes (by have F0:=of_decide_eq_false f0;have F1:=of_decide_eq_false f1;have G0:=of_decide_eq_true g0;have G1:=of_decide_eq_true g1;have K:=eq_of_beq k1;exact ⟨by dsimp only;omega,by dsimp only;omega,.inl ⟨K,by dsimp only;omega,by dsimp only;omega,rfl⟩⟩),Z B0⟩
  have k1:(kd == 1)=false:=Bool.of_not_eq_true k1
  by_cases k2:(kd == 2)=true
  ·by_cases g0:(line == 0)=false
   ·as_aux_lemma =>
     go_enter Tryz.func192,Tryz.ntmps192
     go_wp2
     go_ret
     exact ⟨dE,Z B0⟩
   have g0:(line == 0)=true:=Bool.of_not_eq_false g0
   as_aux_lemma =>
    go_enter Tryz.func192,Tryz.ntmps192
    go_wp2
    go_ret
    exact ⟨bS.yes (by have F0:=of_decide_eq_false f0;have F1:=of_decide_eq_false f1;have G0:=eq_of_beq g0;have K:=eq_of_beq k2;exact ⟨by dsimp only;omega,by dsimp only;omega,.inr (.inl ⟨K,by dsimp only;omega,rfl⟩)⟩),Z B0⟩
  have k2:(kd == 2)=false:=Bool.of_not_eq_true k2
  by_cases k3:(kd == 3)=true
  ·by_cases g0:(line == 0)=false
   ·as_aux_lemma =>
     go_enter Tryz.func192,Tryz.ntmps192
     go_wp2
     go_ret
     exact ⟨dE,Z B0⟩
   have g0:(line == 0)=true:=Bool.of_not_eq_false g0
   as_aux_lemma =>
    go_enter Tryz.func192,Tryz.ntmps192
    go_wp2
    go_ret
    exact ⟨dE,Z B0⟩
  have k3:(kd == 3)=false:=Bool.of_not_eq_true k3
  by_cases k4:(kd == 4)=true
  ·by_cases g0:(fn == 0)=false
   ·as_aux_lemma =>
     go_enter Tryz.func192,Tryz.ntmps192
     go_wp2
     go_ret
     exact ⟨dE,Z B0⟩
   have g0:(fn == 0)=true:=Bool.of_not_eq_false g0
   by_cases g1:(line == 0)=false
   ·as_aux_lemma =>
     go_enter Tryz.func192,Tryz.ntmps192
     go_wp2
     go_ret
     exact ⟨dE,Z B0⟩
   have g1:(line == 0)=true:=Bool.of_not_eq_false g1
   as_aux_lemma =>
    go_enter Tryz.func192,Tryz.ntmps192
    go_wp2
    go_ret
    exact ⟨bS.yes (by have F0:=of_decide_eq_false f0;have F1:=of_decide_eq_false f1;have G0:=eq_of_beq g0;have G1:=eq_of_beq g1;have K:=eq_of_beq k4;exact ⟨by dsimp only;omega,by dsimp only;omega,.inr (.inr (.inr ⟨K,by dsimp only;omega,by dsimp only;omega,rfl⟩))⟩),Z B0⟩
  have k4:(kd == 4)=false:=Bool.of_not_eq_true k4
  as_aux_lemma =>
   go_enter Tryz.func192,Tryz.ntmps192
   go_wp2
   go_ret
   exact ⟨dE,Z B0⟩
 have n1:¬ name.toList=[]:=fun e=>hn ((toList_nil_iff_emptyBytes name).1 e)
 have n2:name.size≠0:=fun e=>hn (by cases name;rename_i d;simp [ByteArray.size] at e;subst e;rfl)
 have n3:name.toList.isEmpty=false:=by simpa using n1
 have n4:decide (0<name.size)=true:=by simp;omega
 by_cases k1:(kd == 1)=true
 ·by_cases g0:(decide (1<=line))=false
  ·as_aux_lemma =>
    go_enter Tryz.func192,Tryz.ntmps192
    go_wp2
    go_ret
    exact ⟨dE,Z B0⟩
  have g0:(decide (1<=line))=true:=Bool.of_not_eq_false g0
  by_cases g1:(decide (line<=100000))=false
  ·as_aux_lemma =>
    go_enter Tryz.func192,Tryz.ntmps192
    go_wp2
    go_ret
    exact ⟨dE,Z B0⟩
  have g1:(decide (line<=100000))=true:=Bool.of_not_eq_false g1
  as_aux_lemma =>
   go_enter Tryz.func192,Tryz.ntmps192
   go_wp2
   go_ret
   exact ⟨dE,Z B0⟩
 have k1:(kd == 1)=false:=Bool.of_not_eq_true k1
 by_cases k2:(kd == 2)=true
 ·by_cases g0:(line == 0)=false
  ·as_aux_lemma =>
    go_enter Tryz.func192,Tryz.ntmps192
    go_wp2
    go_ret
    exact ⟨dE,Z B0⟩
  have g0:(line == 0)=true:=Bool.of_not_eq_false g0
  as_aux_lemma =>
   go_enter Tryz.func192,Tryz.ntmps192
   go_wp2
   go_ret
   exact ⟨dE,Z B0⟩
 have k2:(kd == 2)=false:=Bool.of_not_eq_true k2
 by_cases k3:(kd == 3)=true
 ·by_cases g0:(line == 0)=false
  ·as_aux_lemma =>
    go_enter Tryz.func192,Tryz.ntmps192
    go_wp2
    go_ret
    exact ⟨dE,Z B0⟩
  have g0:(line == 0)=true:=Bool.of_not_eq_false g0
  by_cases g1:(decide (1<=(name.size:Int)))=false
  ·as_aux_lemma =>
    go_enter Tryz.func192,Tryz.ntmps192
    go_wp2
    go_ret
    exact ⟨dE,Z B0⟩
  have g1:(decide (1<=(name.size:Int)))=true:=Bool.of_not_eq_false g1
  by_cases g2:(decide ((name.size:Int)<=40))=false
  ·as_aux_lemma =>
    go_enter Tryz.func192,Tryz.ntmps192
    go_wp2
    go_ret
    exact ⟨dE,Z B0⟩
  have g2:(decide ((name.size:Int)<=40))=true:=Bool.of_not_eq_false g2
  as_aux_lemma =>
   go_enter Tryz.func192,Tryz.ntmps192
   go_wp2
   go_ret
   exact ⟨bS.yes (by have F0:=of_decide_eq_false f0;have F1:=of_decide_eq_false f1;have G0:=eq_of_beq g0;have G1:=of_decide_eq_true g1;have G2:=of_decide_eq_true g2;have K:=eq_of_beq k3;exact ⟨by dsimp only;omega,by dsimp only;omega,.inr (.inr (.inl ⟨K,by dsimp only;omega,by dsimp only;omega,by dsimp only;omega⟩))⟩),Z B0⟩
 have k3:(kd == 3)=false:=Bool.of_not_eq_true k3
 by_cases k4:(kd == 4)=true
 ·by_cases g0:(fn == 0)=false
  ·as_aux_lemma =>
    go_enter Tryz.func192,Tryz.ntmps192
    go_wp2
    go_ret
    exact ⟨dE,Z B0⟩
  have g0:(fn == 0)=true:=Bool.of_not_eq_false g0
  by_cases g1:(line == 0)=false
  ·as_aux_lemma =>
    go_enter Tryz.func192,Tryz.ntmps192
    go_wp2
    go_ret
    exact ⟨dE,Z B0⟩
  have g1:(line == 0)=true:=Bool.of_not_eq_false g1
  as_aux_lemma =>
   go_enter Tryz.func192,Tryz.ntmps192
   go_wp2
   go_ret
   exact ⟨dE,Z B0⟩
 have k4:(kd == 4)=false:=Bool.of_not_eq_true k4
 as_aux_lemma =>
  go_enter Tryz.func192,Tryz.ntmps192
  go_wp2
  go_ret
  exact ⟨dE,Z B0⟩
theorem bG8 (kd fn line:Int) (name:ByteArray) (w:World) (hz:name.size<=maxLen) :
  Calls Tryz.prog 136 #[.agg #[.int .i64 kd,.int .i64 fn,.int .i64 line,.string name]] w fun e w'=>bS (qN ⟨kd,fn,line,name⟩) e/\Below w.heap.size w w':=by
 unfold maxLen at hz
 have B0:=O ((Below.refl w.heap.size w).alloc (Nat.le_refl _) (.cells #[.int .i64 kd,.int .i64 fn,.int .i64 line,.string name] 45))
 by_cases f0:(decide (0<=fn/\fn<=299))=false
 ·as_aux_lemma =>
   go_enter Tryz.func136,Tryz.ntmps136
   go_wp2_with (go_at_call 124;refine (bZ _ _ _ _).mono ?_;rintro e w1 ⟨rfl,rfl⟩)
   go_ret
   exact ⟨dE,Z B0⟩
 have f0:(decide (0<=fn/\fn<=299))=true:=Bool.of_not_eq_false f0
 by_cases hn:name=ByteArray.empty
 ·subst hn
  by_cases k1:(kd == 1)=true
  ·by_cases g0:(decide (1<=line/\line<=100000))=false
   ·as_aux_lemma =>
     go_enter Tryz.func136,Tryz.ntmps136
     go_wp2_with (go_at_call 124;refine (bZ _ _ _ _).mono ?_;rintro e w1 ⟨rfl,rfl⟩)
     go_ret
     exact ⟨dE,Z B0⟩
   have g0:(decide (1<=line/\line<=100000))=true:=Bool.of_not_eq_false g0
   as_aux_lemma =>
    go_enter Tryz.func136,Tryz.ntmps136
    go_wp2_with (go_at_call 124;refine (bZ _ _ _ _).mono ?_;rintro e w1 ⟨rfl,rfl⟩)
    go_ret
    exact ⟨bS.yes (by have F0:=of_decide_eq_true f0;have G0:=of_decide_eq_true g0;have K:=eq_of_beq k1;exact ⟨by dsimp only;omega,by dsimp only;omega,.inl ⟨K,by dsimp only;omega,by dsimp only;omega,rfl⟩⟩),Z B0⟩
  have k1:(kd == 1)=false:=Bool.of_not_eq_true k1
  by_cases k2:(kd == 2)=true
  ·by_cases g0:(line == 0)=false
   ·as_aux_lemma =>
     go_enter Tryz.func136,Tryz.ntmps136
     go_wp2_with (go_at_call 124;refine (bZ _ _ _ _).mono ?_;rintro e w1 ⟨rfl,rfl⟩)
     go_ret
     exact ⟨dE,Z B0⟩
   have g0:(line == 0)=true:=Bool.of_not_eq_false g0
   as_aux_lemma =>
    go_enter Tryz.func136,Tryz.ntmps136
    go_wp2_with (go_at_call 124;refine (bZ _ _ _ _).mono ?_;rintro e w1 ⟨rfl,rfl⟩)
    go_ret
    exact ⟨bS.yes (by have F0:=of_decide_eq_true f0;have G0:=eq_of_beq g0;have K:=eq_of_beq k2;exact ⟨by dsimp only;omega,by dsimp only;omega,.inr (.inl ⟨K,by dsimp only;omega,rfl⟩)⟩),Z B0⟩
  have k2:(kd == 2)=false:=Bool.of_not_eq_true k2
  by_cases k3:(kd == 3)=true
  ·by_cases g0:(line == 0)=false
   ·as_aux_lemma =>
     go_enter Tryz.func136,Tryz.ntmps136
     go_wp2_with (go_at_call 124;refine (bZ _ _ _ _).mono ?_;rintro e w1 ⟨rfl,rfl⟩)
     go_ret
     exact ⟨dE,Z B0⟩
   have g0:(line == 0)=true:=Bool.of_not_eq_false g0
   as_aux_lemma =>
    go_enter Tryz.func136,Tryz.ntmps136
    go_wp2_with (go_at_call 124;refine (bZ _ _ _ _).mono ?_;rintro e w1 ⟨rfl,rfl⟩)
    go_ret
    exact ⟨dE,Z B0⟩
  have k3:(kd == 3)=false:=Bool.of_not_eq_true k3
  by_cases k4:(kd == 4)=true
  ·by_cases g0:(fn == 0)=false
   ·as_aux_lemma =>
     go_enter Tryz.func136,Tryz.ntmps136
     go_wp2_with (go_at_call 124;refine (bZ _ _ _ _).mono ?_;rintro e w1 ⟨rfl,rfl⟩)
     go_ret
     exact ⟨dE,Z B0⟩
   have g0:(fn == 0)=true:=Bool.of_not_eq_false g0
   by_cases g1:(line == 0)=false
   ·as_aux_lemma =>
     go_enter Tryz.func136,Tryz.ntmps136
     go_wp2_with (go_at_call 124;refine (bZ _ _ _ _).mono ?_;rintro e w1 ⟨rfl,rfl⟩)
     go_ret
     exact ⟨dE,Z B0⟩
   have g1:(line == 0)=true:=Bool.of_not_eq_false g1
   as_aux_lemma =>
    go_enter Tryz.func136,Tryz.ntmps136
    go_wp2_with (go_at_call 124;refine (bZ _ _ _ _).mono ?_;rintro e w1 ⟨rfl,rfl⟩)
    go_ret
    exact ⟨bS.yes (by have F0:=of_decide_eq_true f0;have G0:=eq_of_beq g0;have G1:=eq_of_beq g1;have K:=eq_of_beq k4;exact ⟨by dsimp only;omega,by dsimp only;omega,.inr (.inr (.inr ⟨K,by dsimp only;omega,by dsimp only;omega,rfl⟩))⟩),Z B0⟩
  have k4:(kd == 4)=false:=Bool.of_not_eq_true k4
  as_aux_lemma =>
   go_enter Tryz.func136,Tryz.ntmps136
   go_wp2_with (go_at_call 124;refine (bZ _ _ _ _).mono ?_;rintro e w1 ⟨rfl,rfl⟩)
   go_ret
   exact ⟨dE,Z B0⟩
 have n1:¬ name.toList=[]:=fun e=>hn ((toList_nil_iff_emptyBytes name).1 e)
 have n2:name.size≠0:=fun e=>hn (by cases name;rename_i d;simp [ByteArray.size] at e;subst e;rfl)
 have n3:name.toList.isEmpty=false:=by simpa using n1
 have n4:decide (0<name.size)=true:=by simp;omega
 by_cases k1:(kd == 1)=true
 ·by_cases g0:(decide (1<=line/\line<=100000))=false
  ·as_aux_lemma =>
    go_enter Tryz.func136,Tryz.ntmps136
    go_wp2_with (go_at_call 124;refine (bZ _ _ _ _).mono ?_;rintro e w1 ⟨rfl,rfl⟩)
    go_ret
    exact ⟨dE,Z B0⟩
  have g0:(decide (1<=line/\line<=100000))=true:=Bool.of_not_eq_false g0
  as_aux_lemma =>
   go_enter Tryz.func136,Tryz.ntmps136
   go_wp2_with (go_at_call 124;refine (bZ _ _ _ _).mono ?_;rintro e w1 ⟨rfl,rfl⟩)
   go_ret
   exact ⟨dE,Z B0⟩
 have k1:(kd == 1)=false:=Bool.of_not_eq_true k1
 by_cases k2:(kd == 2)=true
 ·by_cases g0:(line == 0)=false
  ·as_aux_lemma =>
    go_enter Tryz.func136,Tryz.ntmps136
    go_wp2_with (go_at_call 124;refine (bZ _ _ _ _).mono ?_;rintro e w1 ⟨rfl,rfl⟩)
    go_ret
    exact ⟨dE,Z B0⟩
  have g0:(line == 0)=true:=Bool.of_not_eq_false g0
  as_aux_lemma =>
   go_enter Tryz.func136,Tryz.ntmps136
   go_wp2_with (go_at_call 124;refine (bZ _ _ _ _).mono ?_;rintro e w1 ⟨rfl,rfl⟩)
   go_ret
   exact ⟨dE,Z B0⟩
 have k2:(kd == 2)=false:=Bool.of_not_eq_true k2
 by_cases k3:(kd == 3)=true
 ·by_cases g0:(line == 0)=false
  ·as_aux_lemma =>
    go_enter Tryz.func136,Tryz.ntmps136
    go_wp2_with (go_at_call 124;refine (bZ _ _ _ _).mono ?_;rintro e w1 ⟨rfl,rfl⟩)
    go_ret
    exact ⟨dE,Z B0⟩
  have g0:(line == 0)=true:=Bool.of_not_eq_false g0
  by_cases g1:(decide ((name.size:Int)<=40))=false
  ·as_aux_lemma =>
    go_enter Tryz.func136,Tryz.ntmps136
    go_wp2_with (go_at_call 124;refine (bZ _ _ _ _).mono ?_;rintro e w1 ⟨rfl,rfl⟩)
    go_ret
    exact ⟨dE,Z B0⟩
  have g1:(decide ((name.size:Int)<=40))=true:=Bool.of_not_eq_false g1
  as_aux_lemma =>
   go_enter Tryz.func136,Tryz.ntmps136
   go_wp2_with (go_at_call 124;refine (bZ _ _ _ _).mono ?_;rintro e w1 ⟨rfl,rfl⟩)
   go_ret
   exact ⟨bS.yes (by have F0:=of_decide_eq_true f0;have G0:=eq_of_beq g0;have G1:=of_decide_eq_true g1;have K:=eq_of_beq k3;exact ⟨by dsimp only;omega,by dsimp only;omega,.inr (.inr (.inl ⟨K,by dsimp only;omega,by dsimp only;omega,by dsimp only;omega⟩))⟩),Z B0⟩
 have k3:(kd == 3)=false:=Bool.of_not_eq_true k3
 by_cases k4:(kd == 4)=true
 ·by_cases g0:(fn == 0)=false
  ·as_aux_lemma =>
    go_enter Tryz.func136,Tryz.ntmps136
    go_wp2_with (go_at_call 124;refine (bZ _ _ _ _).mono ?_;rintro e w1 ⟨rfl,rfl⟩)
    go_ret
    exact ⟨dE,Z B0⟩
  have g0:(fn == 0)=true:=Bool.of_not_eq_false g0
  by_cases g1:(line == 0)=false
  ·as_aux_lemma =>
    go_enter Tryz.func136,Tryz.ntmps136
    go_wp2_with (go_at_call 124;refine (bZ _ _ _ _).mono ?_;rintro e w1 ⟨rfl,rfl⟩)
    go_ret
    exact ⟨dE,Z B0⟩
  have g1:(line == 0)=true:=Bool.of_not_eq_false g1
  as_aux_lemma =>
   go_enter Tryz.func136,Tryz.ntmps136
   go_wp2_with (go_at_call 124;refine (bZ _ _ _ _).mono ?_;rintro e w1 ⟨rfl,rfl⟩)
   go_ret
   exact ⟨dE,Z B0⟩
 have k4:(kd == 4)=false:=Bool.of_not_eq_true k4
 as_aux_lemma =>
  go_enter Tryz.func136,Tryz.ntmps136
  go_wp2_with (go_at_call 124;refine (bZ _ _ _ _).mono ?_;rintro e w1 ⟨rfl,rfl⟩)
  go_ret
  exact ⟨dE,Z B0⟩
end Go.Proofs.YtmnmeaeicjhkhaaGreatDoor
