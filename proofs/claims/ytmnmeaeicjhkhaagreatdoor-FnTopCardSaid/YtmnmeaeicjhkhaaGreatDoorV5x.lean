import Derived.Test.YtmnmeaeicjhkhaaGreatDoorGLx
set_option maxRecDepth 100000
set_option maxHeartbeats 16000000
namespace Go.Proofs.YtmnmeaeicjhkhaaGreatDoor
open Go.RowKit
theorem bL6 (lo:Nat) (v1 v2:Value) (nf:Nat) (fns:Nat->ByteArray) (n:Nat) (f:Nat->M) (a:Option Addr) (l cap:Nat) (w:World) (h1:eE lo w v1 nf fns) (h2:bQ lo w v2 n f) (hs:¬ cB nf fns n f) :
  Calls Tryz.prog 11 #[.agg #[v1,v2],.slice a l cap] w fun e w'=>e=.returned (.slice none 0 0)/\Below w.heap.size w w':=by
 have H1:=O h1;clear h1
 have H2:=O h2;clear h2
 have T0:=O (cS.new w v1 v2)
 go_enter Tryz.func11,Tryz.ntmps11
 go_wp2_with fail
 refine (mU lo _ _ nf fns n f _ ((Z H1).below (Z T0).below) ((Z H2).below (Z T0).below)).mono ?_
 rintro e w1 ⟨⟨pv,c,m,rfl,ha,hp,pa,pn,pc,rfl⟩,hb1⟩
 have BA:=O (bH w1 (.cells #[.int .i64 c,.int .i64 m] 49))
 have T1:=O (((Z T0).go hb1).go (Z BA))
 have hc:c≠0:=fun h=>hs (ha.zero.1.1 h)
 have hcb:(c == 0)=false:=by simpa using hc
 clear hb1 T0 ha hp hc hs
 go_wp2
 go_ret
 exact ⟨rfl,(Z T1).below⟩
end Go.Proofs.YtmnmeaeicjhkhaaGreatDoor
