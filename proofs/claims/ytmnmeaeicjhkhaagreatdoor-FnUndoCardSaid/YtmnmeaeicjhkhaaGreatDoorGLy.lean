import Derived.Test.YtmnmeaeicjhkhaaGreatDoorA4y
import Derived.Test.YtmnmeaeicjhkhaaGreatDoorGIdy
import Derived.Test.YtmnmeaeicjhkhaaGreatDoorGScy
set_option maxRecDepth 100000
set_option maxHeartbeats 16000000
namespace Go.Proofs.YtmnmeaeicjhkhaaGreatDoor
open Go.RowKit
end Go.Proofs.YtmnmeaeicjhkhaaGreatDoor
namespace Go.Proofs.YtmnmeaeicjhkhaaGreatDoor
open Go.RowKit
theorem placeAt_any (lo:Nat) (v:Value) (n:Nat) (f:Nat→M) (k:Int) (w:World) (h:PlacesAt lo w v n f) (hn:n≤3000) (hk1:-1≤k) (hk2:k≤n) :
  Calls Tryz.prog 58 #[v,.int .i64 k] w fun e w'=>(∃ top bw,e=.returned (.agg #[.int .i64 (St.after f (upto n k)).cur,.pointer top,.pointer (some ⟨bw,0,none⟩)])∧PlaceAt w' (St.after f (upto n k)) top bw)∧Below w.heap.size w w':=by
 obtain ⟨xs,ho,hp⟩:=h
 obtain ⟨top,bw,x0,x1,x2,pl⟩:=hp (upto n k) (by unfold upto;omega)
 have ho':=ho
 rcases ho.2 with ⟨_,h0⟩ | ⟨g,cap,cur,rfl,_⟩
 ·omega
 have c0:=(owns_cell ho' _ _ x0).1
 have c1:=(owns_cell ho' _ _ x1).1
 have c2:=(owns_cell ho' _ _ x2).1
 have PL:=hide pl
 clear ho ho' hp x0 x1 x2 pl
 have BA:=hide (below_new w (.cells #[.int .i64 0,.pointer none,.pointer none] 119))
 have c0:=cell_below (uh BA) c0
 have c1:=cell_below (uh BA) c1
 have c2:=cell_below (uh BA) c2
 by_cases hk:k=n
 ·subst hk
  have e:upto n (n:Int)=n:=by unfold upto;omega
  rw [e] at c0 c1 c2 PL ⊢
  clear e
  generalize (St.after f n).cur=cur' at *
  have hu2:(n:Int) < (n:Int) + 1:=by omega
  have hu3:(0:Int)≤(n:Int):=by omega
  go_enter Tryz.func58,Tryz.ntmps58
  go_wp2
  refine bodyPost_ret (v:=.agg #[.int .i64 cur',.pointer top,.pointer (some ⟨bw,0,none⟩)]) (by simp [results,Tryz.results58,go_sem]) rfl ⟨⟨top,bw,rfl,(uh PL).below (below_new _ _)⟩,below_new _ _⟩
 ·obtain ⟨u,rfl⟩:∃ u:Nat,k=(u:Int) - 1:=⟨(k + 1).toNat,by omega⟩
  have e:upto n ((u:Int) - 1)=u:=by unfold upto;omega
  rw [e] at c0 c1 c2 PL ⊢
  clear e
  generalize (St.after f u).cur=cur' at *
  have hu2:(u:Int) < (n:Int) + 1:=by omega
  have hu3:(0:Int)≤(u:Int):=by omega
  have hu4:(u:Int)≤(n:Int):=by omega
  clear hk
  go_enter Tryz.func58,Tryz.ntmps58
  go_wp2
  refine bodyPost_ret (v:=.agg #[.int .i64 cur',.pointer top,.pointer (some ⟨bw,0,none⟩)]) (by simp [results,Tryz.results58,go_sem]) rfl ⟨⟨top,bw,rfl,(uh PL).below (below_new _ _)⟩,below_new _ _⟩
end Go.Proofs.YtmnmeaeicjhkhaaGreatDoor
