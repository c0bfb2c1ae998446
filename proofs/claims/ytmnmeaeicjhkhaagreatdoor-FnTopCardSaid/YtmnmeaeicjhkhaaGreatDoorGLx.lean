import Derived.Test.YtmnmeaeicjhkhaaGreatDoorGAx
import Derived.Test.YtmnmeaeicjhkhaaGreatDoorGIdx
set_option maxRecDepth 100000
set_option maxHeartbeats 16000000
namespace Go.Proofs.YtmnmeaeicjhkhaaGreatDoor
open Go.RowKit
theorem bD5 (lo:Nat) (v1 v2:Value) (nf:Nat) (fns:Nat->ByteArray) (n:Nat) (f:Nat->M) (w:World) (h1:eE lo w v1 nf fns) (h2:bQ lo w v2 n f) :
  Calls Tryz.prog 17 #[.agg #[v1,v2]] w fun e w'=>SaysF nf fns n f e/\Below w.heap.size w w':=by
 have H1:=O h1;clear h1
 have H2:=O h2;clear h2
 have T0:Hid (Two w v1 v2 ((w.alloc (.cells #[v1,v2] 26)).alloc (.cells #[.int .i64 0,.int .i64 0] 49))):=O (Below.refl _ _)
 go_enter Tryz.func17,Tryz.ntmps17
 go_wp2_with fail
 refine (mU lo _ _ nf fns n f _ ((Z H1).below (Z T0).below) ((Z H2).below (Z T0).below)).mono ?_
 rintro e w1 ⟨⟨v',c,m,rfl,ha,-,a,l,cp,rfl⟩,hb1⟩
 have T1:=O ((Z T0).go hb1);clear hb1 T0
 have HA:=O ha;clear ha
 have BA:=O ((Below.refl w1.heap.size w1).alloc (Nat.le_refl _) (.cells #[.int .i64 c,.int .i64 m] 49))
 have T2:=O ((Z T1).go (Z BA))
 have g2:=(Z T2).r0
 have g3:=(Z T2).r1
 have g4:=(Z T2).f0
 have g5:=(Z T2).f1
 go_wp2
 refine bodyPost_ret (v:=.agg #[.int .i64 c,.int .i64 m]) (by simp [results,Tryz.results17,go_sem,g2,g3]) rfl ⟨⟨_,_,rfl,Z HA⟩,?_⟩
 repeat (refine Below.setCell ?_ (by simp) _)
 exact (Z T2).below
theorem jN (lo:Nat) (v:Value) (n:Nat) (f:Nat->M) (k:Int) (w:World) (h:bW lo w v n f) (hn:n<=3000) (hk1:-1<=k) (hk2:k<=n) :
  Calls Tryz.prog 58 #[v,.int .i64 k] w fun e w'=>(∃ top bw,e=.returned (.agg #[.int .i64 (St.after f (cQ n k)).cur,.pointer top,.pointer (some ⟨bw,0,none⟩)])/\cZ w' (St.after f (cQ n k)) top bw)/\Below w.heap.size w w':=by
 obtain ⟨xs,ho,hp⟩:=h
 obtain ⟨top,bw,x0,x1,x2,pl⟩:=hp (cQ n k) (by unfold cQ;omega)
 have ho':=ho
 rcases ho.2 with ⟨_,h0⟩ | ⟨g,cap,cur,rfl,_⟩
 ·omega
 have c0:=(bL ho' _ _ x0).1
 have c1:=(bL ho' _ _ x1).1
 have c2:=(bL ho' _ _ x2).1
 have PL:=O pl
 clear ho ho' hp x0 x1 x2 pl
 have BA:=O (bH w (.cells #[.int .i64 0,.pointer none,.pointer none] 119))
 have c0:=bG (Z BA) c0
 have c1:=bG (Z BA) c1
 have c2:=bG (Z BA) c2
 by_cases hk:k=n
 ·subst hk
  have e:cQ n (n:Int)=n:=by unfold cQ;omega
  rw [e] at c0 c1 c2 PL ⊢
  clear e
  generalize (St.after f n).cur=cur' at *
  have hu2:(n:Int)<(n:Int)+1:=by omega
  have hu3:(0:Int)<=(n:Int):=by omega
  go_enter Tryz.func58,Tryz.ntmps58
  go_wp2
  refine bodyPost_ret (v:=.agg #[.int .i64 cur',.pointer top,.pointer (some ⟨bw,0,none⟩)]) (by simp [results,Tryz.results58,go_sem]) rfl ⟨⟨top,bw,rfl,(Z PL).below (bH _ _)⟩,bH _ _⟩
 obtain ⟨u,rfl⟩:∃ u:Nat,k=(u:Int) - 1:=⟨(k+1).toNat,by omega⟩
 have e:cQ n ((u:Int) - 1)=u:=by unfold cQ;omega
 rw [e] at c0 c1 c2 PL ⊢
 clear e
 generalize (St.after f u).cur=cur' at *
 have hu2:(u:Int)<(n:Int)+1:=by omega
 have hu3:(0:Int)<=(u:Int):=by omega
 have hu4:(u:Int)<=(n:Int):=by omega
 clear hk
 go_enter Tryz.func58,Tryz.ntmps58
 go_wp2
 refine bodyPost_ret (v:=.agg #[.int .i64 cur',.pointer top,.pointer (some ⟨bw,0,none⟩)]) (by simp [results,Tryz.results58,go_sem]) rfl ⟨⟨top,bw,rfl,(Z PL).below (bH _ _)⟩,bH _ _⟩
end Go.Proofs.YtmnmeaeicjhkhaaGreatDoor
