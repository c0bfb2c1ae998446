import Derived.Test.YtmnmeaeicjhkhaaGreatDoorGFy
import Derived.Laws.EntriesVeiled
import Derived.WalkMore
import Derived.Deep.LoopGhost
import Derived.Deep.RegionHeld3
import Derived.Deep.DeepCutAuto
set_option maxRecDepth 100000
set_option maxHeartbeats 16000000
namespace Go.Proofs.YtmnmeaeicjhkhaaGreatDoor
open Go.RowKit Go.Lib
theorem ways_any (lo:Nat) (mv pv:Value) (n:Nat) (f:Nat→M) (k:Int) (t d:Nat) (w:World) (h2:MomsAt lo w mv n f) (hp:∃ a m c,pv=.slice a m c) :
  Calls Tryz.prog 174 #[startV mv pv k t d] w fun e w'=>e=.returned (.agg #[.func (.func 214) #[.agg #[mv,pv,.int .i64 k,.int .i64 (t:Int),.int .i64 (d:Int)]] #[],.int .i64 1,.int .i64 (n:Int),.func (.func 215) #[.agg #[mv,pv,.int .i64 k,.int .i64 (t:Int),.int .i64 (d:Int)]] #[],.int .i64 1,.int .i64 (n:Int),.func (.func 216) #[.agg #[mv,pv,.int .i64 k,.int .i64 (t:Int),.int .i64 (d:Int)]] #[],.int .i64 1,.int .i64 (n:Int),.func (.func 214) #[.agg #[mv,pv,.int .i64 k,.int .i64 (t:Int),.int .i64 (d:Int)]] #[],.int .i64 (-1),.int .i64 (-1)])∧Below w.heap.size w w':=by
 obtain ⟨pa,pn,pc,rfl⟩:=hp
 obtain ⟨a2,cap2,rfl,hn2,-⟩:=h2
 unfold maxLen at hn2
 go_enter Tryz.func174,Tryz.ntmps174
 go_wp2
 refine bodyPost_ret (v:=.agg #[.func (.func 214) #[.agg #[.slice a2 n cap2,.slice pa pn pc,.int .i64 k,.int .i64 (t:Int),.int .i64 (d:Int)]] #[],.int .i64 1,.int .i64 (n:Int),.func (.func 215) #[.agg #[.slice a2 n cap2,.slice pa pn pc,.int .i64 k,.int .i64 (t:Int),.int .i64 (d:Int)]] #[],.int .i64 1,.int .i64 (n:Int),.func (.func 216) #[.agg #[.slice a2 n cap2,.slice pa pn pc,.int .i64 k,.int .i64 (t:Int),.int .i64 (d:Int)]] #[],.int .i64 1,.int .i64 (n:Int),.func (.func 214) #[.agg #[.slice a2 n cap2,.slice pa pn pc,.int .i64 k,.int .i64 (t:Int),.int .i64 (d:Int)]] #[],.int .i64 (-1),.int .i64 (-1)]) (by simp [results,Tryz.results174,go_sem]) rfl ⟨rfl,((Below.refl _ _).alloc (Nat.le_refl _) _).alloc (by simp) _⟩
def WkBox (w:World) (mv pv:Value) (k:Int) (t d:Nat) (fv:Value) (by_ none_:Int) (w':World):Prop :=
 Below (w.heap.size + 2) ((w.alloc (.cells #[mv,pv,.int .i64 k,.int .i64 (t:Int),.int .i64 (d:Int)] 264)).alloc (.cells #[fv,.int .i64 by_,.int .i64 none_] 267)) w'
section
variable {w w':World} {mv pv:Value} {k:Int} {t d:Nat} {fv:Value} {by_ none_:Int} (h:WkBox w mv pv k t d fv by_ none_ w')
include h
theorem WkBox.below:Below w.heap.size w w':=(((Below.refl _ _).alloc (Nat.le_refl _) _).alloc (by simp) _).trans (Below.mono h (by omega))
theorem WkBox.size:w.heap.size + 2≤w'.heap.size:=by have:=Below.size h;simpa using this
theorem WkBox.go {w'':World} (hb:Below w'.heap.size w' w''):WkBox w mv pv k t d fv by_ none_ w'':=Below.trans h (hb.mono h.size)
theorem WkBox.b0:w'.cell? ⟨w.heap.size,0,none⟩=some mv:=by rw [Below.cell h (by simp),World.cell?_alloc_old _ _ _ (by simp),cell_alloc_at _ _ _ _ _ rfl];rfl
theorem WkBox.b3:w'.cell? ⟨w.heap.size,3,none⟩=some (.int .i64 (t:Int)):=by rw [Below.cell h (by simp),World.cell?_alloc_old _ _ _ (by simp),cell_alloc_at _ _ _ _ _ rfl];rfl
theorem WkBox.c0:w'.cell? ⟨w.heap.size + 1,0,none⟩=some fv:=by rw [Below.cell h (by simp),cell_alloc_at _ _ _ _ _ (by simp)];rfl
theorem WkBox.c1:w'.cell? ⟨w.heap.size + 1,1,none⟩=some (.int .i64 by_):=by rw [Below.cell h (by simp),cell_alloc_at _ _ _ _ _ (by simp)];rfl
end
theorem walk0_any (lo lp:Nat) (mv pv:Value) (nf:Nat) (fns:Nat→ByteArray) (n:Nat) (f:Nat→M) (k:Int) (t d:Nat) (w:World) (h2:MomsAt lo w mv n f) (hp:PlacesAt lp w pv n f) (hs:Sound nf fns n f) (hk0:-1≤k) (hk1:k≤n) :
  Calls Tryz.prog 173 #[startV mv pv k t d,.agg #[.func (.func 214) #[.agg #[mv,pv,.int .i64 k,.int .i64 (t:Int),.int .i64 (d:Int)]] #[],.int .i64 1,.int .i64 (n:Int)]] w fun e w'=>(∃ z,e=.returned (.int .i64 z)∧FwdIs n (stepHit f t d 0) k z)∧Below w.heap.size w w':=by
 have H2:=hide h2
 have HP:=hide hp
 have HS:=hide hs
 have h3:=hs.1.2.2.1
 obtain ⟨a2,cap2,rfl,hn2,-⟩:=h2
 obtain ⟨xs,ho,-⟩:=hp
 obtain ⟨pa,pn,pc,rfl⟩:∃ a m c,pv=.slice a m c:=by
  rcases ho.2 with ⟨rfl,_⟩ | ⟨g,cap,cur,rfl,_⟩
  ·exact ⟨_,_,_,rfl⟩
  ·exact ⟨_,_,_,rfl⟩
 clear ho hs hn2
 obtain ⟨p,hp⟩:∃ p:Nat,(p:Int)=k + 1:=⟨(k + 1).toNat,by omega⟩
 obtain rfl:k=(p:Int) - 1:=by omega
 have wk:IntKind.i64.wrap ((p:Int) - 1 + 1)=(p:Int):=by rw [IntKind.wrap_i64];omega
 clear hp
 have T0:Hid (WkBox w (.slice a2 n cap2) (.slice pa pn pc) ((p:Int) - 1) t d (.func (.func 214) #[.agg #[.slice a2 n cap2,.slice pa pn pc,.int .i64 ((p:Int) - 1),.int .i64 (t:Int),.int .i64 (d:Int)]] #[]) 1 n _):=hide (Below.refl _ _)
 go_enter Tryz.func173,Tryz.ntmps173
 go_wp2
 go_step3
 go_wp2
 go_step3
 go_wp2
 go_loopg [5,6] (n + 1 - p) (fun gg fo i W=>∃ q:Nat,q + gg=n + 1∧fo=.int .i64 n∧i=.int .i64 q∧p≤q∧(∀ j,p≤j→j < q→stepHit f t d 0 j=false)∧WkBox w (.slice a2 n cap2) (.slice pa pn pc) ((p:Int) - 1) t d (.func (.func 214) #[.agg #[.slice a2 n cap2,.slice pa pn pc,.int .i64 ((p:Int) - 1),.int .i64 (t:Int),.int .i64 (d:Int)]] #[]) 1 n W)
 case atStart=>exact ⟨p,by omega,rfl,by simp,Nat.le_refl _,fun j h1 h2=>by omega,uh T0⟩
 case round =>
  obtain ⟨q,hqg,rfl,rfl,hpq,hst,ht⟩:=hrel
  have HST:=hide hst
  have HT:=hide ht
  clear hst ht T0
  have hq0:decide ((0:Int)≤(q:Int))=true:=decide_eq_true (by omega)
  have x0:=(uh HT).b0
  have x3:=(uh HT).b3
  have y0:=(uh HT).c0
  have y1:=(uh HT).c1
  by_cases hlt:q < n
  ·have hqn:(q:Int) < (n:Int):=by omega
   have hqz:(0:Int)≤(q:Int):=by omega
   have HM:=(uh H2).below (uh HT).below
   have HMM:=hide HM
   obtain ⟨_,_,e2,hn2,hv⟩:=HM
   cases e2
   obtain ⟨b,o,vv,rfl,-,hc1,-⟩:=hv q hlt
   clear hv hn2
   have wq:IntKind.i64.wrap ((q:Int) + 1)=((q + 1:Nat):Int):=by rw [IntKind.wrap_i64];omega
   by_cases htk:(f q).task=(t:Int)
   ·have HTQ:=hide htk
    rw [htk] at hc1
    clear htk
    go_wp2_with fail
    go_quiet (fail)
    generalize hwd:wr.drewN _=wd
    have HTD:Hid (WkBox w (.slice (some ⟨b,o,none⟩) n cap2) (.slice pa pn pc) ((p:Int) - 1) t d (.func (.func 214) #[.agg #[.slice (some ⟨b,o,none⟩) n cap2,.slice pa pn pc,.int .i64 ((p:Int) - 1),.int .i64 (t:Int),.int .i64 (d:Int)]] #[]) 1 n wd):=hide ((uh HT).go (by rw [← hwd];exact below_drewN (Below.refl _ _) _))
    clear hwd x0 x3 y0 y1 hc1
    have HMD:=(uh H2).below (uh HTD).below
    have HPD:=(uh HP).below (uh HTD).below
    have y0:=(uh HTD).c0
    go_wp2_with fail
    refine (begins_any lo _ _ n f ((p:Int) - 1) t d q _ HMD hlt).mono ?_
    rintro e wA ⟨rfl,hbA⟩
    have HTA:=hide ((uh HTD).go hbA)
    have y1:=(uh HTA).c1
    clear hbA HTD HMD HPD y0
    cases em:(f q).kind == 1 with
    | true =>
     have HE:Hid (stepHit f t d 0 q=true):=hide (by unfold stepHit;rw [uh HTQ,beq_self_eq_true,Bool.true_and];exact em)
     clear em
     go_wp2
     try rw [Exit.noGoto_ret]
     go_ret
     exact ⟨⟨_,rfl,.inl ⟨q,rfl,by omega,hlt,uh HE,fun i h1 h2=>uh HST i (by omega) h2⟩⟩,(uh HTA).below⟩
    | false =>
     have HE:Hid (stepHit f t d 0 q=false):=hide (by unfold stepHit;rw [uh HTQ,beq_self_eq_true,Bool.true_and];exact em)
     clear em
     go_wp2
     go_roundg (n + 1 - (q + 1))
     case measure=>omega
     case rel =>
      have hst':∀ j,p≤j→j < q + 1→stepHit f t d 0 j=false:=fun j h1 h2=>by
       by_cases e':j=q
       ·rw [e'];exact uh HE
       ·exact uh HST j h1 (by omega)
      exact ⟨q + 1,by omega,rfl,by go_num,by omega,hst',uh HTA⟩
   ·have hbt:((f q).task == (t:Int))=false:=by simpa using htk
    have HE:Hid (stepHit f t d 0 q=false):=hide (by unfold stepHit;rw [hbt];rfl)
    clear htk
    go_wp2_with fail
    go_quiet (fail)
    generalize hwd:wr.drewN _=wd
    have HTD:Hid (WkBox w (.slice (some ⟨b,o,none⟩) n cap2) (.slice pa pn pc) ((p:Int) - 1) t d (.func (.func 214) #[.agg #[.slice (some ⟨b,o,none⟩) n cap2,.slice pa pn pc,.int .i64 ((p:Int) - 1),.int .i64 (t:Int),.int .i64 (d:Int)]] #[]) 1 n wd):=hide ((uh HT).go (by rw [← hwd];exact below_drewN (Below.refl _ _) _))
    clear hwd x0 x3 y0 y1 hc1
    have y1:=(uh HTD).c1
    go_wp2
    go_roundg (n + 1 - (q + 1))
    case measure=>omega
    case rel =>
     have hst':∀ j,p≤j→j < q + 1→stepHit f t d 0 j=false:=fun j h1 h2=>by
      by_cases e':j=q
      ·rw [e'];exact uh HE
      ·exact uh HST j h1 (by omega)
     exact ⟨q + 1,by omega,rfl,by go_num,by omega,hst',uh HTD⟩
  ·have hqn:¬ (q:Int) < (n:Int):=by omega
   go_wp2
   try rw [Exit.noGoto_ret]
   go_ret
   exact ⟨⟨_,rfl,.inr ⟨rfl,fun i h1 h2=>uh HST i (by omega) (by omega)⟩⟩,(uh HT).below⟩
theorem walk1_any (lo lp:Nat) (mv pv:Value) (nf:Nat) (fns:Nat→ByteArray) (n:Nat) (f:Nat→M) (k:Int) (t d:Nat) (w:World) (h2:MomsAt lo w mv n f) (hp:PlacesAt lp w pv n f) (hs:Sound nf fns n f) (hk0:-1≤k) (hk1:k≤n) :
  Calls Tryz.prog 173 #[startV mv pv k t d,.agg #[.func (.func 215) #[.agg #[mv,pv,.int .i64 k,.int .i64 (t:Int),.int .i64 (d:Int)]] #[],.int .i64 1,.int .i64 (n:Int)]] w fun e w'=>(∃ z,e=.returned (.int .i64 z)∧FwdIs n (stepHit f t d 1) k z)∧Below w.heap.size w w':=by
 have H2:=hide h2
 have HP:=hide hp
 have HS:=hide hs
 have h3:=hs.1.2.2.1
 obtain ⟨a2,cap2,rfl,hn2,-⟩:=h2
 obtain ⟨xs,ho,-⟩:=hp
 obtain ⟨pa,pn,pc,rfl⟩:∃ a m c,pv=.slice a m c:=by
  rcases ho.2 with ⟨rfl,_⟩ | ⟨g,cap,cur,rfl,_⟩
  ·exact ⟨_,_,_,rfl⟩
  ·exact ⟨_,_,_,rfl⟩
 clear ho hs hn2
 obtain ⟨p,hp⟩:∃ p:Nat,(p:Int)=k + 1:=⟨(k + 1).toNat,by omega⟩
 obtain rfl:k=(p:Int) - 1:=by omega
 have wk:IntKind.i64.wrap ((p:Int) - 1 + 1)=(p:Int):=by rw [IntKind.wrap_i64];omega
 clear hp
 have T0:Hid (WkBox w (.slice a2 n cap2) (.slice pa pn pc) ((p:Int) - 1) t d (.func (.func 215) #[.agg #[.slice a2 n cap2,.slice pa pn pc,.int .i64 ((p:Int) - 1),.int .i64 (t:Int),.int .i64 (d:Int)]] #[]) 1 n _):=hide (Below.refl _ _)
 go_enter Tryz.func173,Tryz.ntmps173
 go_wp2
 go_step3
 go_wp2
 go_step3
 go_wp2
 go_loopg [5,6] (n + 1 - p) (fun gg fo i W=>∃ q:Nat,q + gg=n + 1∧fo=.int .i64 n∧i=.int .i64 q∧p≤q∧(∀ j,p≤j→j < q→stepHit f t d 1 j=false)∧WkBox w (.slice a2 n cap2) (.slice pa pn pc) ((p:Int) - 1) t d (.func (.func 215) #[.agg #[.slice a2 n cap2,.slice pa pn pc,.int .i64 ((p:Int) - 1),.int .i64 (t:Int),.int .i64 (d:Int)]] #[]) 1 n W)
 case atStart=>exact ⟨p,by omega,rfl,by simp,Nat.le_refl _,fun j h1 h2=>by omega,uh T0⟩
 case round =>
  obtain ⟨q,hqg,rfl,rfl,hpq,hst,ht⟩:=hrel
  have HST:=hide hst
  have HT:=hide ht
  clear hst ht T0
  have hq0:decide ((0:Int)≤(q:Int))=true:=decide_eq_true (by omega)
  have x0:=(uh HT).b0
  have x3:=(uh HT).b3
  have y0:=(uh HT).c0
  have y1:=(uh HT).c1
  by_cases hlt:q < n
  ·have hqn:(q:Int) < (n:Int):=by omega
   have hqz:(0:Int)≤(q:Int):=by omega
   have HM:=(uh H2).below (uh HT).below
   have HMM:=hide HM
   obtain ⟨_,_,e2,hn2,hv⟩:=HM
   cases e2
   obtain ⟨b,o,vv,rfl,-,hc1,-⟩:=hv q hlt
   clear hv hn2
   have wq:IntKind.i64.wrap ((q:Int) + 1)=((q + 1:Nat):Int):=by rw [IntKind.wrap_i64];omega
   by_cases htk:(f q).task=(t:Int)
   ·have HTQ:=hide htk
    rw [htk] at hc1
    clear htk
    go_wp2_with fail
    go_quiet (fail)
    generalize hwd:wr.drewN _=wd
    have HTD:Hid (WkBox w (.slice (some ⟨b,o,none⟩) n cap2) (.slice pa pn pc) ((p:Int) - 1) t d (.func (.func 215) #[.agg #[.slice (some ⟨b,o,none⟩) n cap2,.slice pa pn pc,.int .i64 ((p:Int) - 1),.int .i64 (t:Int),.int .i64 (d:Int)]] #[]) 1 n wd):=hide ((uh HT).go (by rw [← hwd];exact below_drewN (Below.refl _ _) _))
    clear hwd x0 x3 y0 y1 hc1
    have HMD:=(uh H2).below (uh HTD).below
    have HPD:=(uh HP).below (uh HTD).below
    have y0:=(uh HTD).c0
    go_wp2_with fail
    refine (beginsNoDeeper_any lo lp _ _ nf fns n f ((p:Int) - 1) t d q _ HMD HPD (uh HS) hlt (uh HTQ)).mono ?_
    rintro e wA ⟨rfl,hbA⟩
    have HTA:=hide ((uh HTD).go hbA)
    have y1:=(uh HTA).c1
    clear hbA HTD HMD HPD y0
    cases em:mayEnd f t d 1 q with
    | true =>
     have HE:Hid (stepHit f t d 1 q=true):=hide (by unfold stepHit;rw [uh HTQ,beq_self_eq_true,Bool.true_and];exact em)
     clear em
     go_wp2
     try rw [Exit.noGoto_ret]
     go_ret
     exact ⟨⟨_,rfl,.inl ⟨q,rfl,by omega,hlt,uh HE,fun i h1 h2=>uh HST i (by omega) h2⟩⟩,(uh HTA).below⟩
    | false =>
     have HE:Hid (stepHit f t d 1 q=false):=hide (by unfold stepHit;rw [uh HTQ,beq_self_eq_true,Bool.true_and];exact em)
     clear em
     go_wp2
     go_roundg (n + 1 - (q + 1))
     case measure=>omega
     case rel =>
      have hst':∀ j,p≤j→j < q + 1→stepHit f t d 1 j=false:=fun j h1 h2=>by
       by_cases e':j=q
       ·rw [e'];exact uh HE
       ·exact uh HST j h1 (by omega)
      exact ⟨q + 1,by omega,rfl,by go_num,by omega,hst',uh HTA⟩
   ·have hbt:((f q).task == (t:Int))=false:=by simpa using htk
    have HE:Hid (stepHit f t d 1 q=false):=hide (by unfold stepHit;rw [hbt];rfl)
    clear htk
    go_wp2_with fail
    go_quiet (fail)
    generalize hwd:wr.drewN _=wd
    have HTD:Hid (WkBox w (.slice (some ⟨b,o,none⟩) n cap2) (.slice pa pn pc) ((p:Int) - 1) t d (.func (.func 215) #[.agg #[.slice (some ⟨b,o,none⟩) n cap2,.slice pa pn pc,.int .i64 ((p:Int) - 1),.int .i64 (t:Int),.int .i64 (d:Int)]] #[]) 1 n wd):=hide ((uh HT).go (by rw [← hwd];exact below_drewN (Below.refl _ _) _))
    clear hwd x0 x3 y0 y1 hc1
    have y1:=(uh HTD).c1
    go_wp2
    go_roundg (n + 1 - (q + 1))
    case measure=>omega
    case rel =>
     have hst':∀ j,p≤j→j < q + 1→stepHit f t d 1 j=false:=fun j h1 h2=>by
      by_cases e':j=q
      ·rw [e'];exact uh HE
      ·exact uh HST j h1 (by omega)
     exact ⟨q + 1,by omega,rfl,by go_num,by omega,hst',uh HTD⟩
  ·have hqn:¬ (q:Int) < (n:Int):=by omega
   go_wp2
   try rw [Exit.noGoto_ret]
   go_ret
   exact ⟨⟨_,rfl,.inr ⟨rfl,fun i h1 h2=>uh HST i (by omega) (by omega)⟩⟩,(uh HT).below⟩
theorem walk2_any (lo lp:Nat) (mv pv:Value) (nf:Nat) (fns:Nat→ByteArray) (n:Nat) (f:Nat→M) (k:Int) (t d:Nat) (w:World) (h2:MomsAt lo w mv n f) (hp:PlacesAt lp w pv n f) (hs:Sound nf fns n f) (hk0:-1≤k) (hk1:k≤n) :
  Calls Tryz.prog 173 #[startV mv pv k t d,.agg #[.func (.func 216) #[.agg #[mv,pv,.int .i64 k,.int .i64 (t:Int),.int .i64 (d:Int)]] #[],.int .i64 1,.int .i64 (n:Int)]] w fun e w'=>(∃ z,e=.returned (.int .i64 z)∧FwdIs n (stepHit f t d 2) k z)∧Below w.heap.size w w':=by
 have H2:=hide h2
 have HP:=hide hp
 have HS:=hide hs
 have h3:=hs.1.2.2.1
 obtain ⟨a2,cap2,rfl,hn2,-⟩:=h2
 obtain ⟨xs,ho,-⟩:=hp
 obtain ⟨pa,pn,pc,rfl⟩:∃ a m c,pv=.slice a m c:=by
  rcases ho.2 with ⟨rfl,_⟩ | ⟨g,cap,cur,rfl,_⟩
  ·exact ⟨_,_,_,rfl⟩
  ·exact ⟨_,_,_,rfl⟩
 clear ho hs hn2
 obtain ⟨p,hp⟩:∃ p:Nat,(p:Int)=k + 1:=⟨(k + 1).toNat,by omega⟩
 obtain rfl:k=(p:Int) - 1:=by omega
 have wk:IntKind.i64.wrap ((p:Int) - 1 + 1)=(p:Int):=by rw [IntKind.wrap_i64];omega
 clear hp
 have T0:Hid (WkBox w (.slice a2 n cap2) (.slice pa pn pc) ((p:Int) - 1) t d (.func (.func 216) #[.agg #[.slice a2 n cap2,.slice pa pn pc,.int .i64 ((p:Int) - 1),.int .i64 (t:Int),.int .i64 (d:Int)]] #[]) 1 n _):=hide (Below.refl _ _)
 go_enter Tryz.func173,Tryz.ntmps173
 go_wp2
 go_step3
 go_wp2
 go_step3
 go_wp2
 go_loopg [5,6] (n + 1 - p) (fun gg fo i W=>∃ q:Nat,q + gg=n + 1∧fo=.int .i64 n∧i=.int .i64 q∧p≤q∧(∀ j,p≤j→j < q→stepHit f t d 2 j=false)∧WkBox w (.slice a2 n cap2) (.slice pa pn pc) ((p:Int) - 1) t d (.func (.func 216) #[.agg #[.slice a2 n cap2,.slice pa pn pc,.int .i64 ((p:Int) - 1),.int .i64 (t:Int),.int .i64 (d:Int)]] #[]) 1 n W)
 case atStart=>exact ⟨p,by omega,rfl,by simp,Nat.le_refl _,fun j h1 h2=>by omega,uh T0⟩
 case round =>
  obtain ⟨q,hqg,rfl,rfl,hpq,hst,ht⟩:=hrel
  have HST:=hide hst
  have HT:=hide ht
  clear hst ht T0
  have hq0:decide ((0:Int)≤(q:Int))=true:=decide_eq_true (by omega)
  have x0:=(uh HT).b0
  have x3:=(uh HT).b3
  have y0:=(uh HT).c0
  have y1:=(uh HT).c1
  by_cases hlt:q < n
  ·have hqn:(q:Int) < (n:Int):=by omega
   have hqz:(0:Int)≤(q:Int):=by omega
   have HM:=(uh H2).below (uh HT).below
   have HMM:=hide HM
   obtain ⟨_,_,e2,hn2,hv⟩:=HM
   cases e2
   obtain ⟨b,o,vv,rfl,-,hc1,-⟩:=hv q hlt
   clear hv hn2
   have wq:IntKind.i64.wrap ((q:Int) + 1)=((q + 1:Nat):Int):=by rw [IntKind.wrap_i64];omega
   by_cases htk:(f q).task=(t:Int)
   ·have HTQ:=hide htk
    rw [htk] at hc1
    clear htk
    go_wp2_with fail
    go_quiet (fail)
    generalize hwd:wr.drewN _=wd
    have HTD:Hid (WkBox w (.slice (some ⟨b,o,none⟩) n cap2) (.slice pa pn pc) ((p:Int) - 1) t d (.func (.func 216) #[.agg #[.slice (some ⟨b,o,none⟩) n cap2,.slice pa pn pc,.int .i64 ((p:Int) - 1),.int .i64 (t:Int),.int .i64 (d:Int)]] #[]) 1 n wd):=hide ((uh HT).go (by rw [← hwd];exact below_drewN (Below.refl _ _) _))
    clear hwd x0 x3 y0 y1 hc1
    have HMD:=(uh H2).below (uh HTD).below
    have HPD:=(uh HP).below (uh HTD).below
    have y0:=(uh HTD).c0
    go_wp2_with fail
    refine (leavesFewer_any lo lp _ _ nf fns n f ((p:Int) - 1) t d q _ HMD HPD (uh HS) hlt (uh HTQ)).mono ?_
    rintro e wA ⟨rfl,hbA⟩
    have HTA:=hide ((uh HTD).go hbA)
    have y1:=(uh HTA).c1
    clear hbA HTD HMD HPD y0
    cases em:mayEnd f t d 2 q with
    | true =>
     have HE:Hid (stepHit f t d 2 q=true):=hide (by unfold stepHit;rw [uh HTQ,beq_self_eq_true,Bool.true_and];exact em)
     clear em
     go_wp2
     try rw [Exit.noGoto_ret]
     go_ret
     exact ⟨⟨_,rfl,.inl ⟨q,rfl,by omega,hlt,uh HE,fun i h1 h2=>uh HST i (by omega) h2⟩⟩,(uh HTA).below⟩
    | false =>
     have HE:Hid (stepHit f t d 2 q=false):=hide (by unfold stepHit;rw [uh HTQ,beq_self_eq_true,Bool.true_and];exact em)
     clear em
     go_wp2
     go_roundg (n + 1 - (q + 1))
     case measure=>omega
     case rel =>
      have hst':∀ j,p≤j→j < q + 1→stepHit f t d 2 j=false:=fun j h1 h2=>by
       by_cases e':j=q
       ·rw [e'];exact uh HE
       ·exact uh HST j h1 (by omega)
      exact ⟨q + 1,by omega,rfl,by go_num,by omega,hst',uh HTA⟩
   ·have hbt:((f q).task == (t:Int))=false:=by simpa using htk
    have HE:Hid (stepHit f t d 2 q=false):=hide (by unfold stepHit;rw [hbt];rfl)
    clear htk
    go_wp2_with fail
    go_quiet (fail)
    generalize hwd:wr.drewN _=wd
    have HTD:Hid (WkBox w (.slice (some ⟨b,o,none⟩) n cap2) (.slice pa pn pc) ((p:Int) - 1) t d (.func (.func 216) #[.agg #[.slice (some ⟨b,o,none⟩) n cap2,.slice pa pn pc,.int .i64 ((p:Int) - 1),.int .i64 (t:Int),.int .i64 (d:Int)]] #[]) 1 n wd):=hide ((uh HT).go (by rw [← hwd];exact below_drewN (Below.refl _ _) _))
    clear hwd x0 x3 y0 y1 hc1
    have y1:=(uh HTD).c1
    go_wp2
    go_roundg (n + 1 - (q + 1))
    case measure=>omega
    case rel =>
     have hst':∀ j,p≤j→j < q + 1→stepHit f t d 2 j=false:=fun j h1 h2=>by
      by_cases e':j=q
      ·rw [e'];exact uh HE
      ·exact uh HST j h1 (by omega)
     exact ⟨q + 1,by omega,rfl,by go_num,by omega,hst',uh HTD⟩
  ·have hqn:¬ (q:Int) < (n:Int):=by omega
   go_wp2
   try rw [Exit.noGoto_ret]
   go_ret
   exact ⟨⟨_,rfl,.inr ⟨rfl,fun i h1 h2=>uh HST i (by omega) (by omega)⟩⟩,(uh HT).below⟩
end Go.Proofs.YtmnmeaeicjhkhaaGreatDoor
namespace Go.Proofs.YtmnmeaeicjhkhaaGreatDoor
open Go.RowKit Go.Lib
theorem index_way0 (x0 x1 x2 x3 x4 x5 x6 x7 x8 x9 x10 x11:Value) (w:World):(Instr.index 268 (.agg #[x0,x1,x2,x3,x4,x5,x6,x7,x8,x9,x10,x11]) (.int .i64 0)).run Tryz.prog w=.ok (.agg #[x0,x1,x2]) w:=by kernel_rfl
theorem index_way1 (x0 x1 x2 x3 x4 x5 x6 x7 x8 x9 x10 x11:Value) (w:World):(Instr.index 268 (.agg #[x0,x1,x2,x3,x4,x5,x6,x7,x8,x9,x10,x11]) (.int .i64 1)).run Tryz.prog w=.ok (.agg #[x3,x4,x5]) w:=by kernel_rfl
theorem index_way2 (x0 x1 x2 x3 x4 x5 x6 x7 x8 x9 x10 x11:Value) (w:World):(Instr.index 268 (.agg #[x0,x1,x2,x3,x4,x5,x6,x7,x8,x9,x10,x11]) (.int .i64 2)).run Tryz.prog w=.ok (.agg #[x6,x7,x8]) w:=by kernel_rfl
theorem stepFrom0_any (lo lp:Nat) (mv pv:Value) (nf:Nat) (fns:Nat→ByteArray) (n:Nat) (f:Nat→M) (k:Int) (w:World) (h2:MomsAt lo w mv n f) (hp:PlacesAt lp w pv n f) (hs:Sound nf fns n f) (hk0:-1≤k) (hk1:k≤n) :
  Calls Tryz.prog 127 #[mv,pv,.int .i64 k,.int .i64 0] w fun e w'=>(∃ z,e=.returned (.int .i64 z)∧StepIs n f k 0 z)∧Below w.heap.size w w':=by
 have H2:=hide h2
 have HP:=hide hp
 have HS:=hide hs
 have h3:=hs.1.2.2.1
 obtain ⟨a2,cap2,rfl,hn2,-⟩:=h2
 obtain ⟨xs,ho,-⟩:=hp
 obtain ⟨pa,pn,pc,rfl⟩:∃ a m c,pv=.slice a m c:=by
  rcases ho.2 with ⟨rfl,_⟩ | ⟨g,cap,cur,rfl,_⟩
  ·exact ⟨_,_,_,rfl⟩
  ·exact ⟨_,_,_,rfl⟩
 clear ho hs hn2
 have HI:Hid (∀ z,FwdIs n (stepHit f (St.after f (upto n k)).cur ((St.after f (upto n k)).tasks (St.after f (upto n k)).cur).length 0) k z→StepIs n f k 0 z):=hide (fun z hz=>.inl ⟨by omega,hz⟩)
 go_enter Tryz.func127,Tryz.ntmps127
 go_wp2_with fail
 refine (placeAt_any lp _ n f k _ (uh HP) h3 hk0 hk1).mono ?_
 rintro e w1 ⟨⟨top,bw,rfl,hpl⟩,hb1⟩
 have HL:=hide hpl.1
 have HB1:=hide hb1
 clear hpl hb1
 generalize ((St.after f (upto n k)).tasks (St.after f (upto n k)).cur)=lst at HL HI
 generalize (St.after f (upto n k)).cur=t at HI ⊢
 obtain ⟨d,hd⟩:∃ d,d=lst.length:=⟨_,rfl⟩
 have HD:=hide hd
 rw [← hd] at HI
 clear hd
 go_wp2_with fail
 go_region_held3 (fun w'=>w'.cell? ⟨w1.heap.size,0,none⟩=some (.int .i64 (t:Int))∧w'.cell? ⟨w1.heap.size,1,none⟩=some (.pointer top))
  (go_keep) ((go_at_call 172;refine (count_any lst top _ ((uh HL).below (by first | exact (below_new w1 _).drew | exact ((below_new w1 _).trans ((below_new _ _).mono (by simp))).drew))).mono ?_;rw [← uh HD];rintro e w2 ⟨rfl,rfl⟩))
 all_goals
  obtain ⟨W1,hW1⟩:∃ W1,W1=w1.alloc (.cells #[.int .i64 (t:Int),.pointer top,.pointer (some ⟨bw,0,none⟩)] 119):=⟨_,rfl⟩
  have hs1:W1.heap.size=w1.heap.size + 1:=by rw [hW1];simp
  have HB2:=hide ((uh HB1).trans ((by rw [hW1];exact below_new _ _:Below w1.heap.size w1 W1).mono (uh HB1).size))
  rw [← hW1,← hs1]
  clear hW1 hs1 HL HD
  obtain ⟨W2,hW2⟩:∃ W2,W2=(W1.alloc (.cells #[.slice a2 n cap2,.slice pa pn pc,.int .i64 k,.int .i64 (t:Int),.int .i64 (d:Int)] 264)).drew:=⟨_,rfl⟩
  have T2:Hid (StBox W1 (.slice a2 n cap2) (.slice pa pn pc) k t d W2):=hide (by rw [hW2];exact (StBox.new _ _ _ _ _ _).go (Below.refl _ _).drew)
  rw [← hW2]
  clear hW2
  have T3:=hide ((uh T2).go ((Below.refl _ _).drew))
  have hix:=index_way0
  have x0:=(uh T2).b0
  have x1:=(uh T2).b1
  have x2:=(uh T2).b2
  have x3:=(uh T2).b3
  have x4:=(uh T2).b4
  go_wp2_with fail
  go_region_held3 (fun w'=>w'.cell? ⟨W1.heap.size,0,none⟩=some (.slice a2 n cap2)∧w'.cell? ⟨W1.heap.size,1,none⟩=some (.slice pa pn pc)∧w'.cell? ⟨W1.heap.size,2,none⟩=some (.int .i64 k)∧w'.cell? ⟨W1.heap.size,3,none⟩=some (.int .i64 (t:Int))∧w'.cell? ⟨W1.heap.size,4,none⟩=some (.int .i64 (d:Int)))
   (first | (exact (uh T3).cells) | (exact ((uh T3).go hbA).cells) | (exact (((uh T3).go hbA).go hbB).cells))
   ((first | (go_at_call 174;refine (ways_any lo _ _ n f k t d _ ((uh H2).below (by exact (uh HB2).trans ((uh T3).below.mono (uh HB2).size))) ⟨_,_,_,rfl⟩).mono ?_;rintro e wA ⟨rfl,hbA⟩) | (go_at_call 173;have HBX:=(uh HB2).trans (((uh T3).go hbA).below.mono (uh HB2).size);refine (walk0_any lo lp _ _ nf fns n f k t d _ (by exact (uh H2).below HBX) (by exact (uh HP).below HBX) (uh HS) hk0 hk1).mono ?_;rintro e wB ⟨⟨z,rfl,hz⟩,hbB⟩)))
  go_wp2
  go_ret
  exact ⟨⟨z,rfl,uh HI z hz⟩,(uh HB2).trans ((((uh T3).go hbA).go hbB).below.mono (uh HB2).size)⟩
theorem stepFrom1_any (lo lp:Nat) (mv pv:Value) (nf:Nat) (fns:Nat→ByteArray) (n:Nat) (f:Nat→M) (k:Int) (w:World) (h2:MomsAt lo w mv n f) (hp:PlacesAt lp w pv n f) (hs:Sound nf fns n f) (hk0:-1≤k) (hk1:k≤n) :
  Calls Tryz.prog 127 #[mv,pv,.int .i64 k,.int .i64 1] w fun e w'=>(∃ z,e=.returned (.int .i64 z)∧StepIs n f k 1 z)∧Below w.heap.size w w':=by
 have H2:=hide h2
 have HP:=hide hp
 have HS:=hide hs
 have h3:=hs.1.2.2.1
 obtain ⟨a2,cap2,rfl,hn2,-⟩:=h2
 obtain ⟨xs,ho,-⟩:=hp
 obtain ⟨pa,pn,pc,rfl⟩:∃ a m c,pv=.slice a m c:=by
  rcases ho.2 with ⟨rfl,_⟩ | ⟨g,cap,cur,rfl,_⟩
  ·exact ⟨_,_,_,rfl⟩
  ·exact ⟨_,_,_,rfl⟩
 clear ho hs hn2
 have HI:Hid (∀ z,FwdIs n (stepHit f (St.after f (upto n k)).cur ((St.after f (upto n k)).tasks (St.after f (upto n k)).cur).length 1) k z→StepIs n f k 1 z):=hide (fun z hz=>.inl ⟨by omega,hz⟩)
 go_enter Tryz.func127,Tryz.ntmps127
 go_wp2_with fail
 refine (placeAt_any lp _ n f k _ (uh HP) h3 hk0 hk1).mono ?_
 rintro e w1 ⟨⟨top,bw,rfl,hpl⟩,hb1⟩
 have HL:=hide hpl.1
 have HB1:=hide hb1
 clear hpl hb1
 generalize ((St.after f (upto n k)).tasks (St.after f (upto n k)).cur)=lst at HL HI
 generalize (St.after f (upto n k)).cur=t at HI ⊢
 obtain ⟨d,hd⟩:∃ d,d=lst.length:=⟨_,rfl⟩
 have HD:=hide hd
 rw [← hd] at HI
 clear hd
 go_wp2_with fail
 go_region_held3 (fun w'=>w'.cell? ⟨w1.heap.size,0,none⟩=some (.int .i64 (t:Int))∧w'.cell? ⟨w1.heap.size,1,none⟩=some (.pointer top))
  (go_keep) ((go_at_call 172;refine (count_any lst top _ ((uh HL).below (by first | exact (below_new w1 _).drew | exact ((below_new w1 _).trans ((below_new _ _).mono (by simp))).drew))).mono ?_;rw [← uh HD];rintro e w2 ⟨rfl,rfl⟩))
 all_goals
  obtain ⟨W1,hW1⟩:∃ W1,W1=w1.alloc (.cells #[.int .i64 (t:Int),.pointer top,.pointer (some ⟨bw,0,none⟩)] 119):=⟨_,rfl⟩
  have hs1:W1.heap.size=w1.heap.size + 1:=by rw [hW1];simp
  have HB2:=hide ((uh HB1).trans ((by rw [hW1];exact below_new _ _:Below w1.heap.size w1 W1).mono (uh HB1).size))
  rw [← hW1,← hs1]
  clear hW1 hs1 HL HD
  obtain ⟨W2,hW2⟩:∃ W2,W2=(W1.alloc (.cells #[.slice a2 n cap2,.slice pa pn pc,.int .i64 k,.int .i64 (t:Int),.int .i64 (d:Int)] 264)).drew:=⟨_,rfl⟩
  have T2:Hid (StBox W1 (.slice a2 n cap2) (.slice pa pn pc) k t d W2):=hide (by rw [hW2];exact (StBox.new _ _ _ _ _ _).go (Below.refl _ _).drew)
  rw [← hW2]
  clear hW2
  have T3:=hide ((uh T2).go ((Below.refl _ _).drew))
  have hix:=index_way1
  have x0:=(uh T2).b0
  have x1:=(uh T2).b1
  have x2:=(uh T2).b2
  have x3:=(uh T2).b3
  have x4:=(uh T2).b4
  go_wp2_with fail
  go_region_held3 (fun w'=>w'.cell? ⟨W1.heap.size,0,none⟩=some (.slice a2 n cap2)∧w'.cell? ⟨W1.heap.size,1,none⟩=some (.slice pa pn pc)∧w'.cell? ⟨W1.heap.size,2,none⟩=some (.int .i64 k)∧w'.cell? ⟨W1.heap.size,3,none⟩=some (.int .i64 (t:Int))∧w'.cell? ⟨W1.heap.size,4,none⟩=some (.int .i64 (d:Int)))
   (first | (exact (uh T3).cells) | (exact ((uh T3).go hbA).cells) | (exact (((uh T3).go hbA).go hbB).cells))
   ((first | (go_at_call 174;refine (ways_any lo _ _ n f k t d _ ((uh H2).below (by exact (uh HB2).trans ((uh T3).below.mono (uh HB2).size))) ⟨_,_,_,rfl⟩).mono ?_;rintro e wA ⟨rfl,hbA⟩) | (go_at_call 173;have HBX:=(uh HB2).trans (((uh T3).go hbA).below.mono (uh HB2).size);refine (walk1_any lo lp _ _ nf fns n f k t d _ (by exact (uh H2).below HBX) (by exact (uh HP).below HBX) (uh HS) hk0 hk1).mono ?_;rintro e wB ⟨⟨z,rfl,hz⟩,hbB⟩)))
  go_wp2
  go_ret
  exact ⟨⟨z,rfl,uh HI z hz⟩,(uh HB2).trans ((((uh T3).go hbA).go hbB).below.mono (uh HB2).size)⟩
theorem stepFrom2_any (lo lp:Nat) (mv pv:Value) (nf:Nat) (fns:Nat→ByteArray) (n:Nat) (f:Nat→M) (k:Int) (w:World) (h2:MomsAt lo w mv n f) (hp:PlacesAt lp w pv n f) (hs:Sound nf fns n f) (hk0:-1≤k) (hk1:k≤n) :
  Calls Tryz.prog 127 #[mv,pv,.int .i64 k,.int .i64 2] w fun e w'=>(∃ z,e=.returned (.int .i64 z)∧StepIs n f k 2 z)∧Below w.heap.size w w':=by
 have H2:=hide h2
 have HP:=hide hp
 have HS:=hide hs
 have h3:=hs.1.2.2.1
 obtain ⟨a2,cap2,rfl,hn2,-⟩:=h2
 obtain ⟨xs,ho,-⟩:=hp
 obtain ⟨pa,pn,pc,rfl⟩:∃ a m c,pv=.slice a m c:=by
  rcases ho.2 with ⟨rfl,_⟩ | ⟨g,cap,cur,rfl,_⟩
  ·exact ⟨_,_,_,rfl⟩
  ·exact ⟨_,_,_,rfl⟩
 clear ho hs hn2
 have HI:Hid (∀ z,FwdIs n (stepHit f (St.after f (upto n k)).cur ((St.after f (upto n k)).tasks (St.after f (upto n k)).cur).length 2) k z→StepIs n f k 2 z):=hide (fun z hz=>.inl ⟨by omega,hz⟩)
 go_enter Tryz.func127,Tryz.ntmps127
 go_wp2_with fail
 refine (placeAt_any lp _ n f k _ (uh HP) h3 hk0 hk1).mono ?_
 rintro e w1 ⟨⟨top,bw,rfl,hpl⟩,hb1⟩
 have HL:=hide hpl.1
 have HB1:=hide hb1
 clear hpl hb1
 generalize ((St.after f (upto n k)).tasks (St.after f (upto n k)).cur)=lst at HL HI
 generalize (St.after f (upto n k)).cur=t at HI ⊢
 obtain ⟨d,hd⟩:∃ d,d=lst.length:=⟨_,rfl⟩
 have HD:=hide hd
 rw [← hd] at HI
 clear hd
 go_wp2_with fail
 go_region_held3 (fun w'=>w'.cell? ⟨w1.heap.size,0,none⟩=some (.int .i64 (t:Int))∧w'.cell? ⟨w1.heap.size,1,none⟩=some (.pointer top))
  (go_keep) ((go_at_call 172;refine (count_any lst top _ ((uh HL).below (by first | exact (below_new w1 _).drew | exact ((below_new w1 _).trans ((below_new _ _).mono (by simp))).drew))).mono ?_;rw [← uh HD];rintro e w2 ⟨rfl,rfl⟩))
 all_goals
  obtain ⟨W1,hW1⟩:∃ W1,W1=w1.alloc (.cells #[.int .i64 (t:Int),.pointer top,.pointer (some ⟨bw,0,none⟩)] 119):=⟨_,rfl⟩
  have hs1:W1.heap.size=w1.heap.size + 1:=by rw [hW1];simp
  have HB2:=hide ((uh HB1).trans ((by rw [hW1];exact below_new _ _:Below w1.heap.size w1 W1).mono (uh HB1).size))
  rw [← hW1,← hs1]
  clear hW1 hs1 HL HD
  obtain ⟨W2,hW2⟩:∃ W2,W2=(W1.alloc (.cells #[.slice a2 n cap2,.slice pa pn pc,.int .i64 k,.int .i64 (t:Int),.int .i64 (d:Int)] 264)).drew:=⟨_,rfl⟩
  have T2:Hid (StBox W1 (.slice a2 n cap2) (.slice pa pn pc) k t d W2):=hide (by rw [hW2];exact (StBox.new _ _ _ _ _ _).go (Below.refl _ _).drew)
  rw [← hW2]
  clear hW2
  have T3:=hide ((uh T2).go ((Below.refl _ _).drew))
  have hix:=index_way2
  have x0:=(uh T2).b0
  have x1:=(uh T2).b1
  have x2:=(uh T2).b2
  have x3:=(uh T2).b3
  have x4:=(uh T2).b4
  go_wp2_with fail
  go_region_held3 (fun w'=>w'.cell? ⟨W1.heap.size,0,none⟩=some (.slice a2 n cap2)∧w'.cell? ⟨W1.heap.size,1,none⟩=some (.slice pa pn pc)∧w'.cell? ⟨W1.heap.size,2,none⟩=some (.int .i64 k)∧w'.cell? ⟨W1.heap.size,3,none⟩=some (.int .i64 (t:Int))∧w'.cell? ⟨W1.heap.size,4,none⟩=some (.int .i64 (d:Int)))
   (first | (exact (uh T3).cells) | (exact ((uh T3).go hbA).cells) | (exact (((uh T3).go hbA).go hbB).cells))
   ((first | (go_at_call 174;refine (ways_any lo _ _ n f k t d _ ((uh H2).below (by exact (uh HB2).trans ((uh T3).below.mono (uh HB2).size))) ⟨_,_,_,rfl⟩).mono ?_;rintro e wA ⟨rfl,hbA⟩) | (go_at_call 173;have HBX:=(uh HB2).trans (((uh T3).go hbA).below.mono (uh HB2).size);refine (walk2_any lo lp _ _ nf fns n f k t d _ (by exact (uh H2).below HBX) (by exact (uh HP).below HBX) (uh HS) hk0 hk1).mono ?_;rintro e wB ⟨⟨z,rfl,hz⟩,hbB⟩)))
  go_wp2
  go_ret
  exact ⟨⟨z,rfl,uh HI z hz⟩,(uh HB2).trans ((((uh T3).go hbA).go hbB).below.mono (uh HB2).size)⟩
end Go.Proofs.YtmnmeaeicjhkhaaGreatDoor
namespace Go.Proofs.YtmnmeaeicjhkhaaGreatDoor
open Go.RowKit Go.Lib
theorem l4into_any (lo:Nat) (v1 v2:Value) (nf:Nat) (fns:Nat→ByteArray) (n:Nat) (f:Nat→M) (k:Int) (w:World) (h2:MomsAt lo w v2 n f) (hs:Sound nf fns n f) (hk1:-1≤k) (hk2:k≤n) :
  Calls Tryz.prog 95 #[.agg #[v1,v2],.int .i64 k] w fun e w'=>(∃ z,e=.returned (.int .i64 z)∧StepIs n f k 0 z)∧Below w.heap.size w w':=by
 have H2:=hide h2
 obtain ⟨a2,cap2,rfl,hn2,-⟩:=h2
 have hn3:=hs.1.2.2.1
 have HS:=hide hs;clear hs hn2
 have T0:=hide (TrBox.new w v1 (.slice a2 n cap2))
 have HI:Hid (∀ z,FwdIs n (stepHit f (St.after f (upto n k)).cur ((St.after f (upto n k)).tasks (St.after f (upto n k)).cur).length 0) k z→StepIs n f k 0 z):=hide (fun z hz=>.inl ⟨by omega,hz⟩)
 go_enter Tryz.func95,Tryz.ntmps95
 go_wp2_with fail
 refine (l1stand_any lo _ _ nf fns n f k _ ((uh H2).below (uh T0).below) (uh HS) hk1 hk2).mono ?_
 rintro e w1 ⟨⟨ps,rfl,bt,V,hc⟩,hb1⟩
 have T1:=hide ((uh T0).go hb1)
 have c1:=hc.c1
 clear hc hb1 T0
 generalize ((St.after f (upto n k)).tasks (St.after f (upto n k)).cur).length=d at HI
 generalize (St.after f (upto n k)).cur=t at HI c1
 obtain ⟨p,hp⟩:∃ p:Nat,(p:Int)=k + 1:=⟨(k + 1).toNat,by omega⟩
 obtain rfl:k=(p:Int) - 1:=by omega
 have wk:IntKind.i64.wrap ((p:Int) - 1 + 1)=(p:Int):=by rw [IntKind.wrap_i64];omega
 clear hp
 go_wp2_with fail
 go_loopg [7] (n + 1 - p) (fun gg i W=>∃ q:Nat,q + gg=n + 1∧i=.int .i64 q∧p≤q∧(∀ j,p≤j→j < q→stepHit f t d 0 j=false)∧W=w1)
 case atStart=>exact ⟨p,by omega,by simp,Nat.le_refl _,fun j h1 h2=>by omega,rfl⟩
 case round =>
  obtain ⟨q,hqg,rfl,hpq,hst,rfl⟩:=hrel
  have HST:=hide hst
  clear hst
  have g1:=(uh T1).b1
  by_cases hlt:q < n
  ·have hqn:(q:Int) < (n:Int):=by omega
   have hqz:(0:Int)≤(q:Int):=by omega
   obtain ⟨_,_,e2,hn2,hv⟩:=(uh H2).below (uh T1).below
   cases e2
   obtain ⟨b,o,vv,rfl,hc0,hc1,-⟩:=hv q hlt
   clear hv hn2
   have wq:IntKind.i64.wrap ((q:Int) + 1)=((q + 1:Nat):Int):=by rw [IntKind.wrap_i64];omega
   cases e1:(f q).kind == 1 with
   | true =>
    cases e3:(f q).task == (t:Int) with
    | true =>
     have HE:Hid (stepHit f t d 0 q=true):=hide (by unfold stepHit mayEnd;rw [e3];exact e1)
     go_wp2
     go_ret
     exact ⟨⟨_,rfl,uh HI _ (.inl ⟨q,rfl,by omega,hlt,uh HE,fun i h1 h2=>uh HST i (by omega) h2⟩)⟩,(uh T1).below⟩
    | false =>
     have HE:Hid (stepHit f t d 0 q=false):=hide (by unfold stepHit;rw [e3];rfl)
     go_wp2
     go_roundg (n + 1 - (q + 1))
     case measure=>omega
     case rel =>
      have hst':∀ j,p≤j→j < q + 1→stepHit f t d 0 j=false:=fun j h1 h2=>by
       by_cases e':j=q
       ·rw [e'];exact uh HE
       ·exact uh HST j h1 (by omega)
      exact ⟨q + 1,by omega,by go_num,by omega,hst',rfl⟩
   | false =>
    have HE:Hid (stepHit f t d 0 q=false):=hide (by unfold stepHit mayEnd;simp [e1])
    go_wp2
    go_roundg (n + 1 - (q + 1))
    case measure=>omega
    case rel =>
     have hst':∀ j,p≤j→j < q + 1→stepHit f t d 0 j=false:=fun j h1 h2=>by
      by_cases e':j=q
      ·rw [e'];exact uh HE
      ·exact uh HST j h1 (by omega)
     exact ⟨q + 1,by omega,by go_num,by omega,hst',rfl⟩
  ·have hqn:¬ (q:Int) < (n:Int):=by omega
   go_wp2
   go_ret
   exact ⟨⟨_,rfl,uh HI _ (.inr ⟨rfl,fun i h1 h2=>uh HST i (by omega) (by omega)⟩)⟩,(uh T1).below⟩
def leaveHit (f:Nat→M) (t d:Nat) (kd less:Int) (i:Nat):Bool:=((f i).kind == kd) && ((f i).task == (t:Int)) && decide ((deepAt f t i:Int)≤(d:Int) - less)
def LeaveIs (n:Nat) (f:Nat→M) (k kd less z:Int):Prop:=FwdIs n (leaveHit f (St.after f (upto n k)).cur ((St.after f (upto n k)).tasks (St.after f (upto n k)).cur).length kd less) k z
theorem leave_over (f:Nat→M) (t d:Nat):leaveHit f t d 1 0=stepHit f t d 1:=by
 funext i
 unfold leaveHit stepHit mayEnd
 rw [show decide ((deepAt f t i:Int)≤(d:Int) - 0)=decide (deepAt f t i≤d) from by rw [decide_eq_decide];omega]
 cases (f i).kind == 1<;>cases (f i).task == (t:Int)<;>simp
theorem leave_out (f:Nat→M) (t d:Nat):leaveHit f t d 3 1=stepHit f t d 2:=by
 funext i
 unfold leaveHit stepHit mayEnd
 rw [show decide ((deepAt f t i:Int)≤(d:Int) - 1)=decide (deepAt f t i < d) from by rw [decide_eq_decide];omega]
 cases (f i).kind == 3<;>cases (f i).task == (t:Int)<;>simp
theorem l4leave_any (lo:Nat) (v1 v2:Value) (nf:Nat) (fns:Nat→ByteArray) (n:Nat) (f:Nat→M) (k kd less:Int) (w:World) (h2:MomsAt lo w v2 n f) (hs:Sound nf fns n f) (hk1:-1≤k) (hk2:k≤n) (hl1:0≤less) (hl2:less≤1) :
  Calls Tryz.prog 96 #[.agg #[v1,v2],.int .i64 k,.int .i64 kd,.int .i64 less] w fun e w'=>(∃ z,e=.returned (.int .i64 z)∧LeaveIs n f k kd less z)∧Below w.heap.size w w':=by
 have H2:=hide h2
 obtain ⟨a2,cap2,rfl,hn2,-⟩:=h2
 have hn3:=hs.1.2.2.1
 have HS:=hide hs;clear hs hn2
 have T0:=hide (TrBox.new w v1 (.slice a2 n cap2))
 have HI:Hid (∀ z,FwdIs n (leaveHit f (St.after f (upto n k)).cur ((St.after f (upto n k)).tasks (St.after f (upto n k)).cur).length kd less) k z→LeaveIs n f k kd less z):=hide (fun z hz=>hz)
 go_enter Tryz.func96,Tryz.ntmps96
 go_wp2_with fail
 refine (l1stand_any lo _ _ nf fns n f k _ ((uh H2).below (uh T0).below) (uh HS) hk1 hk2).mono ?_
 rintro e w1 ⟨⟨ps,rfl,hsp⟩,hb1⟩
 have T1:=hide ((uh T0).go hb1)
 obtain ⟨B,hBe⟩:∃ B,B=(w.alloc (.cells #[v1,.slice a2 n cap2] 26)).heap.size + 1:=⟨_,rfl⟩
 rw [← hBe] at hsp
 have HBE:Hid (B=w.heap.size + 2):=hide (by rw [hBe];simp)
 have HSP0:Hid (∀ p:Nat,k=(p:Int) - 1→p≤n→SpecAt B w1 ps (St.after f p)):=hide (fun p hp hpn=>by
  have e:upto n k=p:=by unfold upto;omega
  rw [← e];exact hsp)
 obtain ⟨bt,V,hc⟩:=hsp
 have c0:=hc.c0
 have c1:=hc.c1
 have hcur:=hc.cur
 have cV:=hc.row.cell hcur
 have hle:=hc.len _ hcur
 obtain ⟨sa,scap,eV⟩:=owns_slice (hc.own _ hcur)
 rw [eV] at cV
 clear hc hb1 T0 hBe eV
 generalize ((St.after f (upto n k)).tasks (St.after f (upto n k)).cur).length=d at cV hle HI
 generalize (St.after f (upto n k)).cur=t at c1 cV hcur HI
 obtain ⟨p,hp⟩:∃ p:Nat,(p:Int)=k + 1:=⟨(k + 1).toNat,by omega⟩
 obtain rfl:k=(p:Int) - 1:=by omega
 have HSP:=hide (fun h=>uh HSP0 p rfl h)
 have wk:IntKind.i64.wrap ((p:Int) - 1 + 1)=(p:Int):=by rw [IntKind.wrap_i64];omega
 have wd:IntKind.i64.wrap ((d:Int) - less)=(d:Int) - less:=by rw [IntKind.wrap_i64];omega
 have ht0:(0:Int)≤(t:Int):=by omega
 have ht1:(t:Int) < 101:=by omega
 clear hp HSP0
 go_wp2_with fail
 go_loopg [12] (n + 1 - p) (fun gg i W=>∃ q:Nat,q + gg=n + 1∧i=.int .i64 q∧p≤q∧(∀ j,p≤j→j < q→leaveHit f t d kd less j=false)∧(q≤n→SpecAt B W ps (St.after f q))∧TrBox w v1 (.slice a2 n cap2) W)
 case atStart=>exact ⟨p,by omega,by simp,Nat.le_refl _,fun j h1 h2=>by omega,uh HSP,uh T1⟩
 case round =>
  clear HSP T1 c0 c1 cV
  obtain ⟨q,hqg,rfl,hpq,hst,hsp,ht⟩:=hrel
  have HST:=hide hst
  have HT:=hide ht
  have g1:=(uh HT).b1
  by_cases hlt:q < n
  ·have HSP:=hide (hsp (by omega))
   clear hst ht hsp
   have hqn:(q:Int) < (n:Int):=by omega
   have hqz:(0:Int)≤(q:Int):=by omega
   obtain ⟨_,_,e2,hn2,hv⟩:=(uh H2).below (uh HT).below
   cases e2
   obtain ⟨bm,om,vv,rfl,hc0,hc1,hc2,hc3,hc4,hc5,-,hs2,-⟩:=hv q hlt
   clear hv hn2
   obtain ⟨av,capv,rfl,-⟩:=hs2
   have hmo:=(uh HS).2.1 q hlt
   have hm1:0≤(f q).task:=hmo.1.2.2.1
   have hm2:(f q).task≤100:=hmo.1.2.2.2.1
   clear hmo
   have wq:IntKind.i64.wrap ((q:Int) + 1)=((q + 1:Nat):Int):=by rw [IntKind.wrap_i64];omega
   have HBN:=hide (below_new wr (.cells #[.int .i64 (f q).kind,.int .i64 (f q).task,.int .i64 (f q).fn,.int .i64 (f q).line,.string (f q).text,.slice av (f q).nv capv] 108))
   have HBX:=hide (heap_alloc_new wr (.cells #[.int .i64 (f q).kind,.int .i64 (f q).task,.int .i64 (f q).fn,.int .i64 (f q).line,.string (f q).text,.slice av (f q).nv capv] 108))
   have hpsl:ps < wr.heap.size:=by obtain ⟨_,_,hh⟩:=uh HSP;exact cell_lt hh.c0
   go_wp2_with fail
   refine (move_any B ps (St.after f q) _ _ _ _ _ _ _ _ ((uh HSP).below (uh HBN)) hm1 hm2).mono ?_
   rintro e w2 ⟨rfl,hsp,hb2,hkp⟩
   have HT2:Hid (TrBox w v1 (.slice (some ⟨bm,om,none⟩) n cap2) w2):=hide (Below.trans ((uh HT).go (uh HBN)) (hb2.mono (by have:=uh HBE;omega)))
   have HSP2:Hid (SpecAt B w2 ps (St.after f (q + 1))):=hide (hsp ((uh HS).2.2 q hlt))
   have HBX2:=hide ((hkp _ _ _ _ (uh HBX) (by omega) (by decide) (by decide)).trans (uh HBX))
   obtain ⟨mb,hmb⟩:∃ mb,mb=wr.heap.size:=⟨_,rfl⟩
   rw [← hmb] at HBX2
   rw [← hmb]
   have m0:w2.cell? ⟨mb,0,none⟩=some (.int .i64 (f q).kind):=by rw [cell_of_row w2 mb 0 _ _ _ (uh HBX2)];rfl
   have m1:w2.cell? ⟨mb,1,none⟩=some (.int .i64 (f q).task):=by rw [cell_of_row w2 mb 1 _ _ _ (uh HBX2)];rfl
   clear hsp hb2 hkp hmb hc0 hc1 hc2 hc3 hc4 hc5 HBN HBX HT HSP hpsl HBX2 g1
   generalize hcd:code (St.after f q) (f q).kind (f q).task (f q).fn=cd
   clear hcd
   cases e1:(f q).kind == kd with
   | true =>
    cases e3:(f q).task == (t:Int) with
    | true =>
     obtain ⟨bt,V,hc⟩:=uh HSP2
     have c0:=hc.c0
     have cV:=hc.row.cell hcur
     have hle2:=hc.len _ hcur
     obtain ⟨sa,scap,eV⟩:=owns_slice (hc.own _ hcur)
     rw [eV] at cV
     clear hc eV
     have hdp:((St.after f (q + 1)).tasks t).length=deepAt f t q:=rfl
     rw [hdp] at cV hle2
     clear hdp
     cases e4:decide ((deepAt f t q:Int)≤(d:Int) - less) with
     | true =>
      have HE:Hid (leaveHit f t d kd less q=true):=hide (by unfold leaveHit;rw [e1,e3,e4];rfl)
      go_wp2
      go_ret
      exact ⟨⟨_,rfl,uh HI _ (.inl ⟨q,rfl,by omega,hlt,uh HE,fun i h1 h2=>uh HST i (by omega) h2⟩)⟩,(uh HT2).below⟩
     | false =>
      have HE:Hid (leaveHit f t d kd less q=false):=hide (by unfold leaveHit;rw [e1,e3,e4];rfl)
      go_wp2
      go_roundg (n + 1 - (q + 1))
      case measure=>omega
      case rel =>
       have hst':∀ j,p≤j→j < q + 1→leaveHit f t d kd less j=false:=fun j h1 h2=>by
        by_cases e':j=q
        ·rw [e'];exact uh HE
        ·exact uh HST j h1 (by omega)
       exact ⟨q + 1,by omega,by go_num,by omega,hst',fun _=>uh HSP2,uh HT2⟩
    | false =>
     have HE:Hid (leaveHit f t d kd less q=false):=hide (by unfold leaveHit;rw [e1,e3];rfl)
     go_wp2
     go_roundg (n + 1 - (q + 1))
     case measure=>omega
     case rel =>
      have hst':∀ j,p≤j→j < q + 1→leaveHit f t d kd less j=false:=fun j h1 h2=>by
       by_cases e':j=q
       ·rw [e'];exact uh HE
       ·exact uh HST j h1 (by omega)
      exact ⟨q + 1,by omega,by go_num,by omega,hst',fun _=>uh HSP2,uh HT2⟩
   | false =>
    have HE:Hid (leaveHit f t d kd less q=false):=hide (by unfold leaveHit;rw [e1];rfl)
    go_wp2
    go_roundg (n + 1 - (q + 1))
    case measure=>omega
    case rel =>
     have hst':∀ j,p≤j→j < q + 1→leaveHit f t d kd less j=false:=fun j h1 h2=>by
      by_cases e':j=q
      ·rw [e'];exact uh HE
      ·exact uh HST j h1 (by omega)
     exact ⟨q + 1,by omega,by go_num,by omega,hst',fun _=>uh HSP2,uh HT2⟩
  ·have hqn:¬ (q:Int) < (n:Int):=by omega
   clear hst ht hsp
   go_wp2
   go_ret
   exact ⟨⟨_,rfl,uh HI _ (.inr ⟨rfl,fun i h1 h2=>uh HST i (by omega) (by omega)⟩)⟩,(uh HT).below⟩
end Go.Proofs.YtmnmeaeicjhkhaaGreatDoor
