import Derived.Test.YtmnmeaeicjhkhaaGreatDoorGLx
set_option maxRecDepth 100000
set_option maxHeartbeats 16000000
namespace Go.Proofs.YtmnmeaeicjhkhaaGreatDoor
section
open Go.RowKit
def rA (n:Nat) (P:Nat->Bool) (k z:Int):Prop:=(∃ j:Nat,z=j/\k<(j:Int)/\j<n/\P j=true/\∀ i:Nat,k<(i:Int)->i<j->P i=false)∨(z=n/\∀ i:Nat,k<(i:Int)->i<n->P i=false)
theorem rA.uniq {n:Nat} {P:Nat->Bool} {k z z':Int} (h:rA n P k z) (h':rA n P k z'):z=z':=by
 rcases h with ⟨j,rfl,h1,h2,h3,h4⟩ | ⟨rfl,h4⟩<;>rcases h' with ⟨j',rfl,h1',h2',h3',h4'⟩ | ⟨rfl,h4'⟩
 ·rcases Nat.lt_trichotomy j j' with h | h | h
  ·have:=h4' j h1 h;rw [h3] at this;cases this
  ·rw [h]
  have:=h4 j' h1' h;rw [h3'] at this;cases this
 ·have:=h4' j h1 h2;rw [h3] at this;cases this
 ·have:=h4 j' h1' h2';rw [h3'] at this;cases this
 rfl
def BackIs (P:Nat->Bool) (k z:Int):Prop:=(∃ j:Nat,z=j/\(j:Int)<k/\P j=true/\∀ i:Nat,j<i->(i:Int)<k->P i=false)∨(z=-1/\∀ i:Nat,(i:Int)<k->P i=false)
theorem BackIs.uniq {P:Nat->Bool} {k z z':Int} (h:BackIs P k z) (h':BackIs P k z'):z=z':=by
 rcases h with ⟨j,rfl,h1,h3,h4⟩ | ⟨rfl,h4⟩<;>rcases h' with ⟨j',rfl,h1',h3',h4'⟩ | ⟨rfl,h4'⟩
 ·rcases Nat.lt_trichotomy j j' with h | h | h
  ·have:=h4 j' h h1';rw [h3'] at this;cases this
  ·rw [h]
  have:=h4' j h h1;rw [h3] at this;cases this
 ·have:=h4' j h1;rw [h3] at this;cases this
 ·have:=h4 j' h1';rw [h3'] at this;cases this
 rfl
def qB (f:Nat->M) (t i:Nat):Nat:=((St.after f (i+1)).tasks t).length
def qC (f:Nat->M) (t d kind i:Nat):Bool :=
 match kind with
 | 1=>((f i).kind == 1) && decide (qB f t i<=d)
 | 2=>((f i).kind == 3) && decide (qB f t i<d)
 | _=>((f i).kind == 1)
def cC (f:Nat->M) (t d kind i:Nat):Bool:=((f i).task == (t:Int)) && qC f t d kind i
def jE (n:Nat) (f:Nat->M) (k:Int) (kind:Nat) (z:Int):Prop :=
 (kind≠3/\rA n (cC f (St.after f (cQ n k)).cur ((St.after f (cQ n k)).tasks (St.after f (cQ n k)).cur).length kind) k z) ∨
 (kind=3/\BackIs (cC f (St.after f (cQ n k)).cur ((St.after f (cQ n k)).tasks (St.after f (cQ n k)).cur).length kind) k z)
theorem jE.uniq {n:Nat} {f:Nat->M} {k:Int} {kind:Nat} {z z':Int} (h:jE n f k kind z) (h':jE n f k kind z'):z=z':=by
 rcases h with ⟨a,h⟩ | ⟨a,h⟩<;>rcases h' with ⟨a',h'⟩ | ⟨a',h'⟩
 ·exact h.uniq h'
 ·exact absurd a' a
 ·exact absurd a a'
 exact h.uniq h'
theorem cur_behind {nf:Nat} {fns:Nat->ByteArray} {n:Nat} {f:Nat->M} (hs:cB nf fns n f) {q:Nat} (hq:q<n) (hk:(f q).kind≠7):((St.after f (q+1)).cur:Int)=(f q).task:=by
 have h:=hs.2.2 q hq
 unfold eB code at h
 rw [if_neg hk] at h
 have ht:(f q).task=((St.after f q).cur:Int):=by
  refine Classical.byContradiction fun e=>?_
  rw [if_pos e] at h
  omega
 rw [ht]
 show (((St.after f q).step _ _ _ _ _).cur:Int)=_
 unfold St.step
 rw [if_neg hk]
 repeat (first | rfl | split)
end
section
open Go.RowKit Go.Lib
abbrev tT (mv pv:Value) (k:Int) (t d:Nat):Value:=.agg #[mv,pv,.int .i64 k,.int .i64 (t:Int),.int .i64 (d:Int)]
def jR (w:World) (mv pv:Value) (k:Int) (t d:Nat) (w':World):Prop:=Below (w.heap.size+1) (w.alloc (.cells #[mv,pv,.int .i64 k,.int .i64 (t:Int),.int .i64 (d:Int)] 264)) w'
theorem jR.new (w:World) (mv pv:Value) (k:Int) (t d:Nat):jR w mv pv k t d (w.alloc (.cells #[mv,pv,.int .i64 k,.int .i64 (t:Int),.int .i64 (d:Int)] 264)):=Below.refl _ _
section
variable {w w':World} {mv pv:Value} {k:Int} {t d:Nat} (h:jR w mv pv k t d w')
include h
theorem jR.below:Below w.heap.size w w':=((Below.refl _ _).alloc (Nat.le_refl _) _).trans (Below.mono h (by omega))
theorem jR.size:w.heap.size+1<=w'.heap.size:=by have:=Below.size h;simpa using this
theorem jR.go {w'':World} (hb:Below w'.heap.size w' w''):jR w mv pv k t d w'':=Below.trans h (hb.mono h.size)
theorem jR.b0:w'.cell? ⟨w.heap.size,0,none⟩=some mv:=by rw [Below.cell h (by simp),bK _ _ _ _ _ rfl];rfl
theorem jR.b1:w'.cell? ⟨w.heap.size,1,none⟩=some pv:=by rw [Below.cell h (by simp),bK _ _ _ _ _ rfl];rfl
theorem jR.b2:w'.cell? ⟨w.heap.size,2,none⟩=some (.int .i64 k):=by rw [Below.cell h (by simp),bK _ _ _ _ _ rfl];rfl
theorem jR.b3:w'.cell? ⟨w.heap.size,3,none⟩=some (.int .i64 (t:Int)):=by rw [Below.cell h (by simp),bK _ _ _ _ _ rfl];rfl
theorem jR.b4:w'.cell? ⟨w.heap.size,4,none⟩=some (.int .i64 (d:Int)):=by rw [Below.cell h (by simp),bK _ _ _ _ _ rfl];rfl
theorem jR.cells:w'.cell? ⟨w.heap.size,0,none⟩=some mv/\w'.cell? ⟨w.heap.size,1,none⟩=some pv/\w'.cell? ⟨w.heap.size,2,none⟩=some (.int .i64 k)/\w'.cell? ⟨w.heap.size,3,none⟩=some (.int .i64 (t:Int))/\w'.cell? ⟨w.heap.size,4,none⟩=some (.int .i64 (d:Int)):=⟨h.b0,h.b1,h.b2,h.b3,h.b4⟩
end
theorem xM (lo:Nat) (mv pv:Value) (n:Nat) (f:Nat->M) (k:Int) (t d q:Nat) (w:World) (h2:bQ lo w mv n f) (hq:q<n) :
  Calls Tryz.prog 214 #[tT mv pv k t d,.int .i64 (q:Int)] w fun e w'=>e=.returned (.bool ((f q).kind == 1))/\Below w.heap.size w w':=by
 have T0:=O (jR.new w mv pv k t d)
 have h2':=h2.below (Z T0).below
 obtain ⟨a2,cap2,rfl,hn2,hv⟩:=h2'
 unfold maxLen at hn2
 obtain ⟨b,o,vv,rfl,hc0,hc1,-⟩:=hv q hq
 clear hv h2
 have hqn:(q:Int)<(n:Int):=by omega
 have hq0:(0:Int)<=(q:Int):=by omega
 go_enter Tryz.func214,Tryz.ntmps214
 go_wp2
 go_ret
 exact ⟨rfl,(Z T0).below⟩
theorem field_topF (a b c:Value) (w:World):(Instr.field 119 (.agg #[a,b,c]) 1).run Tryz.prog w=.ok b w:=by kernel_rfl
theorem tV (lp:Nat) (mv pv:Value) (nf:Nat) (fns:Nat->ByteArray) (n:Nat) (f:Nat->M) (k:Int) (t d q:Nat) (w:World) (hp:bW lp w pv n f) (hs:cB nf fns n f) (hq:q<n) (hk:(f q).kind≠7) (ht:(f q).task=(t:Int)) :
  Calls Tryz.prog 240 #[tT mv pv k t d,.int .i64 (q:Int)] w fun e w'=>e=.returned (.int .i64 (qB f t q:Int))/\Below w.heap.size w w':=by
 have T0:=O (jR.new w mv pv k t d)
 have HP:=O hp
 obtain ⟨xs,ho,-⟩:=hp
 obtain ⟨pa,pn,pc,rfl⟩:∃ a m c,pv=.slice a m c:=by
  rcases ho.2 with ⟨rfl,_⟩ | ⟨g,cap,cur,rfl,_⟩
  ·exact ⟨_,_,_,rfl⟩
  exact ⟨_,_,_,rfl⟩
 clear ho
 have HD:Hid (((St.after f (cQ n (q:Int))).tasks (St.after f (cQ n (q:Int))).cur).length=qB f t q):=O (by
  have e:cQ n (q:Int)=q+1:=by unfold cQ;omega
  have c:=cur_behind hs hq hk
  rw [ht] at c
  have c':(St.after f (q+1)).cur=t:=by omega
  rw [e,c'];rfl)
 have h3:=hs.1.2.2.1
 clear hs hk ht
 go_enter Tryz.func240,Tryz.ntmps240
 go_wp2_with fail
 refine (jN lp _ n f (q:Int) _ ((Z HP).below (Z T0).below) h3 (by omega) (by omega)).mono ?_
 rintro e w1 ⟨⟨top,bw,rfl,hpl⟩,hb1⟩
 have T1:=O ((Z T0).go hb1)
 have HL:=O hpl.1
 clear hb1 hpl T0
 have hfd:=field_topF
 go_wp2_with fail
 refine (mL _ _ _ (Z HL)).mono ?_
 rintro e w2 ⟨rfl,rfl⟩
 go_wp2_with fail
 go_ret
 exact ⟨by rw [Z HD];rfl,(Z T1).below⟩
theorem rB {P:Program} {ops:Array Oper} {Q:Exit->Act->World->Prop} {md:Region.Mode} {S:World->Prop} (i:Nat) (dst:Option Tmp) {fuel:Nat} {listed:Array Bool} {a:Act} {w:World}
  (hl:i<ops.size) (hd:(ops[i]'hl).dst=dst) (hs:Region.noSelect ops=true) (hf:Region.free md ops listed i=true) (hr:(Region.ready md ops listed).contains i=true)
  (hQ:∀ c a w,Q (.panic c) (a.put dst undef) w->Q (.panic c) a w) (hw:Region.wanted (ops[i]'hl) (yielded ops a.tmps)=false) (hS:S w)
  (h:wpAnyH P md ops Q S fuel (listed.setIfInBounds i true) (a.put dst undef) w):wpAnyH P md ops Q S (fuel+1) listed a w:=by
 subst hd
 exact wpAnyH_take (Array.getElem?_eq_getElem hl) hs hf hr hQ (Or.inr ⟨hw,rfl⟩) hS h
theorem xN (lo lp:Nat) (mv pv:Value) (nf:Nat) (fns:Nat->ByteArray) (n:Nat) (f:Nat->M) (k:Int) (t d q:Nat) (w:World) (h2:bQ lo w mv n f) (hp:bW lp w pv n f) (hs:cB nf fns n f) (hq:q<n) (ht:(f q).task=(t:Int)) :
  Calls Tryz.prog 215 #[tT mv pv k t d,.int .i64 (q:Int)] w fun e w'=>e=.returned (.bool (qC f t d 1 q))/\Below w.heap.size w w':=by
 have T0:=O (jR.new w mv pv k t d)
 have H2:=O h2
 have HP:=O hp
 have HS:=O hs
 have HTK:=O ht
 obtain ⟨a2,cap2,rfl,-⟩:=h2
 obtain ⟨xs,ho,-⟩:=hp
 obtain ⟨pa,pn,pc,rfl⟩:∃ a m c,pv=.slice a m c:=by
  rcases ho.2 with ⟨rfl,_⟩ | ⟨g,cap,cur,rfl,_⟩
  ·exact ⟨_,_,_,rfl⟩
  exact ⟨_,_,_,rfl⟩
 clear ho hs ht
 have BD:=O ((Below.refl (w.alloc (.cells #[.slice a2 n cap2,.slice pa pn pc,.int .i64 k,.int .i64 (t:Int),.int .i64 (d:Int)] 264)).heap.size (w.alloc (.cells #[.slice a2 n cap2,.slice pa pn pc,.int .i64 k,.int .i64 (t:Int),.int .i64 (d:Int)] 264))).drew)
 have T1:=O ((Z T0).go (Z BD))
 clear BD T0
 unfold qC
 cases e1:(f q).kind == 1 with
 | true =>
  have HE1:=O e1
  go_enter Tryz.func215,Tryz.ntmps215
  go_wp2_with fail
  go_region_held3 (fun w'=>w'.cell? ⟨w.heap.size,0,none⟩=some (.slice a2 n cap2)/\w'.cell? ⟨w.heap.size,1,none⟩=some (.slice pa pn pc)/\w'.cell? ⟨w.heap.size,2,none⟩=some (.int .i64 k)/\w'.cell? ⟨w.heap.size,3,none⟩=some (.int .i64 (t:Int))/\w'.cell? ⟨w.heap.size,4,none⟩=some (.int .i64 (d:Int)))
   (first | (exact (Z T1).cells) | (exact ((Z T1).go hbA).cells) | (exact (((Z T1).go hbA).go hbB).cells))
   ((first | (go_at_call 214;refine (xM lo _ _ n f k t d q _ ((Z H2).below (by exact (Z T1).below)) hq).mono ?_;rw [e1];rintro e wA ⟨rfl,hbA⟩) | (go_at_call 240;refine (tV lp _ _ nf fns n f k t d q _ ((Z HP).below (by exact ((Z T1).go hbA).below)) (Z HS) hq (by have:=eq_of_beq (Z HE1);omega) (Z HTK)).mono ?_;rintro e wB ⟨rfl,hbB⟩)))
  go_wp2
  go_ret
  exact ⟨by simp,(((Z T1).go hbA).go hbB).below⟩
 | false =>
  have c0:=(Z T1).cells
  go_enter Tryz.func215,Tryz.ntmps215
  go_wp2_with fail
  refine wp_region_held_drew (S:=fun w'=>w'.cell? ⟨w.heap.size,0,none⟩=some (.slice a2 n cap2)/\w'.cell? ⟨w.heap.size,1,none⟩=some (.slice pa pn pc)/\w'.cell? ⟨w.heap.size,2,none⟩=some (.int .i64 k)/\w'.cell? ⟨w.heap.size,3,none⟩=some (.int .i64 (t:Int))/\w'.cell? ⟨w.heap.size,4,none⟩=some (.int .i64 (d:Int))) (by kernel_rfl) c0 (fun hHeld=>?_)
  refine tka 0 5 (by assumption) ?_
  refine tka 1 6 (by assumption) ?_
  refine wpAnyH_ready (rs:=[2]) (by kernel_rfl) (by simp) ?_
  refine AllReadyH.cons rfl (fun K hK=>?_) AllReadyH.nil
  go_simp
  refine (xM lo _ _ n f k t d q _ ((Z H2).below (by exact (Z T1).below)) hq).mono ?_
  rw [e1]
  rintro e wA ⟨rfl,hbA⟩
  refine hK.out _ _ (((Z T1).go hbA).cells) (fun hHeld=>?_)
  clear hK K
  try simp only [Act.put,sy]
  refine tka 3 8 (by assumption) ?_
  refine rB 4 (some 9) (by decide) rfl (by kernel_rfl) (by kernel_rfl) (by kernel_rfl) (fun _ _ _ h=>h) (by rfl) (by assumption) ?_
  simp only [Act.put,sx]
  refine rB 5 (some 10) (by decide) rfl (by kernel_rfl) (by kernel_rfl) (by kernel_rfl) (fun _ _ _ h=>h) (by rfl) (by assumption) ?_
  simp only [Act.put,sx]
  refine rB 6 (some 11) (by decide) rfl (by kernel_rfl) (by kernel_rfl) (by kernel_rfl) (fun _ _ _ h=>h) (by rfl) (by assumption) ?_
  simp only [Act.put,sx]
  refine rB 7 (some 12) (by decide) rfl (by kernel_rfl) (by kernel_rfl) (by kernel_rfl) (fun _ _ _ h=>h) (by rfl) (by assumption) ?_
  simp only [Act.put,sx]
  refine rB 8 (some 13) (by decide) rfl (by kernel_rfl) (by kernel_rfl) (by kernel_rfl) (fun _ _ _ h=>h) (by rfl) (by assumption) ?_
  simp only [Act.put,sx]
  refine rB 9 (some 14) (by decide) rfl (by kernel_rfl) (by kernel_rfl) (by kernel_rfl) (fun _ _ _ h=>h) (by rfl) (by assumption) ?_
  simp only [Act.put,sx]
  refine tka 10 15 (by assumption) ?_
  refine tka 11 4 (by assumption) ?_
  refine wpAnyH_done (by kernel_rfl) ?_ _
  go_wp2
  go_ret
  exact ⟨rfl,((Z T1).go hbA).below⟩
theorem bD8 (lo lp:Nat) (mv pv:Value) (nf:Nat) (fns:Nat->ByteArray) (n:Nat) (f:Nat->M) (k:Int) (t d q:Nat) (w:World) (h2:bQ lo w mv n f) (hp:bW lp w pv n f) (hs:cB nf fns n f) (hq:q<n) (ht:(f q).task=(t:Int)) :
  Calls Tryz.prog 216 #[tT mv pv k t d,.int .i64 (q:Int)] w fun e w'=>e=.returned (.bool (qC f t d 2 q))/\Below w.heap.size w w':=by
 have T0:=O (jR.new w mv pv k t d)
 have H2:=O h2
 have HP:=O hp
 have HS:=O hs
 have HTK:=O ht
 obtain ⟨a2,cap2,rfl,-⟩:=h2
 obtain ⟨xs,ho,-⟩:=hp
 obtain ⟨pa,pn,pc,rfl⟩:∃ a m c,pv=.slice a m c:=by
  rcases ho.2 with ⟨rfl,_⟩ | ⟨g,cap,cur,rfl,_⟩
  ·exact ⟨_,_,_,rfl⟩
  exact ⟨_,_,_,rfl⟩
 clear ho hs ht
 have BD:=O ((Below.refl (w.alloc (.cells #[.slice a2 n cap2,.slice pa pn pc,.int .i64 k,.int .i64 (t:Int),.int .i64 (d:Int)] 264)).heap.size (w.alloc (.cells #[.slice a2 n cap2,.slice pa pn pc,.int .i64 k,.int .i64 (t:Int),.int .i64 (d:Int)] 264))).drew)
 have T1:=O ((Z T0).go (Z BD))
 obtain ⟨_,_,e2,hn2,hv⟩:=(Z H2).below (Z T0).below
 cases e2
 unfold maxLen at hn2
 obtain ⟨b,o,vv,rfl,hc0,hc1,-⟩:=hv q hq
 clear hv T0
 have hqn:(q:Int)<(n:Int):=by omega
 have hq0:(0:Int)<=(q:Int):=by omega
 unfold qC
 cases e1:(f q).kind == 3 with
 | true =>
  have HE1:=O e1
  have e3:(f q).kind=3:=eq_of_beq e1
  rw [e3] at hc0
  have X0:Hid (∀ w',Below (w.alloc (.cells #[.slice (some ⟨b,o,none⟩) n cap2,.slice pa pn pc,.int .i64 k,.int .i64 (t:Int),.int .i64 (d:Int)] 264)).heap.size (w.alloc (.cells #[.slice (some ⟨b,o,none⟩) n cap2,.slice pa pn pc,.int .i64 k,.int .i64 (t:Int),.int .i64 (d:Int)] 264)) w'->w'.cell? ⟨b,o+q*6,none⟩=some (.int .i64 3)):=O (fun w' hb=>bG hb hc0)
  clear e1 e3
  go_enter Tryz.func216,Tryz.ntmps216
  go_wp2_with fail
  go_region_held3 (fun w'=>w'.cell? ⟨w.heap.size,0,none⟩=some (.slice (some ⟨b,o,none⟩) n cap2)/\w'.cell? ⟨w.heap.size,1,none⟩=some (.slice pa pn pc)/\w'.cell? ⟨w.heap.size,2,none⟩=some (.int .i64 k)/\w'.cell? ⟨w.heap.size,3,none⟩=some (.int .i64 (t:Int))/\w'.cell? ⟨w.heap.size,4,none⟩=some (.int .i64 (d:Int))/\w'.cell? ⟨b,o+q*6,none⟩=some (.int .i64 3))
   (first | (exact ⟨(Z T1).b0,(Z T1).b1,(Z T1).b2,(Z T1).b3,(Z T1).b4,Z X0 _ (Z BD)⟩) | (exact ⟨((Z T1).go hbB).b0,((Z T1).go hbB).b1,((Z T1).go hbB).b2,((Z T1).go hbB).b3,((Z T1).go hbB).b4,Z X0 _ ((Z BD).trans (hbB.mono (Z BD).size))⟩))
   ((go_at_call 240;refine (tV lp _ _ nf fns n f k t d q _ ((Z HP).below (by exact (Z T1).below)) (Z HS) hq (by have:=eq_of_beq (Z HE1);omega) (Z HTK)).mono ?_;rintro e wB ⟨rfl,hbB⟩))
  go_wp2
  go_ret
  exact ⟨by simp,((Z T1).go hbB).below⟩
 | false =>
  go_enter Tryz.func216,Tryz.ntmps216
  go_wp2_with fail
  go_quiet (fail)
  go_wp2
  go_ret
  exact ⟨by simp,below_drewN (bH _ _) _⟩
end
end Go.Proofs.YtmnmeaeicjhkhaaGreatDoor
