import Derived.Test.YtmnmeaeicjhkhaaGreatDoorGEcx
set_option maxRecDepth 100000
set_option maxHeartbeats 16000000
namespace Go.Proofs.YtmnmeaeicjhkhaaGreatDoor
section
open Go.RowKit
theorem bQ0:(Tryz.prog.info? 228).map (fun i=>(i.zero,i.size,i.bytes))=some (some .nilFunc,1,8):=by kernel_rfl
def fU (B:Nat) (w:World) (tv mv:Value) (ns n:Nat) (f:Nat->M) (ss:Nat->Sp):Prop:=∃ vs:Nat->Value,w.ownsRow B 228 1 tv ns ((List.range ns).map vs)/\∀ i,i<ns->jD w (vs i) mv n f (ss i)
theorem fU.below {B:Nat} {w w':World} {tv mv:Value} {ns n:Nat} {f:Nat->M} {ss:Nat->Sp} (h:fU B w tv mv ns n f ss) (hb:Below w.heap.size w w'):fU B w' tv mv ns n f ss:=by
 obtain ⟨vs,h1,h2⟩:=h
 exact ⟨vs,bN h1 hb,fun i hi=>(h2 i hi).below hb⟩
theorem xL (vs:Nat->Value) (v:Value) (k:Nat):(List.range (k+1)).map (fun i=>if i=k then v else vs i)=(List.range k).map vs ++ [v]:=by
 rw [List.range_succ,List.map_append]
 congr 1
 ·exact List.map_congr_left fun i hi=>by rw [if_neg (by have:=List.mem_range.1 hi;omega)]
 simp
end
section
open Go.RowKit Go.Lib
def dJ (f:Nat->M) (ns:Nat) (ss:Nat->Sp) (k:Nat):Bool:=decide (∃ i,i<ns/\hit f (ss i) k=true)
theorem yP {f:Nat->M} {ns:Nat} {ss:Nat->Sp} {k:Nat} (h:∀ i,i<ns->hit f (ss i) k=false):dJ f ns ss k=false:=by
 unfold dJ
 simp only [decide_eq_false_iff_not]
 rintro ⟨i,hi,e⟩
 rw [h i hi] at e
 cases e
theorem vN {f:Nat->M} {ns:Nat} {ss:Nat->Sp} {k i:Nat} (hi:i<ns) (h:hit f (ss i) k=true):dJ f ns ss k=true:=by
 unfold dJ
 simp only [decide_eq_true_eq]
 exact ⟨i,hi,h⟩
def fR (B:Nat) (W:World) (hv:Value) (ns n:Nat) (f:Nat->M) (ss:Nat->Sp):Prop:=∃ bs:Nat->Nat,W.ownsRow B 157 1 hv ns ((List.range ns).map fun i=>.slice (some ⟨bs i,0,none⟩) n n)/\∀ i,i<ns->eX (bs i) W n (hit f (ss i))
theorem fR.below {B:Nat} {w w':World} {hv:Value} {ns n:Nat} {f:Nat->M} {ss:Nat->Sp} (h:fR B w hv ns n f ss) (hb:Below w.heap.size w w'):fR B w' hv ns n f ss:=by
 obtain ⟨bs,h1,h2⟩:=h
 exact ⟨bs,bN h1 hb,fun i hi=>(h2 i hi).below hb⟩
theorem bQ1 (B:Nat) (hv:Value) (n:Nat) (f:Nat->M) (ns:Nat) (ss:Nat->Sp) (k:Nat) (w:World) (h:fR B w hv ns n f ss) (hk:k<n) (hns:ns<=50) :
  Calls Tryz.prog 140 #[hv,.int .i64 k] w fun e w'=>e=.returned (.bool (dJ f ns ss k))/\w'=w:=by
 obtain ⟨bs,h1,h2⟩:=h
 obtain ⟨a,cap,rfl,hc⟩:∃ a cap,hv=.slice a ns cap/\∀ i,i<ns->∃ g,a=some ⟨g,0,none⟩/\w.cell? ⟨g,i,none⟩=some (.slice (some ⟨bs i,0,none⟩) n n):=by
  have h1':=h1
  rcases h1.2 with ⟨e,h0⟩ | ⟨g,cap,cur,e,-⟩
  ·have hz:ns=0:=h0
   subst hz
   exact ⟨none,0,e,fun i hi=>absurd hi (Nat.not_lt_zero _)⟩
  subst e
  refine ⟨_,cap,rfl,fun i hi=>⟨g,rfl,(bL h1' i _ ?_).1⟩⟩
  rw [List.getElem?_map,List.getElem?_range hi];rfl
 clear h1
 have HC:=O hc
 have H2:=O h2
 clear hc h2
 go_enter Tryz.func140,Tryz.ntmps140
 go_wp2_with fail
 go_loopg [6,9] ns (fun gg _ i W=>∃ q:Nat,q+gg=ns/\i=.int .i64 q/\(∀ j,j<q->hit f (ss j) k=false)/\W=w)
 case atStart=>exact ⟨0,by omega,rfl,fun j hj=>absurd hj (Nat.not_lt_zero _),rfl⟩
 case round =>
  obtain ⟨q,hq,rfl,hst,rfl⟩:=hrel
  by_cases hlt:q<ns
  ·obtain ⟨g,rfl,c0⟩:=Z HC q hlt
   have c1:=(Z H2 q hlt).2 k hk
   have hkn:(q:Int)<(ns:Int):=by omega
   have hkz:(0:Int)<=(q:Int):=by omega
   have hkm:(k:Int)<(n:Int):=by omega
   have hkm0:(0:Int)<=(k:Int):=by omega
   have HST:=O hst
   clear hst
   cases e:hit f (ss q) k with
   | true =>
    rw [e] at c1
    go_wp2_with fail
    go_ret
    exact ⟨by rw [vN hlt e];rfl,rfl⟩
   | false =>
    rw [e] at c1
    go_wp2_with fail
    go_roundg (ns - (q+1))
    case measure=>omega
    case rel =>
     have hst':∀ j,j<q+1->hit f (ss j) k=false:=fun j hj=>by
      by_cases e':j=q
      ·rw [e'];exact e
      exact Z HST j (by omega)
     exact ⟨q+1,by omega,by go_num,hst',rfl⟩
  have e:ns=q:=by omega
  subst e
  have hnk:¬ ((ns:Int)<(ns:Int)):=by omega
  go_wp2_with fail
  go_ret
  exact ⟨by rw [yP hst];rfl,rfl⟩
end
section
open Go.RowKit Go.Lib
theorem bH1:(Tryz.prog.info? 157).map (fun i=>(i.zero,i.size,i.bytes))=some (some (.slice none 0 0),1,24):=by kernel_rfl
end
section
open Go.RowKit Go.Lib
def tS (n:Nat) (P:Nat->Bool) (k z:Int):Prop:=(∃ j:Nat,z=j/\k<(j:Int)/\j<n/\P j=true/\∀ i:Nat,k<(i:Int)->i<j->P i=false)∨(z=n/\∀ i:Nat,k<(i:Int)->i<n->P i=false)
theorem tS.uniq {n:Nat} {P:Nat->Bool} {k z z':Int} (h:tS n P k z) (h':tS n P k z'):z=z':=by
 rcases h with ⟨j,rfl,h1,h2,h3,h4⟩ | ⟨rfl,h4⟩<;>rcases h' with ⟨j',rfl,h1',h2',h3',h4'⟩ | ⟨rfl,h4'⟩
 ·rcases Nat.lt_trichotomy j j' with h | h | h
  ·have:=h4' j h1 h;rw [h3] at this;cases this
  ·rw [h]
  have:=h4 j' h1' h;rw [h3'] at this;cases this
 ·have:=h4' j h1 h2;rw [h3] at this;cases this
 ·have:=h4 j' h1' h2';rw [h3'] at this;cases this
 rfl
def rQ (P:Nat->Bool) (k z:Int):Prop:=(∃ j:Nat,z=j/\(j:Int)<k/\P j=true/\∀ i:Nat,j<i->(i:Int)<k->P i=false)∨(z=-1/\∀ i:Nat,(i:Int)<k->P i=false)
theorem rQ.uniq {P:Nat->Bool} {k z z':Int} (h:rQ P k z) (h':rQ P k z'):z=z':=by
 rcases h with ⟨j,rfl,h1,h3,h4⟩ | ⟨rfl,h4⟩<;>rcases h' with ⟨j',rfl,h1',h3',h4'⟩ | ⟨rfl,h4'⟩
 ·rcases Nat.lt_trichotomy j j' with h | h | h
  ·have:=h4 j' h h1';rw [h3'] at this;cases this
  ·rw [h]
  have:=h4' j h h1;rw [h3] at this;cases this
 ·have:=h4' j h1;rw [h3] at this;cases this
 ·have:=h4 j' h1';rw [h3'] at this;cases this
 rfl
theorem l3next_any (B:Nat) (hv:Value) (n:Nat) (f:Nat->M) (ns:Nat) (ss:Nat->Sp) (k:Int) (w:World) (h:fR B w hv ns n f ss) (hn:n<=1048576) (hns:ns<=50) (hk0:-1<=k) (hk1:k<=n) :
  Calls Tryz.prog 93 #[hv,.int .i64 n,.int .i64 k] w fun e w'=>(∃ z,e=.returned (.int .i64 z)/\tS n (dJ f ns ss) k z)/\w'=w:=by
 have H:=O h
 clear h
 obtain ⟨p,hp⟩:∃ p:Nat,(p:Int)=k+1:=⟨(k+1).toNat,by omega⟩
 obtain rfl:k=(p:Int) - 1:=by omega
 have wk:IntKind.i64.wrap ((p:Int) - 1+1)=(p:Int):=by rw [IntKind.wrap_i64];omega
 clear hp
 go_enter Tryz.func93,Tryz.ntmps93
 go_wp2_with fail
 go_loopg [7] (n+1 - p) (fun gg i W=>∃ q:Nat,q+gg=n+1/\i=.int .i64 q/\p<=q/\(∀ j,p<=j->j<q->dJ f ns ss j=false)/\W=w)
 case atStart=>exact ⟨p,by omega,by simp,Nat.le_refl _,fun j h1 h2=>by omega,rfl⟩
 case round =>
  obtain ⟨q,hq,rfl,hpq,hst,rfl⟩:=hrel
  have HST:=O hst
  clear hst
  by_cases hlt:q<n
  ·have hkn:(q:Int)<(n:Int):=by omega
   go_wp2_with fail
   refine (bQ1 B _ n f ns ss q _ (Z H) hlt hns).mono ?_
   rintro e w2 ⟨rfl,rfl⟩
   cases e:dJ f ns ss q with
   | true =>
    have HE:=O e
    clear e
    go_wp2_with fail
    go_ret
    exact ⟨⟨_,rfl,.inl ⟨q,rfl,by omega,hlt,Z HE,fun i h1 h2=>Z HST i (by omega) h2⟩⟩,rfl⟩
   | false =>
    have HE:=O e
    clear e
    go_wp2_with fail
    go_roundg (n+1 - (q+1))
    case measure=>omega
    case rel =>
     have hst':∀ j,p<=j->j<q+1->dJ f ns ss j=false:=fun j h1 h2=>by
      by_cases e':j=q
      ·rw [e'];exact Z HE
      exact Z HST j h1 (by omega)
     exact ⟨q+1,by omega,by go_num,by omega,hst',rfl⟩
  have hkn:¬ (q:Int)<(n:Int):=by omega
  go_wp2_with fail
  go_ret
  exact ⟨⟨_,rfl,.inr ⟨rfl,fun i h1 h2=>Z HST i (by omega) (by omega)⟩⟩,rfl⟩
theorem l3last_any (B:Nat) (hv:Value) (n:Nat) (f:Nat->M) (ns:Nat) (ss:Nat->Sp) (k:Int) (w:World) (h:fR B w hv ns n f ss) (hn:n<=1048576) (hns:ns<=50) (hk0:-1<=k) (hk1:k<=n) :
  Calls Tryz.prog 94 #[hv,.int .i64 k] w fun e w'=>(∃ z,e=.returned (.int .i64 z)/\rQ (dJ f ns ss) k z)/\w'=w:=by
 have H:=O h
 clear h
 have wk:IntKind.i64.wrap (k - 1)=k - 1:=by rw [IntKind.wrap_i64];omega
 go_enter Tryz.func94,Tryz.ntmps94
 go_wp2_with fail
 go_loopg [5] (k+1).toNat (fun gg i W=>∃ z:Int,i=.int .i64 z/\(z+2).toNat=gg/\-2<=z/\z<k/\(∀ j:Nat,z<(j:Int)->(j:Int)<k->dJ f ns ss j=false)/\W=w)
 case atStart=>exact ⟨k - 1,by simp,by omega,by omega,by omega,fun j h1 h2=>by omega,rfl⟩
 case round =>
  obtain ⟨z,rfl,hz,hz2,hzk,hst,rfl⟩:=hrel
  have HST:=O hst
  clear hst
  by_cases hlt:0<=z
  ·obtain ⟨q,rfl⟩:=Int.eq_ofNat_of_zero_le hlt
   have hqn:q<n:=by omega
   have wq:IntKind.i64.wrap ((q:Int) - 1)=(q:Int) - 1:=by rw [IntKind.wrap_i64];omega
   go_wp2_with fail
   refine (bQ1 B _ n f ns ss q _ (Z H) hqn hns).mono ?_
   rintro e w2 ⟨rfl,rfl⟩
   cases e:dJ f ns ss q with
   | true =>
    have HE:=O e
    clear e
    go_wp2_with fail
    go_ret
    exact ⟨⟨_,rfl,.inl ⟨q,rfl,hzk,Z HE,fun i h1 h2=>Z HST i (by omega) h2⟩⟩,rfl⟩
   | false =>
    have HE:=O e
    clear e
    go_wp2_with fail
    go_roundg (((q:Int) - 1+2).toNat)
    case measure=>omega
    case rel =>
     have hst':∀ j:Nat,(q:Int) - 1<(j:Int)->(j:Int)<k->dJ f ns ss j=false:=fun j h1 h2=>by
      by_cases e':j=q
      ·rw [e'];exact Z HE
      exact Z HST j (by omega) h2
     exact ⟨(q:Int) - 1,rfl,rfl,by omega,by omega,hst',rfl⟩
  have hkn:¬ (0:Int)<=z:=hlt
  go_wp2_with fail
  go_ret
  exact ⟨⟨_,rfl,.inr ⟨rfl,fun i h2=>Z HST i (by omega) h2⟩⟩,rfl⟩
end
end Go.Proofs.YtmnmeaeicjhkhaaGreatDoor
