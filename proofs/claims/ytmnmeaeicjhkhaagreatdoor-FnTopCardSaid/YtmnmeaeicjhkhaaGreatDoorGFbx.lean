import Derived.Test.YtmnmeaeicjhkhaaGreatDoorGFx
import Derived.Laws.EntriesVeiled
import Derived.Deep.DeepCutAuto
set_option maxRecDepth 100000
set_option maxHeartbeats 16000000
namespace Go.Proofs.YtmnmeaeicjhkhaaGreatDoor
open Go.RowKit Go.Lib
section
theorem bH4 (lo:Nat) (mv pv:Value) (n:Nat) (f:Nat->M) (k:Int) (t d:Nat) (w:World) (h2:bQ lo w mv n f) (hp:∃ a m c,pv=.slice a m c) :
  Calls Tryz.prog 174 #[tT mv pv k t d] w fun e w'=>e=.returned (.agg #[.func (.func 214) #[.agg #[mv,pv,.int .i64 k,.int .i64 (t:Int),.int .i64 (d:Int)]] #[],.int .i64 1,.int .i64 (n:Int),.func (.func 215) #[.agg #[mv,pv,.int .i64 k,.int .i64 (t:Int),.int .i64 (d:Int)]] #[],.int .i64 1,.int .i64 (n:Int),.func (.func 216) #[.agg #[mv,pv,.int .i64 k,.int .i64 (t:Int),.int .i64 (d:Int)]] #[],.int .i64 1,.int .i64 (n:Int),.func (.func 214) #[.agg #[mv,pv,.int .i64 k,.int .i64 (t:Int),.int .i64 (d:Int)]] #[],.int .i64 (-1),.int .i64 (-1)])/\Below w.heap.size w w':=by
 obtain ⟨pa,pn,pc,rfl⟩:=hp
 obtain ⟨a2,cap2,rfl,hn2,-⟩:=h2
 unfold maxLen at hn2
 go_enter Tryz.func174,Tryz.ntmps174
 go_wp2
 refine bodyPost_ret (v:=.agg #[.func (.func 214) #[.agg #[.slice a2 n cap2,.slice pa pn pc,.int .i64 k,.int .i64 (t:Int),.int .i64 (d:Int)]] #[],.int .i64 1,.int .i64 (n:Int),.func (.func 215) #[.agg #[.slice a2 n cap2,.slice pa pn pc,.int .i64 k,.int .i64 (t:Int),.int .i64 (d:Int)]] #[],.int .i64 1,.int .i64 (n:Int),.func (.func 216) #[.agg #[.slice a2 n cap2,.slice pa pn pc,.int .i64 k,.int .i64 (t:Int),.int .i64 (d:Int)]] #[],.int .i64 1,.int .i64 (n:Int),.func (.func 214) #[.agg #[.slice a2 n cap2,.slice pa pn pc,.int .i64 k,.int .i64 (t:Int),.int .i64 (d:Int)]] #[],.int .i64 (-1),.int .i64 (-1)]) (by simp [results,Tryz.results174,go_sem]) rfl ⟨rfl,((Below.refl _ _).alloc (Nat.le_refl _) _).alloc (by simp) _⟩
def kK (w:World) (mv pv:Value) (k:Int) (t d:Nat) (fv:Value) (by_ none_:Int) (w':World):Prop :=
 Below (w.heap.size+2) ((w.alloc (.cells #[mv,pv,.int .i64 k,.int .i64 (t:Int),.int .i64 (d:Int)] 264)).alloc (.cells #[fv,.int .i64 by_,.int .i64 none_] 267)) w'
section
variable {w w':World} {mv pv:Value} {k:Int} {t d:Nat} {fv:Value} {by_ none_:Int} (h:kK w mv pv k t d fv by_ none_ w')
include h
theorem kK.below:Below w.heap.size w w':=(((Below.refl _ _).alloc (Nat.le_refl _) _).alloc (by simp) _).trans (Below.mono h (by omega))
theorem kK.size:w.heap.size+2<=w'.heap.size:=by have:=Below.size h;simpa using this
theorem kK.go {w'':World} (hb:Below w'.heap.size w' w''):kK w mv pv k t d fv by_ none_ w'':=Below.trans h (hb.mono h.size)
theorem kK.b0:w'.cell? ⟨w.heap.size,0,none⟩=some mv:=by rw [Below.cell h (by simp),World.cell?_alloc_old _ _ _ (by simp),bK _ _ _ _ _ rfl];rfl
theorem kK.b3:w'.cell? ⟨w.heap.size,3,none⟩=some (.int .i64 (t:Int)):=by rw [Below.cell h (by simp),World.cell?_alloc_old _ _ _ (by simp),bK _ _ _ _ _ rfl];rfl
theorem kK.c0:w'.cell? ⟨w.heap.size+1,0,none⟩=some fv:=by rw [Below.cell h (by simp),bK _ _ _ _ _ (by simp)];rfl
theorem kK.c1:w'.cell? ⟨w.heap.size+1,1,none⟩=some (.int .i64 by_):=by rw [Below.cell h (by simp),bK _ _ _ _ _ (by simp)];rfl
end
theorem walk0_any (lo lp:Nat) (mv pv:Value) (nf:Nat) (fns:Nat->ByteArray) (n:Nat) (f:Nat->M) (k:Int) (t d:Nat) (w:World) (h2:bQ lo w mv n f) (hp:bW lp w pv n f) (hs:cB nf fns n f) (hk0:-1<=k) (hk1:k<=n) :
  Calls Tryz.prog 173 #[tT mv pv k t d,.agg #[.func (.func 214) #[.agg #[mv,pv,.int .i64 k,.int .i64 (t:Int),.int .i64 (d:Int)]] #[],.int .i64 1,.int .i64 (n:Int)]] w fun e w'=>(∃ z,e=.returned (.int .i64 z)/\rA n (cC f t d 0) k z)/\Below w.heap.size w w':=by
 have H2:=O h2
 have HP:=O hp
 have HS:=O hs
 have h3:=hs.1.2.2.1
 obtain ⟨a2,cap2,rfl,hn2,-⟩:=h2
 obtain ⟨xs,ho,-⟩:=hp
 obtain ⟨pa,pn,pc,rfl⟩:∃ a m c,pv=.slice a m c:=by
  rcases ho.2 with ⟨rfl,_⟩ | ⟨g,cap,cur,rfl,_⟩
  ·exact ⟨_,_,_,rfl⟩
  exact ⟨_,_,_,rfl⟩
 clear ho hs hn2
 obtain ⟨p,hp⟩:∃ p:Nat,(p:Int)=k+1:=⟨(k+1).toNat,by omega⟩
 obtain rfl:k=(p:Int) - 1:=by omega
 have wk:IntKind.i64.wrap ((p:Int) - 1+1)=(p:Int):=by rw [IntKind.wrap_i64];omega
 clear hp
 have T0:Hid (kK w (.slice a2 n cap2) (.slice pa pn pc) ((p:Int) - 1) t d (.func (.func 214) #[.agg #[.slice a2 n cap2,.slice pa pn pc,.int .i64 ((p:Int) - 1),.int .i64 (t:Int),.int .i64 (d:Int)]] #[]) 1 n _):=O (Below.refl _ _)
 go_enter Tryz.func173,Tryz.ntmps173
 go_wp2
 go_step3
 go_wp2
 go_step3
 go_wp2
 go_loopg [5,6] (n+1 - p) (fun gg fo i W=>∃ q:Nat,q+gg=n+1/\fo=.int .i64 n/\i=.int .i64 q/\p<=q/\(∀ j,p<=j->j<q->cC f t d 0 j=false)/\kK w (.slice a2 n cap2) (.slice pa pn pc) ((p:Int) - 1) t d (.func (.func 214) #[.agg #[.slice a2 n cap2,.slice pa pn pc,.int .i64 ((p:Int) - 1),.int .i64 (t:Int),.int .i64 (d:Int)]] #[]) 1 n W)
 case atStart=>exact ⟨p,by omega,rfl,by simp,Nat.le_refl _,fun j h1 h2=>by omega,Z T0⟩
 case round =>
  obtain ⟨q,hqg,rfl,rfl,hpq,hst,ht⟩:=hrel
  have HST:=O hst
  have HT:=O ht
  clear hst ht T0
  have hq0:decide ((0:Int)<=(q:Int))=true:=decide_eq_true (by omega)
  have x0:=(Z HT).b0
  have x3:=(Z HT).b3
  have y0:=(Z HT).c0
  have y1:=(Z HT).c1
  by_cases hlt:q<n
  ·have hqn:(q:Int)<(n:Int):=by omega
   have hqz:(0:Int)<=(q:Int):=by omega
   have HM:=(Z H2).below (Z HT).below
   have HMM:=O HM
   obtain ⟨_,_,e2,hn2,hv⟩:=HM
   cases e2
   obtain ⟨b,o,vv,rfl,-,hc1,-⟩:=hv q hlt
   clear hv hn2
   have wq:IntKind.i64.wrap ((q:Int)+1)=((q+1:Nat):Int):=by rw [IntKind.wrap_i64];omega
   by_cases htk:(f q).task=(t:Int)
   ·have HTQ:=O htk
    rw [htk] at hc1
    clear htk
    go_wp2_with fail
    go_quiet (fail)
    generalize hwd:wr.drewN _=wd
    have HTD:Hid (kK w (.slice (some ⟨b,o,none⟩) n cap2) (.slice pa pn pc) ((p:Int) - 1) t d (.func (.func 214) #[.agg #[.slice (some ⟨b,o,none⟩) n cap2,.slice pa pn pc,.int .i64 ((p:Int) - 1),.int .i64 (t:Int),.int .i64 (d:Int)]] #[]) 1 n wd):=O ((Z HT).go (by rw [<- hwd];exact below_drewN (Below.refl _ _) _))
    clear hwd x0 x3 y0 y1 hc1
    have HMD:=(Z H2).below (Z HTD).below
    have HPD:=(Z HP).below (Z HTD).below
    have y0:=(Z HTD).c0
    go_wp2_with fail
    refine (xM lo _ _ n f ((p:Int) - 1) t d q _ HMD hlt).mono ?_
    rintro e wA ⟨rfl,hbA⟩
    have HTA:=O ((Z HTD).go hbA)
    have y1:=(Z HTA).c1
    clear hbA HTD HMD HPD y0
    cases em:(f q).kind == 1 with
    | true =>
     have HE:Hid (cC f t d 0 q=true):=O (by unfold cC;rw [Z HTQ,beq_self_eq_true,Bool.true_and];exact em)
     clear em
     go_wp2
     try rw [Exit.noGoto_ret]
     go_ret
     exact ⟨⟨_,rfl,.inl ⟨q,rfl,by omega,hlt,Z HE,fun i h1 h2=>Z HST i (by omega) h2⟩⟩,(Z HTA).below⟩
    | false =>
     have HE:Hid (cC f t d 0 q=false):=O (by unfold cC;rw [Z HTQ,beq_self_eq_true,Bool.true_and];exact em)
     clear em
     go_wp2
     go_roundg (n+1 - (q+1))
     case measure=>omega
     case rel =>
      have hst':∀ j,p<=j->j<q+1->cC f t d 0 j=false:=fun j h1 h2=>by
       by_cases e':j=q
       ·rw [e'];exact Z HE
       exact Z HST j h1 (by omega)
      exact ⟨q+1,by omega,rfl,by go_num,by omega,hst',Z HTA⟩
   have hbt:((f q).task == (t:Int))=false:=by simpa using htk
   have HE:Hid (cC f t d 0 q=false):=O (by unfold cC;rw [hbt];rfl)
   clear htk
   go_wp2_with fail
   go_quiet (fail)
   generalize hwd:wr.drewN _=wd
   have HTD:Hid (kK w (.slice (some ⟨b,o,none⟩) n cap2) (.slice pa pn pc) ((p:Int) - 1) t d (.func (.func 214) #[.agg #[.slice (some ⟨b,o,none⟩) n cap2,.slice pa pn pc,.int .i64 ((p:Int) - 1),.int .i64 (t:Int),.int .i64 (d:Int)]] #[]) 1 n wd):=O ((Z HT).go (by rw [<- hwd];exact below_drewN (Below.refl _ _) _))
   clear hwd x0 x3 y0 y1 hc1
   have y1:=(Z HTD).c1
   go_wp2
   go_roundg (n+1 - (q+1))
   case measure=>omega
   case rel =>
    have hst':∀ j,p<=j->j<q+1->cC f t d 0 j=false:=fun j h1 h2=>by
     by_cases e':j=q
     ·rw [e'];exact Z HE
     exact Z HST j h1 (by omega)
    exact ⟨q+1,by omega,rfl,by go_num,by omega,hst',Z HTD⟩
  have hqn:¬ (q:Int)<(n:Int):=by omega
  go_wp2
  try rw [Exit.noGoto_ret]
  go_ret
  exact ⟨⟨_,rfl,.inr ⟨rfl,fun i h1 h2=>Z HST i (by omega) (by omega)⟩⟩,(Z HT).below⟩
theorem walk1_any (lo lp:Nat) (mv pv:Value) (nf:Nat) (fns:Nat->ByteArray) (n:Nat) (f:Nat->M) (k:Int) (t d:Nat) (w:World) (h2:bQ lo w mv n f) (hp:bW lp w pv n f) (hs:cB nf fns n f) (hk0:-1<=k) (hk1:k<=n) :
  Calls Tryz.prog 173 #[tT mv pv k t d,.agg #[.func (.func 215) #[.agg #[mv,pv,.int .i64 k,.int .i64 (t:Int),.int .i64 (d:Int)]] #[],.int .i64 1,.int .i64 (n:Int)]] w fun e w'=>(∃ z,e=.returned (.int .i64 z)/\rA n (cC f t d 1) k z)/\Below w.heap.size w w':=by
 have H2:=O h2
 have HP:=O hp
 have HS:=O hs
 have h3:=hs.1.2.2.1
 obtain ⟨a2,cap2,rfl,hn2,-⟩:=h2
 obtain ⟨xs,ho,-⟩:=hp
 obtain ⟨pa,pn,pc,rfl⟩:∃ a m c,pv=.slice a m c:=by
  rcases ho.2 with ⟨rfl,_⟩ | ⟨g,cap,cur,rfl,_⟩
  ·exact ⟨_,_,_,rfl⟩
  exact ⟨_,_,_,rfl⟩
 clear ho hs hn2
 obtain ⟨p,hp⟩:∃ p:Nat,(p:Int)=k+1:=⟨(k+1).toNat,by omega⟩
 obtain rfl:k=(p:Int) - 1:=by omega
 have wk:IntKind.i64.wrap ((p:Int) - 1+1)=(p:Int):=by rw [IntKind.wrap_i64];omega
 clear hp
 have T0:Hid (kK w (.slice a2 n cap2) (.slice pa pn pc) ((p:Int) - 1) t d (.func (.func 215) #[.agg #[.slice a2 n cap2,.slice pa pn pc,.int .i64 ((p:Int) - 1),.int .i64 (t:Int),.int .i64 (d:Int)]] #[]) 1 n _):=O (Below.refl _ _)
 go_enter Tryz.func173,Tryz.ntmps173
 go_wp2
 go_step3
 go_wp2
 go_step3
 go_wp2
 go_loopg [5,6] (n+1 - p) (fun gg fo i W=>∃ q:Nat,q+gg=n+1/\fo=.int .i64 n/\i=.int .i64 q/\p<=q/\(∀ j,p<=j->j<q->cC f t d 1 j=false)/\kK w (.slice a2 n cap2) (.slice pa pn pc) ((p:Int) - 1) t d (.func (.func 215) #[.agg #[.slice a2 n cap2,.slice pa pn pc,.int .i64 ((p:Int) - 1),.int .i64 (t:Int),.int .i64 (d:Int)]] #[]) 1 n W)
 case atStart=>exact ⟨p,by omega,rfl,by simp,Nat.le_refl _,fun j h1 h2=>by omega,Z T0⟩
 case round =>
  obtain ⟨q,hqg,rfl,rfl,hpq,hst,ht⟩:=hrel
  have HST:=O hst
  have HT:=O ht
  clear hst ht T0
  have hq0:decide ((0:Int)<=(q:Int))=true:=decide_eq_true (by omega)
  have x0:=(Z HT).b0
  have x3:=(Z HT).b3
  have y0:=(Z HT).c0
  have y1:=(Z HT).c1
  by_cases hlt:q<n
  ·have hqn:(q:Int)<(n:Int):=by omega
   have hqz:(0:Int)<=(q:Int):=by omega
   have HM:=(Z H2).below (Z HT).below
   have HMM:=O HM
   obtain ⟨_,_,e2,hn2,hv⟩:=HM
   cases e2
   obtain ⟨b,o,vv,rfl,-,hc1,-⟩:=hv q hlt
   clear hv hn2
   have wq:IntKind.i64.wrap ((q:Int)+1)=((q+1:Nat):Int):=by rw [IntKind.wrap_i64];omega
   by_cases htk:(f q).task=(t:Int)
   ·have HTQ:=O htk
    rw [htk] at hc1
    clear htk
    go_wp2_with fail
    go_quiet (fail)
    generalize hwd:wr.drewN _=wd
    have HTD:Hid (kK w (.slice (some ⟨b,o,none⟩) n cap2) (.slice pa pn pc) ((p:Int) - 1) t d (.func (.func 215) #[.agg #[.slice (some ⟨b,o,none⟩) n cap2,.slice pa pn pc,.int .i64 ((p:Int) - 1),.int .i64 (t:Int),.int .i64 (d:Int)]] #[]) 1 n wd):=O ((Z HT).go (by rw [<- hwd];exact below_drewN (Below.refl _ _) _))
    clear hwd x0 x3 y0 y1 hc1
    have HMD:=(Z H2).below (Z HTD).below
    have HPD:=(Z HP).below (Z HTD).below
    have y0:=(Z HTD).c0
    go_wp2_with fail
    refine (xN lo lp _ _ nf fns n f ((p:Int) - 1) t d q _ HMD HPD (Z HS) hlt (Z HTQ)).mono ?_
    rintro e wA ⟨rfl,hbA⟩
    have HTA:=O ((Z HTD).go hbA)
    have y1:=(Z HTA).c1
    clear hbA HTD HMD HPD y0
    cases em:qC f t d 1 q with
    | true =>
     have HE:Hid (cC f t d 1 q=true):=O (by unfold cC;rw [Z HTQ,beq_self_eq_true,Bool.true_and];exact em)
     clear em
     go_wp2
     try rw [Exit.noGoto_ret]
     go_ret
     exact ⟨⟨_,rfl,.inl ⟨q,rfl,by omega,hlt,Z HE,fun i h1 h2=>Z HST i (by omega) h2⟩⟩,(Z HTA).below⟩
    | false =>
     have HE:Hid (cC f t d 1 q=false):=O (by unfold cC;rw [Z HTQ,beq_self_eq_true,Bool.true_and];exact em)
     clear em
     go_wp2
     go_roundg (n+1 - (q+1))
     case measure=>omega
     case rel =>
      have hst':∀ j,p<=j->j<q+1->cC f t d 1 j=false:=fun j h1 h2=>by
       by_cases e':j=q
       ·rw [e'];exact Z HE
       exact Z HST j h1 (by omega)
      exact ⟨q+1,by omega,rfl,by go_num,by omega,hst',Z HTA⟩
   have hbt:((f q).task == (t:Int))=false:=by simpa using htk
   have HE:Hid (cC f t d 1 q=false):=O (by unfold cC;rw [hbt];rfl)
   clear htk
   go_wp2_with fail
   go_quiet (fail)
   generalize hwd:wr.drewN _=wd
   have HTD:Hid (kK w (.slice (some ⟨b,o,none⟩) n cap2) (.slice pa pn pc) ((p:Int) - 1) t d (.func (.func 215) #[.agg #[.slice (some ⟨b,o,none⟩) n cap2,.slice pa pn pc,.int .i64 ((p:Int) - 1),.int .i64 (t:Int),.int .i64 (d:Int)]] #[]) 1 n wd):=O ((Z HT).go (by rw [<- hwd];exact below_drewN (Below.refl _ _) _))
   clear hwd x0 x3 y0 y1 hc1
   have y1:=(Z HTD).c1
   go_wp2
   go_roundg (n+1 - (q+1))
   case measure=>omega
   case rel =>
    have hst':∀ j,p<=j->j<q+1->cC f t d 1 j=false:=fun j h1 h2=>by
     by_cases e':j=q
     ·rw [e'];exact Z HE
     exact Z HST j h1 (by omega)
    exact ⟨q+1,by omega,rfl,by go_num,by omega,hst',Z HTD⟩
  have hqn:¬ (q:Int)<(n:Int):=by omega
  go_wp2
  try rw [Exit.noGoto_ret]
  go_ret
  exact ⟨⟨_,rfl,.inr ⟨rfl,fun i h1 h2=>Z HST i (by omega) (by omega)⟩⟩,(Z HT).below⟩
theorem walk2_any (lo lp:Nat) (mv pv:Value) (nf:Nat) (fns:Nat->ByteArray) (n:Nat) (f:Nat->M) (k:Int) (t d:Nat) (w:World) (h2:bQ lo w mv n f) (hp:bW lp w pv n f) (hs:cB nf fns n f) (hk0:-1<=k) (hk1:k<=n) :
  Calls Tryz.prog 173 #[tT mv pv k t d,.agg #[.func (.func 216) #[.agg #[mv,pv,.int .i64 k,.int .i64 (t:Int),.int .i64 (d:Int)]] #[],.int .i64 1,.int .i64 (n:Int)]] w fun e w'=>(∃ z,e=.returned (.int .i64 z)/\rA n (cC f t d 2) k z)/\Below w.heap.size w w':=by
 have H2:=O h2
 have HP:=O hp
 have HS:=O hs
 have h3:=hs.1.2.2.1
 obtain ⟨a2,cap2,rfl,hn2,-⟩:=h2
 obtain ⟨xs,ho,-⟩:=hp
 obtain ⟨pa,pn,pc,rfl⟩:∃ a m c,pv=.slice a m c:=by
  rcases ho.2 with ⟨rfl,_⟩ | ⟨g,cap,cur,rfl,_⟩
  ·exact ⟨_,_,_,rfl⟩
  exact ⟨_,_,_,rfl⟩
 clear ho hs hn2
 obtain ⟨p,hp⟩:∃ p:Nat,(p:Int)=k+1:=⟨(k+1).toNat,by omega⟩
 obtain rfl:k=(p:Int) - 1:=by omega
 have wk:IntKind.i64.wrap ((p:Int) - 1+1)=(p:Int):=by rw [IntKind.wrap_i64];omega
 clear hp
 have T0:Hid (kK w (.slice a2 n cap2) (.slice pa pn pc) ((p:Int) - 1) t d (.func (.func 216) #[.agg #[.slice a2 n cap2,.slice pa pn pc,.int .i64 ((p:Int) - 1),.int .i64 (t:Int),.int .i64 (d:Int)]] #[]) 1 n _):=O (Below.refl _ _)
 go_enter Tryz.func173,Tryz.ntmps173
 go_wp2
 go_step3
 go_wp2
 go_step3
 go_wp2
 go_loopg [5,6] (n+1 - p) (fun gg fo i W=>∃ q:Nat,q+gg=n+1/\fo=.int .i64 n/\i=.int .i64 q/\p<=q/\(∀ j,p<=j->j<q->cC f t d 2 j=false)/\kK w (.slice a2 n cap2) (.slice pa pn pc) ((p:Int) - 1) t d (.func (.func 216) #[.agg #[.slice a2 n cap2,.slice pa pn pc,.int .i64 ((p:Int) - 1),.int .i64 (t:Int),.int .i64 (d:Int)]] #[]) 1 n W)
 case atStart=>exact ⟨p,by omega,rfl,by simp,Nat.le_refl _,fun j h1 h2=>by omega,Z T0⟩
 case round =>
  obtain ⟨q,hqg,rfl,rfl,hpq,hst,ht⟩:=hrel
  have HST:=O hst
  have HT:=O ht
  clear hst ht T0
  have hq0:decide ((0:Int)<=(q:Int))=true:=decide_eq_true (by omega)
  have x0:=(Z HT).b0
  have x3:=(Z HT).b3
  have y0:=(Z HT).c0
  have y1:=(Z HT).c1
  by_cases hlt:q<n
  ·have hqn:(q:Int)<(n:Int):=by omega
   have hqz:(0:Int)<=(q:Int):=by omega
   have HM:=(Z H2).below (Z HT).below
   have HMM:=O HM
   obtain ⟨_,_,e2,hn2,hv⟩:=HM
   cases e2
   obtain ⟨b,o,vv,rfl,-,hc1,-⟩:=hv q hlt
   clear hv hn2
   have wq:IntKind.i64.wrap ((q:Int)+1)=((q+1:Nat):Int):=by rw [IntKind.wrap_i64];omega
   by_cases htk:(f q).task=(t:Int)
   ·have HTQ:=O htk
    rw [htk] at hc1
    clear htk
    go_wp2_with fail
    go_quiet (fail)
    generalize hwd:wr.drewN _=wd
    have HTD:Hid (kK w (.slice (some ⟨b,o,none⟩) n cap2) (.slice pa pn pc) ((p:Int) - 1) t d (.func (.func 216) #[.agg #[.slice (some ⟨b,o,none⟩) n cap2,.slice pa pn pc,.int .i64 ((p:Int) - 1),.int .i64 (t:Int),.int .i64 (d:Int)]] #[]) 1 n wd):=O ((Z HT).go (by rw [<- hwd];exact below_drewN (Below.refl _ _) _))
    clear hwd x0 x3 y0 y1 hc1
    have HMD:=(Z H2).below (Z HTD).below
    have HPD:=(Z HP).below (Z HTD).below
    have y0:=(Z HTD).c0
    go_wp2_with fail
    refine (bD8 lo lp _ _ nf fns n f ((p:Int) - 1) t d q _ HMD HPD (Z HS) hlt (Z HTQ)).mono ?_
    rintro e wA ⟨rfl,hbA⟩
    have HTA:=O ((Z HTD).go hbA)
    have y1:=(Z HTA).c1
    clear hbA HTD HMD HPD y0
    cases em:qC f t d 2 q with
    | true =>
     have HE:Hid (cC f t d 2 q=true):=O (by unfold cC;rw [Z HTQ,beq_self_eq_true,Bool.true_and];exact em)
     clear em
     go_wp2
     try rw [Exit.noGoto_ret]
     go_ret
     exact ⟨⟨_,rfl,.inl ⟨q,rfl,by omega,hlt,Z HE,fun i h1 h2=>Z HST i (by omega) h2⟩⟩,(Z HTA).below⟩
    | false =>
     have HE:Hid (cC f t d 2 q=false):=O (by unfold cC;rw [Z HTQ,beq_self_eq_true,Bool.true_and];exact em)
     clear em
     go_wp2
     go_roundg (n+1 - (q+1))
     case measure=>omega
     case rel =>
      have hst':∀ j,p<=j->j<q+1->cC f t d 2 j=false:=fun j h1 h2=>by
       by_cases e':j=q
       ·rw [e'];exact Z HE
       exact Z HST j h1 (by omega)
      exact ⟨q+1,by omega,rfl,by go_num,by omega,hst',Z HTA⟩
   have hbt:((f q).task == (t:Int))=false:=by simpa using htk
   have HE:Hid (cC f t d 2 q=false):=O (by unfold cC;rw [hbt];rfl)
   clear htk
   go_wp2_with fail
   go_quiet (fail)
   generalize hwd:wr.drewN _=wd
   have HTD:Hid (kK w (.slice (some ⟨b,o,none⟩) n cap2) (.slice pa pn pc) ((p:Int) - 1) t d (.func (.func 216) #[.agg #[.slice (some ⟨b,o,none⟩) n cap2,.slice pa pn pc,.int .i64 ((p:Int) - 1),.int .i64 (t:Int),.int .i64 (d:Int)]] #[]) 1 n wd):=O ((Z HT).go (by rw [<- hwd];exact below_drewN (Below.refl _ _) _))
   clear hwd x0 x3 y0 y1 hc1
   have y1:=(Z HTD).c1
   go_wp2
   go_roundg (n+1 - (q+1))
   case measure=>omega
   case rel =>
    have hst':∀ j,p<=j->j<q+1->cC f t d 2 j=false:=fun j h1 h2=>by
     by_cases e':j=q
     ·rw [e'];exact Z HE
     exact Z HST j h1 (by omega)
    exact ⟨q+1,by omega,rfl,by go_num,by omega,hst',Z HTD⟩
  have hqn:¬ (q:Int)<(n:Int):=by omega
  go_wp2
  try rw [Exit.noGoto_ret]
  go_ret
  exact ⟨⟨_,rfl,.inr ⟨rfl,fun i h1 h2=>Z HST i (by omega) (by omega)⟩⟩,(Z HT).below⟩
end
theorem index_way0 (x0 x1 x2 x3 x4 x5 x6 x7 x8 x9 x10 x11:Value) (w:World):(Instr.index 268 (.agg #[x0,x1,x2,x3,x4,x5,x6,x7,x8,x9,x10,x11]) (.int .i64 0)).run Tryz.prog w=.ok (.agg #[x0,x1,x2]) w:=by kernel_rfl
theorem index_way1 (x0 x1 x2 x3 x4 x5 x6 x7 x8 x9 x10 x11:Value) (w:World):(Instr.index 268 (.agg #[x0,x1,x2,x3,x4,x5,x6,x7,x8,x9,x10,x11]) (.int .i64 1)).run Tryz.prog w=.ok (.agg #[x3,x4,x5]) w:=by kernel_rfl
theorem index_way2 (x0 x1 x2 x3 x4 x5 x6 x7 x8 x9 x10 x11:Value) (w:World):(Instr.index 268 (.agg #[x0,x1,x2,x3,x4,x5,x6,x7,x8,x9,x10,x11]) (.int .i64 2)).run Tryz.prog w=.ok (.agg #[x6,x7,x8]) w:=by kernel_rfl
theorem bN0 (lo lp:Nat) (mv pv:Value) (nf:Nat) (fns:Nat->ByteArray) (n:Nat) (f:Nat->M) (k:Int) (w:World) (h2:bQ lo w mv n f) (hp:bW lp w pv n f) (hs:cB nf fns n f) (hk0:-1<=k) (hk1:k<=n) :
  Calls Tryz.prog 127 #[mv,pv,.int .i64 k,.int .i64 0] w fun e w'=>(∃ z,e=.returned (.int .i64 z)/\jE n f k 0 z)/\Below w.heap.size w w':=by
 have H2:=O h2
 have HP:=O hp
 have HS:=O hs
 have h3:=hs.1.2.2.1
 obtain ⟨a2,cap2,rfl,hn2,-⟩:=h2
 obtain ⟨xs,ho,-⟩:=hp
 obtain ⟨pa,pn,pc,rfl⟩:∃ a m c,pv=.slice a m c:=by
  rcases ho.2 with ⟨rfl,_⟩ | ⟨g,cap,cur,rfl,_⟩
  ·exact ⟨_,_,_,rfl⟩
  exact ⟨_,_,_,rfl⟩
 clear ho hs hn2
 have HI:Hid (∀ z,rA n (cC f (St.after f (cQ n k)).cur ((St.after f (cQ n k)).tasks (St.after f (cQ n k)).cur).length 0) k z->jE n f k 0 z):=O (fun z hz=>.inl ⟨by omega,hz⟩)
 go_enter Tryz.func127,Tryz.ntmps127
 go_wp2_with fail
 refine (jN lp _ n f k _ (Z HP) h3 hk0 hk1).mono ?_
 rintro e w1 ⟨⟨top,bw,rfl,hpl⟩,hb1⟩
 have HL:=O hpl.1
 have HB1:=O hb1
 clear hpl hb1
 generalize ((St.after f (cQ n k)).tasks (St.after f (cQ n k)).cur)=lst at HL HI
 generalize (St.after f (cQ n k)).cur=t at HI ⊢
 obtain ⟨d,hd⟩:∃ d,d=lst.length:=⟨_,rfl⟩
 have HD:=O hd
 rw [<- hd] at HI
 clear hd
 go_wp2_with fail
 go_region_held3 (fun w'=>w'.cell? ⟨w1.heap.size,0,none⟩=some (.int .i64 (t:Int))/\w'.cell? ⟨w1.heap.size,1,none⟩=some (.pointer top))
  (go_keep) ((go_at_call 172;refine (mL lst top _ ((Z HL).below (by first | exact (bH w1 _).drew | exact ((bH w1 _).trans ((bH _ _).mono (by simp))).drew))).mono ?_;rw [<- Z HD];rintro e w2 ⟨rfl,rfl⟩))
 all_goals
  obtain ⟨W1,hW1⟩:∃ W1,W1=w1.alloc (.cells #[.int .i64 (t:Int),.pointer top,.pointer (some ⟨bw,0,none⟩)] 119):=⟨_,rfl⟩
  have hs1:W1.heap.size=w1.heap.size+1:=by rw [hW1];simp
  have HB2:=O ((Z HB1).trans ((by rw [hW1];exact bH _ _:Below w1.heap.size w1 W1).mono (Z HB1).size))
  rw [<- hW1,<- hs1]
  clear hW1 hs1 HL HD
  obtain ⟨W2,hW2⟩:∃ W2,W2=(W1.alloc (.cells #[.slice a2 n cap2,.slice pa pn pc,.int .i64 k,.int .i64 (t:Int),.int .i64 (d:Int)] 264)).drew:=⟨_,rfl⟩
  have T2:Hid (jR W1 (.slice a2 n cap2) (.slice pa pn pc) k t d W2):=O (by rw [hW2];exact (jR.new _ _ _ _ _ _).go (Below.refl _ _).drew)
  rw [<- hW2]
  clear hW2
  have T3:=O ((Z T2).go ((Below.refl _ _).drew))
  have hix:=index_way0
  have x0:=(Z T2).b0
  have x1:=(Z T2).b1
  have x2:=(Z T2).b2
  have x3:=(Z T2).b3
  have x4:=(Z T2).b4
  go_wp2_with fail
  go_region_held3 (fun w'=>w'.cell? ⟨W1.heap.size,0,none⟩=some (.slice a2 n cap2)/\w'.cell? ⟨W1.heap.size,1,none⟩=some (.slice pa pn pc)/\w'.cell? ⟨W1.heap.size,2,none⟩=some (.int .i64 k)/\w'.cell? ⟨W1.heap.size,3,none⟩=some (.int .i64 (t:Int))/\w'.cell? ⟨W1.heap.size,4,none⟩=some (.int .i64 (d:Int)))
   (first | (exact (Z T3).cells) | (exact ((Z T3).go hbA).cells) | (exact (((Z T3).go hbA).go hbB).cells))
   ((first | (go_at_call 174;refine (bH4 lo _ _ n f k t d _ ((Z H2).below (by exact (Z HB2).trans ((Z T3).below.mono (Z HB2).size))) ⟨_,_,_,rfl⟩).mono ?_;rintro e wA ⟨rfl,hbA⟩) | (go_at_call 173;have HBX:=(Z HB2).trans (((Z T3).go hbA).below.mono (Z HB2).size);refine (walk0_any lo lp _ _ nf fns n f k t d _ (by exact (Z H2).below HBX) (by exact (Z HP).below HBX) (Z HS) hk0 hk1).mono ?_;rintro e wB ⟨⟨z,rfl,hz⟩,hbB⟩)))
  go_wp2
  go_ret
  exact ⟨⟨z,rfl,Z HI z hz⟩,(Z HB2).trans ((((Z T3).go hbA).go hbB).below.mono (Z HB2).size)⟩
theorem bN1 (lo lp:Nat) (mv pv:Value) (nf:Nat) (fns:Nat->ByteArray) (n:Nat) (f:Nat->M) (k:Int) (w:World) (h2:bQ lo w mv n f) (hp:bW lp w pv n f) (hs:cB nf fns n f) (hk0:-1<=k) (hk1:k<=n) :
  Calls Tryz.prog 127 #[mv,pv,.int .i64 k,.int .i64 1] w fun e w'=>(∃ z,e=.returned (.int .i64 z)/\jE n f k 1 z)/\Below w.heap.size w w':=by
 have H2:=O h2
 have HP:=O hp
 have HS:=O hs
 have h3:=hs.1.2.2.1
 obtain ⟨a2,cap2,rfl,hn2,-⟩:=h2
 obtain ⟨xs,ho,-⟩:=hp
 obtain ⟨pa,pn,pc,rfl⟩:∃ a m c,pv=.slice a m c:=by
  rcases ho.2 with ⟨rfl,_⟩ | ⟨g,cap,cur,rfl,_⟩
  ·exact ⟨_,_,_,rfl⟩
  exact ⟨_,_,_,rfl⟩
 clear ho hs hn2
 have HI:Hid (∀ z,rA n (cC f (St.after f (cQ n k)).cur ((St.after f (cQ n k)).tasks (St.after f (cQ n k)).cur).length 1) k z->jE n f k 1 z):=O (fun z hz=>.inl ⟨by omega,hz⟩)
 go_enter Tryz.func127,Tryz.ntmps127
 go_wp2_with fail
 refine (jN lp _ n f k _ (Z HP) h3 hk0 hk1).mono ?_
 rintro e w1 ⟨⟨top,bw,rfl,hpl⟩,hb1⟩
 have HL:=O hpl.1
 have HB1:=O hb1
 clear hpl hb1
 generalize ((St.after f (cQ n k)).tasks (St.after f (cQ n k)).cur)=lst at HL HI
 generalize (St.after f (cQ n k)).cur=t at HI ⊢
 obtain ⟨d,hd⟩:∃ d,d=lst.length:=⟨_,rfl⟩
 have HD:=O hd
 rw [<- hd] at HI
 clear hd
 go_wp2_with fail
 go_region_held3 (fun w'=>w'.cell? ⟨w1.heap.size,0,none⟩=some (.int .i64 (t:Int))/\w'.cell? ⟨w1.heap.size,1,none⟩=some (.pointer top))
  (go_keep) ((go_at_call 172;refine (mL lst top _ ((Z HL).below (by first | exact (bH w1 _).drew | exact ((bH w1 _).trans ((bH _ _).mono (by simp))).drew))).mono ?_;rw [<- Z HD];rintro e w2 ⟨rfl,rfl⟩))
 all_goals
  obtain ⟨W1,hW1⟩:∃ W1,W1=w1.alloc (.cells #[.int .i64 (t:Int),.pointer top,.pointer (some ⟨bw,0,none⟩)] 119):=⟨_,rfl⟩
  have hs1:W1.heap.size=w1.heap.size+1:=by rw [hW1];simp
  have HB2:=O ((Z HB1).trans ((by rw [hW1];exact bH _ _:Below w1.heap.size w1 W1).mono (Z HB1).size))
  rw [<- hW1,<- hs1]
  clear hW1 hs1 HL HD
  obtain ⟨W2,hW2⟩:∃ W2,W2=(W1.alloc (.cells #[.slice a2 n cap2,.slice pa pn pc,.int .i64 k,.int .i64 (t:Int),.int .i64 (d:Int)] 264)).drew:=⟨_,rfl⟩
  have T2:Hid (jR W1 (.slice a2 n cap2) (.slice pa pn pc) k t d W2):=O (by rw [hW2];exact (jR.new _ _ _ _ _ _).go (Below.refl _ _).drew)
  rw [<- hW2]
  clear hW2
  have T3:=O ((Z T2).go ((Below.refl _ _).drew))
  have hix:=index_way1
  have x0:=(Z T2).b0
  have x1:=(Z T2).b1
  have x2:=(Z T2).b2
  have x3:=(Z T2).b3
  have x4:=(Z T2).b4
  go_wp2_with fail
  go_region_held3 (fun w'=>w'.cell? ⟨W1.heap.size,0,none⟩=some (.slice a2 n cap2)/\w'.cell? ⟨W1.heap.size,1,none⟩=some (.slice pa pn pc)/\w'.cell? ⟨W1.heap.size,2,none⟩=some (.int .i64 k)/\w'.cell? ⟨W1.heap.size,3,none⟩=some (.int .i64 (t:Int))/\w'.cell? ⟨W1.heap.size,4,none⟩=some (.int .i64 (d:Int)))
   (first | (exact (Z T3).cells) | (exact ((Z T3).go hbA).cells) | (exact (((Z T3).go hbA).go hbB).cells))
   ((first | (go_at_call 174;refine (bH4 lo _ _ n f k t d _ ((Z H2).below (by exact (Z HB2).trans ((Z T3).below.mono (Z HB2).size))) ⟨_,_,_,rfl⟩).mono ?_;rintro e wA ⟨rfl,hbA⟩) | (go_at_call 173;have HBX:=(Z HB2).trans (((Z T3).go hbA).below.mono (Z HB2).size);refine (walk1_any lo lp _ _ nf fns n f k t d _ (by exact (Z H2).below HBX) (by exact (Z HP).below HBX) (Z HS) hk0 hk1).mono ?_;rintro e wB ⟨⟨z,rfl,hz⟩,hbB⟩)))
  go_wp2
  go_ret
  exact ⟨⟨z,rfl,Z HI z hz⟩,(Z HB2).trans ((((Z T3).go hbA).go hbB).below.mono (Z HB2).size)⟩
theorem bN2 (lo lp:Nat) (mv pv:Value) (nf:Nat) (fns:Nat->ByteArray) (n:Nat) (f:Nat->M) (k:Int) (w:World) (h2:bQ lo w mv n f) (hp:bW lp w pv n f) (hs:cB nf fns n f) (hk0:-1<=k) (hk1:k<=n) :
  Calls Tryz.prog 127 #[mv,pv,.int .i64 k,.int .i64 2] w fun e w'=>(∃ z,e=.returned (.int .i64 z)/\jE n f k 2 z)/\Below w.heap.size w w':=by
 have H2:=O h2
 have HP:=O hp
 have HS:=O hs
 have h3:=hs.1.2.2.1
 obtain ⟨a2,cap2,rfl,hn2,-⟩:=h2
 obtain ⟨xs,ho,-⟩:=hp
 obtain ⟨pa,pn,pc,rfl⟩:∃ a m c,pv=.slice a m c:=by
  rcases ho.2 with ⟨rfl,_⟩ | ⟨g,cap,cur,rfl,_⟩
  ·exact ⟨_,_,_,rfl⟩
  exact ⟨_,_,_,rfl⟩
 clear ho hs hn2
 have HI:Hid (∀ z,rA n (cC f (St.after f (cQ n k)).cur ((St.after f (cQ n k)).tasks (St.after f (cQ n k)).cur).length 2) k z->jE n f k 2 z):=O (fun z hz=>.inl ⟨by omega,hz⟩)
 go_enter Tryz.func127,Tryz.ntmps127
 go_wp2_with fail
 refine (jN lp _ n f k _ (Z HP) h3 hk0 hk1).mono ?_
 rintro e w1 ⟨⟨top,bw,rfl,hpl⟩,hb1⟩
 have HL:=O hpl.1
 have HB1:=O hb1
 clear hpl hb1
 generalize ((St.after f (cQ n k)).tasks (St.after f (cQ n k)).cur)=lst at HL HI
 generalize (St.after f (cQ n k)).cur=t at HI ⊢
 obtain ⟨d,hd⟩:∃ d,d=lst.length:=⟨_,rfl⟩
 have HD:=O hd
 rw [<- hd] at HI
 clear hd
 go_wp2_with fail
 go_region_held3 (fun w'=>w'.cell? ⟨w1.heap.size,0,none⟩=some (.int .i64 (t:Int))/\w'.cell? ⟨w1.heap.size,1,none⟩=some (.pointer top))
  (go_keep) ((go_at_call 172;refine (mL lst top _ ((Z HL).below (by first | exact (bH w1 _).drew | exact ((bH w1 _).trans ((bH _ _).mono (by simp))).drew))).mono ?_;rw [<- Z HD];rintro e w2 ⟨rfl,rfl⟩))
 all_goals
  obtain ⟨W1,hW1⟩:∃ W1,W1=w1.alloc (.cells #[.int .i64 (t:Int),.pointer top,.pointer (some ⟨bw,0,none⟩)] 119):=⟨_,rfl⟩
  have hs1:W1.heap.size=w1.heap.size+1:=by rw [hW1];simp
  have HB2:=O ((Z HB1).trans ((by rw [hW1];exact bH _ _:Below w1.heap.size w1 W1).mono (Z HB1).size))
  rw [<- hW1,<- hs1]
  clear hW1 hs1 HL HD
  obtain ⟨W2,hW2⟩:∃ W2,W2=(W1.alloc (.cells #[.slice a2 n cap2,.slice pa pn pc,.int .i64 k,.int .i64 (t:Int),.int .i64 (d:Int)] 264)).drew:=⟨_,rfl⟩
  have T2:Hid (jR W1 (.slice a2 n cap2) (.slice pa pn pc) k t d W2):=O (by rw [hW2];exact (jR.new _ _ _ _ _ _).go (Below.refl _ _).drew)
  rw [<- hW2]
  clear hW2
  have T3:=O ((Z T2).go ((Below.refl _ _).drew))
  have hix:=index_way2
  have x0:=(Z T2).b0
  have x1:=(Z T2).b1
  have x2:=(Z T2).b2
  have x3:=(Z T2).b3
  have x4:=(Z T2).b4
  go_wp2_with fail
  go_region_held3 (fun w'=>w'.cell? ⟨W1.heap.size,0,none⟩=some (.slice a2 n cap2)/\w'.cell? ⟨W1.heap.size,1,none⟩=some (.slice pa pn pc)/\w'.cell? ⟨W1.heap.size,2,none⟩=some (.int .i64 k)/\w'.cell? ⟨W1.heap.size,3,none⟩=some (.int .i64 (t:Int))/\w'.cell? ⟨W1.heap.size,4,none⟩=some (.int .i64 (d:Int)))
   (first | (exact (Z T3).cells) | (exact ((Z T3).go hbA).cells) | (exact (((Z T3).go hbA).go hbB).cells))
   ((first | (go_at_call 174;refine (bH4 lo _ _ n f k t d _ ((Z H2).below (by exact (Z HB2).trans ((Z T3).below.mono (Z HB2).size))) ⟨_,_,_,rfl⟩).mono ?_;rintro e wA ⟨rfl,hbA⟩) | (go_at_call 173;have HBX:=(Z HB2).trans (((Z T3).go hbA).below.mono (Z HB2).size);refine (walk2_any lo lp _ _ nf fns n f k t d _ (by exact (Z H2).below HBX) (by exact (Z HP).below HBX) (Z HS) hk0 hk1).mono ?_;rintro e wB ⟨⟨z,rfl,hz⟩,hbB⟩)))
  go_wp2
  go_ret
  exact ⟨⟨z,rfl,Z HI z hz⟩,(Z HB2).trans ((((Z T3).go hbA).go hbB).below.mono (Z HB2).size)⟩
theorem l4into_any (lo:Nat) (v1 v2:Value) (nf:Nat) (fns:Nat->ByteArray) (n:Nat) (f:Nat->M) (k:Int) (w:World) (h2:bQ lo w v2 n f) (hs:cB nf fns n f) (hk1:-1<=k) (hk2:k<=n) :
  Calls Tryz.prog 95 #[.agg #[v1,v2],.int .i64 k] w fun e w'=>(∃ z,e=.returned (.int .i64 z)/\jE n f k 0 z)/\Below w.heap.size w w':=by
 have H2:=O h2
 obtain ⟨a2,cap2,rfl,hn2,-⟩:=h2
 have hn3:=hs.1.2.2.1
 have HS:=O hs;clear hs hn2
 have T0:=O (cS.new w v1 (.slice a2 n cap2))
 have HI:Hid (∀ z,rA n (cC f (St.after f (cQ n k)).cur ((St.after f (cQ n k)).tasks (St.after f (cQ n k)).cur).length 0) k z->jE n f k 0 z):=O (fun z hz=>.inl ⟨by omega,hz⟩)
 go_enter Tryz.func95,Tryz.ntmps95
 go_wp2_with fail
 refine (tH lo _ _ nf fns n f k _ ((Z H2).below (Z T0).below) (Z HS) hk1 hk2).mono ?_
 rintro e w1 ⟨⟨ps,rfl,bt,V,hc⟩,hb1⟩
 have T1:=O ((Z T0).go hb1)
 have c1:=hc.c1
 clear hc hb1 T0
 generalize ((St.after f (cQ n k)).tasks (St.after f (cQ n k)).cur).length=d at HI
 generalize (St.after f (cQ n k)).cur=t at HI c1
 obtain ⟨p,hp⟩:∃ p:Nat,(p:Int)=k+1:=⟨(k+1).toNat,by omega⟩
 obtain rfl:k=(p:Int) - 1:=by omega
 have wk:IntKind.i64.wrap ((p:Int) - 1+1)=(p:Int):=by rw [IntKind.wrap_i64];omega
 clear hp
 go_wp2_with fail
 go_loopg [7] (n+1 - p) (fun gg i W=>∃ q:Nat,q+gg=n+1/\i=.int .i64 q/\p<=q/\(∀ j,p<=j->j<q->cC f t d 0 j=false)/\W=w1)
 case atStart=>exact ⟨p,by omega,by simp,Nat.le_refl _,fun j h1 h2=>by omega,rfl⟩
 case round =>
  obtain ⟨q,hqg,rfl,hpq,hst,rfl⟩:=hrel
  have HST:=O hst
  clear hst
  have g1:=(Z T1).b1
  by_cases hlt:q<n
  ·have hqn:(q:Int)<(n:Int):=by omega
   have hqz:(0:Int)<=(q:Int):=by omega
   obtain ⟨_,_,e2,hn2,hv⟩:=(Z H2).below (Z T1).below
   cases e2
   obtain ⟨b,o,vv,rfl,hc0,hc1,-⟩:=hv q hlt
   clear hv hn2
   have wq:IntKind.i64.wrap ((q:Int)+1)=((q+1:Nat):Int):=by rw [IntKind.wrap_i64];omega
   cases e1:(f q).kind == 1 with
   | true =>
    cases e3:(f q).task == (t:Int) with
    | true =>
     have HE:Hid (cC f t d 0 q=true):=O (by unfold cC qC;rw [e3];exact e1)
     go_wp2
     go_ret
     exact ⟨⟨_,rfl,Z HI _ (.inl ⟨q,rfl,by omega,hlt,Z HE,fun i h1 h2=>Z HST i (by omega) h2⟩)⟩,(Z T1).below⟩
    | false =>
     have HE:Hid (cC f t d 0 q=false):=O (by unfold cC;rw [e3];rfl)
     go_wp2
     go_roundg (n+1 - (q+1))
     case measure=>omega
     case rel =>
      have hst':∀ j,p<=j->j<q+1->cC f t d 0 j=false:=fun j h1 h2=>by
       by_cases e':j=q
       ·rw [e'];exact Z HE
       exact Z HST j h1 (by omega)
      exact ⟨q+1,by omega,by go_num,by omega,hst',rfl⟩
   | false =>
    have HE:Hid (cC f t d 0 q=false):=O (by unfold cC qC;simp [e1])
    go_wp2
    go_roundg (n+1 - (q+1))
    case measure=>omega
    case rel =>
     have hst':∀ j,p<=j->j<q+1->cC f t d 0 j=false:=fun j h1 h2=>by
      by_cases e':j=q
      ·rw [e'];exact Z HE
      exact Z HST j h1 (by omega)
     exact ⟨q+1,by omega,by go_num,by omega,hst',rfl⟩
  have hqn:¬ (q:Int)<(n:Int):=by omega
  go_wp2
  go_ret
  exact ⟨⟨_,rfl,Z HI _ (.inr ⟨rfl,fun i h1 h2=>Z HST i (by omega) (by omega)⟩)⟩,(Z T1).below⟩
def eT (f:Nat->M) (t d:Nat) (kd less:Int) (i:Nat):Bool:=((f i).kind == kd) && ((f i).task == (t:Int)) && decide ((qB f t i:Int)<=(d:Int) - less)
def LeaveIs (n:Nat) (f:Nat->M) (k kd less z:Int):Prop:=rA n (eT f (St.after f (cQ n k)).cur ((St.after f (cQ n k)).tasks (St.after f (cQ n k)).cur).length kd less) k z
theorem leave_over (f:Nat->M) (t d:Nat):eT f t d 1 0=cC f t d 1:=by
 funext i
 unfold eT cC qC
 rw [show decide ((qB f t i:Int)<=(d:Int) - 0)=decide (qB f t i<=d) from by rw [decide_eq_decide];omega]
 cases (f i).kind == 1<;>cases (f i).task == (t:Int)<;>simp
theorem leave_out (f:Nat->M) (t d:Nat):eT f t d 3 1=cC f t d 2:=by
 funext i
 unfold eT cC qC
 rw [show decide ((qB f t i:Int)<=(d:Int) - 1)=decide (qB f t i<d) from by rw [decide_eq_decide];omega]
 cases (f i).kind == 3<;>cases (f i).task == (t:Int)<;>simp
theorem bB8 (lo:Nat) (v1 v2:Value) (nf:Nat) (fns:Nat->ByteArray) (n:Nat) (f:Nat->M) (k kd less:Int) (w:World) (h2:bQ lo w v2 n f) (hs:cB nf fns n f) (hk1:-1<=k) (hk2:k<=n) (hl1:0<=less) (hl2:less<=1) :
  Calls Tryz.prog 96 #[.agg #[v1,v2],.int .i64 k,.int .i64 kd,.int .i64 less] w fun e w'=>(∃ z,e=.returned (.int .i64 z)/\LeaveIs n f k kd less z)/\Below w.heap.size w w':=by
 have H2:=O h2
 obtain ⟨a2,cap2,rfl,hn2,-⟩:=h2
 have hn3:=hs.1.2.2.1
 have HS:=O hs;clear hs hn2
 have T0:=O (cS.new w v1 (.slice a2 n cap2))
 have HI:Hid (∀ z,rA n (eT f (St.after f (cQ n k)).cur ((St.after f (cQ n k)).tasks (St.after f (cQ n k)).cur).length kd less) k z->LeaveIs n f k kd less z):=O (fun z hz=>hz)
 go_enter Tryz.func96,Tryz.ntmps96
 go_wp2_with fail
 refine (tH lo _ _ nf fns n f k _ ((Z H2).below (Z T0).below) (Z HS) hk1 hk2).mono ?_
 rintro e w1 ⟨⟨ps,rfl,hsp⟩,hb1⟩
 have T1:=O ((Z T0).go hb1)
 obtain ⟨B,hBe⟩:∃ B,B=(w.alloc (.cells #[v1,.slice a2 n cap2] 26)).heap.size+1:=⟨_,rfl⟩
 rw [<- hBe] at hsp
 have HBE:Hid (B=w.heap.size+2):=O (by rw [hBe];simp)
 have HSP0:Hid (∀ p:Nat,k=(p:Int) - 1->p<=n->cG B w1 ps (St.after f p)):=O (fun p hp hpn=>by
  have e:cQ n k=p:=by unfold cQ;omega
  rw [<- e];exact hsp)
 obtain ⟨bt,V,hc⟩:=hsp
 have c0:=hc.c0
 have c1:=hc.c1
 have hcur:=hc.cur
 have cV:=hc.row.cell hcur
 have hle:=hc.len _ hcur
 obtain ⟨sa,scap,eV⟩:=bR (hc.own _ hcur)
 rw [eV] at cV
 clear hc hb1 T0 hBe eV
 generalize ((St.after f (cQ n k)).tasks (St.after f (cQ n k)).cur).length=d at cV hle HI
 generalize (St.after f (cQ n k)).cur=t at c1 cV hcur HI
 obtain ⟨p,hp⟩:∃ p:Nat,(p:Int)=k+1:=⟨(k+1).toNat,by omega⟩
 obtain rfl:k=(p:Int) - 1:=by omega
 have HSP:=O (fun h=>Z HSP0 p rfl h)
 have wk:IntKind.i64.wrap ((p:Int) - 1+1)=(p:Int):=by rw [IntKind.wrap_i64];omega
 have wd:IntKind.i64.wrap ((d:Int) - less)=(d:Int) - less:=by rw [IntKind.wrap_i64];omega
 have ht0:(0:Int)<=(t:Int):=by omega
 have ht1:(t:Int)<101:=by omega
 clear hp HSP0
 go_wp2_with fail
 go_loopg [12] (n+1 - p) (fun gg i W=>∃ q:Nat,q+gg=n+1/\i=.int .i64 q/\p<=q/\(∀ j,p<=j->j<q->eT f t d kd less j=false)/\(q<=n->cG B W ps (St.after f q))/\cS w v1 (.slice a2 n cap2) W)
 case atStart=>exact ⟨p,by omega,by simp,Nat.le_refl _,fun j h1 h2=>by omega,Z HSP,Z T1⟩
 case round =>
  clear HSP T1 c0 c1 cV
  obtain ⟨q,hqg,rfl,hpq,hst,hsp,ht⟩:=hrel
  have HST:=O hst
  have HT:=O ht
  have g1:=(Z HT).b1
  by_cases hlt:q<n
  ·have HSP:=O (hsp (by omega))
   clear hst ht hsp
   have hqn:(q:Int)<(n:Int):=by omega
   have hqz:(0:Int)<=(q:Int):=by omega
   obtain ⟨_,_,e2,hn2,hv⟩:=(Z H2).below (Z HT).below
   cases e2
   obtain ⟨bm,om,vv,rfl,hc0,hc1,hc2,hc3,hc4,hc5,-,hs2,-⟩:=hv q hlt
   clear hv hn2
   obtain ⟨av,capv,rfl,-⟩:=hs2
   have hmo:=(Z HS).2.1 q hlt
   have hm1:0<=(f q).task:=hmo.1.2.2.1
   have hm2:(f q).task<=100:=hmo.1.2.2.2.1
   clear hmo
   have wq:IntKind.i64.wrap ((q:Int)+1)=((q+1:Nat):Int):=by rw [IntKind.wrap_i64];omega
   have HBN:=O (bH wr (.cells #[.int .i64 (f q).kind,.int .i64 (f q).task,.int .i64 (f q).fn,.int .i64 (f q).line,.string (f q).text,.slice av (f q).nv capv] 108))
   have HBX:=O (heap_alloc_new wr (.cells #[.int .i64 (f q).kind,.int .i64 (f q).task,.int .i64 (f q).fn,.int .i64 (f q).line,.string (f q).text,.slice av (f q).nv capv] 108))
   have hpsl:ps<wr.heap.size:=by obtain ⟨_,_,hh⟩:=Z HSP;exact bV hh.c0
   go_wp2_with fail
   refine (mZ B ps (St.after f q) _ _ _ _ _ _ _ _ ((Z HSP).below (Z HBN)) hm1 hm2).mono ?_
   rintro e w2 ⟨rfl,hsp,hb2,hkp⟩
   have HT2:Hid (cS w v1 (.slice (some ⟨bm,om,none⟩) n cap2) w2):=O (Below.trans ((Z HT).go (Z HBN)) (hb2.mono (by have:=Z HBE;omega)))
   have HSP2:Hid (cG B w2 ps (St.after f (q+1))):=O (hsp ((Z HS).2.2 q hlt))
   have HBX2:=O ((hkp _ _ _ _ (Z HBX) (by omega) (by decide) (by decide)).trans (Z HBX))
   obtain ⟨mb,hmb⟩:∃ mb,mb=wr.heap.size:=⟨_,rfl⟩
   rw [<- hmb] at HBX2
   rw [<- hmb]
   have m0:w2.cell? ⟨mb,0,none⟩=some (.int .i64 (f q).kind):=by rw [cell_of_row w2 mb 0 _ _ _ (Z HBX2)];rfl
   have m1:w2.cell? ⟨mb,1,none⟩=some (.int .i64 (f q).task):=by rw [cell_of_row w2 mb 1 _ _ _ (Z HBX2)];rfl
   clear hsp hb2 hkp hmb hc0 hc1 hc2 hc3 hc4 hc5 HBN HBX HT HSP hpsl HBX2 g1
   generalize hcd:code (St.after f q) (f q).kind (f q).task (f q).fn=cd
   clear hcd
   cases e1:(f q).kind == kd with
   | true =>
    cases e3:(f q).task == (t:Int) with
    | true =>
     obtain ⟨bt,V,hc⟩:=Z HSP2
     have c0:=hc.c0
     have cV:=hc.row.cell hcur
     have hle2:=hc.len _ hcur
     obtain ⟨sa,scap,eV⟩:=bR (hc.own _ hcur)
     rw [eV] at cV
     clear hc eV
     have hdp:((St.after f (q+1)).tasks t).length=qB f t q:=rfl
     rw [hdp] at cV hle2
     clear hdp
     cases e4:decide ((qB f t q:Int)<=(d:Int) - less) with
     | true =>
      have HE:Hid (eT f t d kd less q=true):=O (by unfold eT;rw [e1,e3,e4];rfl)
      go_wp2
      go_ret
      exact ⟨⟨_,rfl,Z HI _ (.inl ⟨q,rfl,by omega,hlt,Z HE,fun i h1 h2=>Z HST i (by omega) h2⟩)⟩,(Z HT2).below⟩
     | false =>
      have HE:Hid (eT f t d kd less q=false):=O (by unfold eT;rw [e1,e3,e4];rfl)
      go_wp2
      go_roundg (n+1 - (q+1))
      case measure=>omega
      case rel =>
       have hst':∀ j,p<=j->j<q+1->eT f t d kd less j=false:=fun j h1 h2=>by
        by_cases e':j=q
        ·rw [e'];exact Z HE
        exact Z HST j h1 (by omega)
       exact ⟨q+1,by omega,by go_num,by omega,hst',fun _=>Z HSP2,Z HT2⟩
    | false =>
     have HE:Hid (eT f t d kd less q=false):=O (by unfold eT;rw [e1,e3];rfl)
     go_wp2
     go_roundg (n+1 - (q+1))
     case measure=>omega
     case rel =>
      have hst':∀ j,p<=j->j<q+1->eT f t d kd less j=false:=fun j h1 h2=>by
       by_cases e':j=q
       ·rw [e'];exact Z HE
       exact Z HST j h1 (by omega)
      exact ⟨q+1,by omega,by go_num,by omega,hst',fun _=>Z HSP2,Z HT2⟩
   | false =>
    have HE:Hid (eT f t d kd less q=false):=O (by unfold eT;rw [e1];rfl)
    go_wp2
    go_roundg (n+1 - (q+1))
    case measure=>omega
    case rel =>
     have hst':∀ j,p<=j->j<q+1->eT f t d kd less j=false:=fun j h1 h2=>by
      by_cases e':j=q
      ·rw [e'];exact Z HE
      exact Z HST j h1 (by omega)
     exact ⟨q+1,by omega,by go_num,by omega,hst',fun _=>Z HSP2,Z HT2⟩
  have hqn:¬ (q:Int)<(n:Int):=by omega
  clear hst ht hsp
  go_wp2
  go_ret
  exact ⟨⟨_,rfl,Z HI _ (.inr ⟨rfl,fun i h1 h2=>Z HST i (by omega) (by omega)⟩)⟩,(Z HT).below⟩
end Go.Proofs.YtmnmeaeicjhkhaaGreatDoor
