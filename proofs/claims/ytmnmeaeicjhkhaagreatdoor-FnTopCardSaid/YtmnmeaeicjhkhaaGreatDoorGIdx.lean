import Derived.Test.YtmnmeaeicjhkhaaGreatDoorGIbx
import Derived.Test.YtmnmeaeicjhkhaaGreatDoorGIcx
set_option maxRecDepth 100000
set_option maxHeartbeats 16000000
namespace Go.Proofs.YtmnmeaeicjhkhaaGreatDoor
open Go.RowKit
theorem refuses_any (s:St) (k t fn l:Int) (top:Option Addr) (bw:Nat) (w:World) (h:cZ w s top bw) (h1:1<=k) (h2:k<=7) :
  Calls Tryz.prog 145 #[.agg #[.int .i64 s.cur,.pointer top,.pointer (some ⟨bw,0,none⟩)],eC k t fn l] w (eJ w s k t fn):=by
 obtain ⟨hl,-,hc,hx⟩:=h
 obtain ⟨hx1,hx2⟩:=hx _ hc
 have task:∀ {P:Prop},((t != (s.cur:Int))=true->P)->((t != (s.cur:Int))=false->P)->P:=fun a b=>by
  cases h:t != (s.cur:Int) with
  | true=>exact a h
  | false=>exact b h
 have fnc:∀ {P:Prop},((fn != topFn (s.tasks s.cur))=true->P)->((fn != topFn (s.tasks s.cur))=false->P)->P:=fun a b=>by
  cases h:fn != topFn (s.tasks s.cur) with
  | true=>exact a h
  | false=>exact b h
 rcases seven h1 h2 with rfl | rfl | rfl | rfl | rfl | rfl | rfl
 ·refine task (bL9 s t fn l top bw w) (fun ht=>?_)
  cases hs:s.tasks s.cur with
  | nil=>exact bM5 s t fn l top bw w hl ht hs
  | cons f r=>exact fnc (bD2 s t fn l top bw w hl ht f r hs) (zC s t fn l top bw w hl ht f r hs)
 ·refine task (bM0 s t fn l top bw w) (fun ht=>?_)
  by_cases hd:(s.tasks s.cur).length=200
  ·exact refuses_deep s t fn l top bw w hl ht hd
  exact refuses_call s t fn l top bw w hl ht (by omega)
 ·refine task (bM1 s t fn l top bw w) (fun ht=>?_)
  cases hs:s.tasks s.cur with
  | nil=>exact bM6 s t fn l top bw w hl ht hs
  | cons f r =>
   by_cases hf:f.frm=-1
   ·exact refuses_text s t fn l top bw w hl ht f r hs hf
   have h0:0<=f.frm:=by have:=hx2 f (by rw [hs];exact List.mem_cons_self ..);omega
   exact fnc (bD3 s t fn l top bw w hl ht f r hs h0) (zD s t fn l top bw w hl ht f r hs h0)
 ·exact task (bM2 s t fn l top bw w) (fun ht=>fnc (xW s t fn l top bw w hl ht) (xA s t fn l top bw w hl ht))
 ·exact task (bM3 s t fn l top bw w) (fun ht=>fnc (xX s t fn l top bw w hl ht) (xB s t fn l top bw w hl ht))
 ·exact task (bM4 s t fn l top bw w) (fun ht=>fnc (xY s t fn l top bw w hl ht) (xC s t fn l top bw w hl ht))
 exact bE9 s t fn l top bw w
theorem after_any (s:St) (k t fn l i:Int) (top:Option Addr) (bw:Nat) (w:World) (h:cZ w s top bw) (h1:1<=k) (h2:k<=7) (h3:0<=t) (h4:t<=100) (hi:0<=i) (hc:code s k t fn=0) :
  Calls Tryz.prog 146 #[.agg #[.int .i64 s.cur,.pointer top,.pointer (some ⟨bw,0,none⟩)],eC k t fn l,.int .i64 i] w (Went w s k t fn l i):=by
 rcases seven h1 h2 with rfl | rfl | rfl | rfl | rfl | rfl | rfl
 ·cases hs:s.tasks s.cur with
  | nil =>
   exfalso
   by_cases ht:t=s.cur
   ·by_cases hf:fn=0
    ·simp [code,ht,hs,topFn,hf] at hc
    simp [code,ht,hs,topFn,hf] at hc
   simp [code,ht] at hc
  | cons f r=>exact after_line s t fn l i top bw w h f r hs
 ·have hd:(s.tasks s.cur).length<200:=by
   have hx:=(h.2.2.2 _ h.2.2.1).1
   by_cases hd:(s.tasks s.cur).length=200
   ·exfalso
    by_cases ht:t=s.cur
    ·simp [code,ht,hd] at hc
    simp [code,ht] at hc
   omega
  exact after_call s t fn l i top bw w h hd hi
 ·cases hs:s.tasks s.cur with
  | nil =>
   exfalso
   by_cases ht:t=s.cur
   ·by_cases hf:fn=0
    ·simp [code,ht,hs,topFn,gU,hf] at hc
    simp [code,ht,hs,topFn,hf] at hc
   simp [code,ht] at hc
  | cons f r=>exact after_back s t fn l i top bw w h f r hs
 ·exact after_other4 s t fn l i top bw w h
 ·exact after_other5 s t fn l i top bw w h
 ·exact after_other6 s t fn l i top bw w h
 by_cases ht:t=s.cur
 ·exact bD4 s t fn l i top bw w h ht
 obtain ⟨n,rfl⟩:=Int.eq_ofNat_of_zero_le h3
 exact zE s n fn l i top bw w h n rfl (by omega) (fun e=>ht (by rw [e]))
theorem cR.grown {w w':World} {g:Nat} {x:Option Addr} (hg:w.grownBy w' (some g)) (h2:w.cell? ⟨g,2,none⟩=some (.pointer x)):∀ {l:List Fr} {p:Option Addr},cR w l p->cR w' l p
 | [],_,h=>h
 | _ :: _,_,h=>by
  obtain ⟨b,p',e,k0,k1,k2,k3,k4,k5⟩:=h
  have hne:some b≠some g:=fun e=>by
   cases e
   rw [h2] at k2
   cases k2
  exact ⟨b,p',e,hg.cell k0 hne,hg.cell k1 hne,hg.cell k2 hne,hg.cell k3 hne,hg.cell k4 hne,k5.grown hg h2⟩
theorem cZ.grown {w w':World} {g:Nat} {x:Option Addr} {y:Int} {s:St} {top:Option Addr} {bw:Nat} (hg:w.grownBy w' (some g)) (h0:w.cell? ⟨g,0,none⟩=some (.int .i64 y)) (h2:w.cell? ⟨g,2,none⟩=some (.pointer x)) (h:cZ w s top bw):cZ w' s top bw:=by
 obtain ⟨h1,⟨P,h4⟩,h5,h6⟩:=h
 have hne:some bw≠some g:=fun e=>by
  cases e
  have:=(h4 0 (by omega)).1
  rw [h0] at this
  cases this
 exact ⟨h1.grown hg h2,⟨P,fun t ht=>⟨hg.cell (h4 t ht).1 hne,fun e=>((h4 t ht).2 e).grown hg h2⟩⟩,h5,h6⟩
def Pls (w:World) (f:Nat->M) (k:Nat) (xs:List Value):Prop :=
 ∀ j,j<=k->∃ top bw,xs[j*3]?=some (.int .i64 (St.after f j).cur)/\xs[j*3+1]?=some (.pointer top)/\xs[j*3+2]?=some (.pointer (some ⟨bw,0,none⟩))/\cZ w (St.after f j) top bw
def bW (lo:Nat) (w:World) (v:Value) (n:Nat) (f:Nat->M):Prop:=∃ xs,w.ownsRow lo 119 3 v (n+1) xs/\Pls w f n xs
theorem eD {w:World} {B B':Nat} {e:TypeId} {z:Nat} {v:Value} {n:Nat} {xs:List Value} (h:w.ownsRow B e z v n xs) (hB:B'<=B):w.ownsRow B' e z v n xs:=by
 refine ⟨h.1,?_⟩
 rcases h.2 with hn | ⟨g,cap,cur,hv,hb,rest⟩
 ·exact .inl hn
 exact .inr ⟨g,cap,cur,hv,by omega,rest⟩
structure xZ (N4:Nat) (f:Nat->M) (w w':World) (pv:Value) (k:Nat) (s:St) (top:Option Addr) (bw:Nat) (xs:List Value):Prop where
 one:Below (w.heap.size+1) (w.alloc (.cells #[.int .i64 0,.int .i64 0] 49)) w'
 hN:w.heap.size<N4
 lt:N4<w'.heap.size
 z4:w'.cell? ⟨N4,4,none⟩=none
 p0:w'.cell? ⟨N4,0,none⟩=some (.int .i64 s.cur)
 p1:w'.cell? ⟨N4,1,none⟩=some (.pointer top)
 p2:w'.cell? ⟨N4,2,none⟩=some (.pointer (some ⟨bw,0,none⟩))
 f0:w'.frozen? ⟨N4,0,none⟩=false
 f1:w'.frozen? ⟨N4,1,none⟩=false
 f2:w'.frozen? ⟨N4,2,none⟩=false
 pl:cZ w' s top bw
 own:w'.ownsRow (N4+1) 119 3 pv (k+1) xs
 pls:Pls w' f k xs
theorem bN {w w':World} {B:Nat} {e:TypeId} {z:Nat} {v:Value} {n:Nat} {xs:List Value} (h:w.ownsRow B e z v n xs) (hb:Below w.heap.size w w'):w'.ownsRow B e z v n xs:=by
 have hg:w.grownBy w' none:=⟨hb.os,hb.tape,hb.output,hb.size,fun k hk _=>hb.block k hk⟩
 refine h.kept hg ?_
 by_cases e:v.ownBlock=none
 ·exact .inl e
 exact .inr e
theorem xZ.below {N4:Nat} {f:Nat->M} {w w' w'':World} {pv:Value} {k:Nat} {s:St} {top:Option Addr} {bw:Nat} {xs:List Value} (h:xZ N4 f w w' pv k s top bw xs) (hb:Below w'.heap.size w' w''):xZ N4 f w w'' pv k s top bw xs:=by
 have hs:w.heap.size+1<=w'.heap.size:=by have:=h.one.size;simpa using this
 have hl:=h.lt
 refine ⟨h.one.trans (hb.mono hs),h.hN,Nat.lt_of_lt_of_le h.lt hb.size,?_,bG hb h.p0,bG hb h.p1,bG hb h.p2,?_,?_,?_,h.pl.below hb,bN h.own hb,fun j hj=>?_⟩
 ·rw [hb.cell hl];exact h.z4
 ·rw [hb.frozen hl];exact h.f0
 ·rw [hb.frozen hl];exact h.f1
 ·rw [hb.frozen hl];exact h.f2
 obtain ⟨t,b,h1,h2,h3,h4⟩:=h.pls j hj
 exact ⟨t,b,h1,h2,h3,h4.below hb⟩
theorem xZ.put {N4:Nat} {f:Nat->M} {w w':World} {pv:Value} {k:Nat} {s s':St} {top top':Option Addr} {bw bw':Nat} {xs:List Value} (h:xZ N4 f w w' pv k s top bw xs) (hp:cZ w' s' top' bw') :
  xZ N4 f w (((w'.setCell ⟨N4,0,none⟩ (.int .i64 s'.cur)).setCell ⟨N4,1,none⟩ (.pointer top')).setCell ⟨N4,2,none⟩ (.pointer (some ⟨bw',0,none⟩))) pv k s' top' bw' xs:=by
 have hN:=h.hN
 have hz1:=fL (b:=⟨N4,0,none⟩) (v:=.int .i64 s'.cur) h.z4
 have hz2:=fL (b:=⟨N4,1,none⟩) (v:=.pointer top') hz1
 have hz3:=fL (b:=⟨N4,2,none⟩) (v:=.pointer (some ⟨bw',0,none⟩)) hz2
 have ob:pv.ownBlock≠some N4:=fun e=>by
  have:=(h.own.lt _ e).1
  omega
 refine ⟨((h.one.setCell (p:=⟨N4,0,none⟩) (by show _<=N4;omega) _).setCell (p:=⟨N4,1,none⟩) (by show _<=N4;omega) _).setCell (p:=⟨N4,2,none⟩) (by show _<=N4;omega) _,hN,by simpa using h.lt,hz3,?_,?_,?_,?_,?_,?_,((hp.setBox h.z4).setBox hz1).setBox hz2,cM (cM (cM h.own ob) ob) ob,fun j hj=>?_⟩
 ·rw [World.cell?_setCell_other _ _ _ _ (by simp),World.cell?_setCell_other _ _ _ _ (by simp),World.cell?_setCell_same _ _ _ h.p0]
 ·rw [World.cell?_setCell_other _ _ _ _ (by simp)]
  refine World.cell?_setCell_same _ _ _ (u:=.pointer top) ?_
  rw [World.cell?_setCell_other _ _ _ _ (by simp)];exact h.p1
 ·refine World.cell?_setCell_same _ _ _ (u:=.pointer (some ⟨bw,0,none⟩)) ?_
  rw [World.cell?_setCell_other _ _ _ _ (by simp),World.cell?_setCell_other _ _ _ _ (by simp)];exact h.p2
 ·rw [World.frozen?_setCell,World.frozen?_setCell,World.frozen?_setCell];exact h.f0
 ·rw [World.frozen?_setCell,World.frozen?_setCell,World.frozen?_setCell];exact h.f1
 ·rw [World.frozen?_setCell,World.frozen?_setCell,World.frozen?_setCell];exact h.f2
 obtain ⟨t,b,h1,h2,h3,h4⟩:=h.pls j hj
 exact ⟨t,b,h1,h2,h3,((h4.setBox h.z4).setBox hz1).setBox hz2⟩
theorem row_tells {w:World} {B:Nat} {e:TypeId} {pv:Value} {k:Nat} {xs:List Value} {f:Nat->M} (ho:w.ownsRow B e 3 pv (k+1) xs) (hp:Pls w f k xs):∃ g y x,pv.ownBlock=some g/\w.cell? ⟨g,0,none⟩=some (.int .i64 y)/\w.cell? ⟨g,2,none⟩=some (.pointer x):=by
 obtain ⟨t,b,h1,_,h3,_⟩:=hp 0 (by omega)
 have ho':=ho
 rcases ho.2 with ⟨_,h0⟩ | ⟨g,cap,cur,rfl,_⟩
 ·omega
 exact ⟨g,_,_,rfl,(bL ho' _ _ h1).1,(bL ho' _ _ h3).1⟩
theorem xZ.push {N4:Nat} {f:Nat->M} {w w' w'':World} {pv pv':Value} {k:Nat} {s:St} {top:Option Addr} {bw:Nat} {xs:List Value} (h:xZ N4 f w w' pv k s top bw xs) (hs:s=St.after f (k+1))
  (hg:w'.grownBy w'' pv.ownBlock) (ho:w''.ownsRow (N4+1) 119 3 pv' (k+1+1) (xs ++ [.int .i64 s.cur,.pointer top,.pointer (some ⟨bw,0,none⟩)])) :
  xZ N4 f w w'' pv' (k+1) s top bw (xs ++ [.int .i64 s.cur,.pointer top,.pointer (some ⟨bw,0,none⟩)]):=by
 obtain ⟨g,y,x,hv,t0,t2⟩:=row_tells h.own h.pls
 have hg':=hg
 rw [hv] at hg'
 have hgB:N4+1<=g:=(h.own.lt g hv).1
 have hN:=h.hN
 have hl:=h.lt
 have hne:some N4≠pv.ownBlock:=fun e=>by rw [hv] at e;cases e;omega
 have hlen:xs.length=(k+1)*3:=h.own.1
 have hb:Below (w.heap.size+1) w' w'':=⟨hg.os,hg.tape,hg.output,hg.size,fun i hi=>hg.block i (by omega) (fun e=>by rw [hv] at e;cases e;omega)⟩
 have hblk:=hg.block N4 hl hne
 refine ⟨h.one.trans hb,hN,Nat.lt_of_lt_of_le hl hg.size,?_,hg.cell h.p0 hne,hg.cell h.p1 hne,hg.cell h.p2 hne,?_,?_,?_,h.pl.grown hg' t0 t2,ho,fun j hj=>?_⟩
 ·rw [World.cell?_of_block (w:=w') (a:=⟨N4,4,none⟩) hblk];exact h.z4
 ·rw [World.frozen?_of_block (w:=w') (a:=⟨N4,0,none⟩) hblk];exact h.f0
 ·rw [World.frozen?_of_block (w:=w') (a:=⟨N4,1,none⟩) hblk];exact h.f1
 ·rw [World.frozen?_of_block (w:=w') (a:=⟨N4,2,none⟩) hblk];exact h.f2
 by_cases hjk:j<=k
 ·obtain ⟨t,b,h1,h2,h3,h4⟩:=h.pls j hjk
  refine ⟨t,b,?_,?_,?_,h4.grown hg' t0 t2⟩
  ·rw [List.getElem?_append_left (by omega)];exact h1
  ·rw [List.getElem?_append_left (by omega)];exact h2
  rw [List.getElem?_append_left (by omega)];exact h3
 have e:j=k+1:=by omega
 subst e
 refine ⟨top,bw,?_,?_,?_,by rw [<- hs];exact h.pl.grown hg' t0 t2⟩
 ·rw [List.getElem?_append_right (by omega),hlen,<- hs,Nat.sub_self];rfl
 ·rw [List.getElem?_append_right (by omega),hlen,show (k+1)*3+1 - (k+1)*3=1 by omega];rfl
 rw [List.getElem?_append_right (by omega),hlen,show (k+1)*3+2 - (k+1)*3=2 by omega];rfl
theorem bF4:(Tryz.prog.info? 119).map (fun i=>(i.zero,i.size,i.bytes))=some (some (.agg #[.int .i64 0,.pointer none,.pointer none]),3,24):=by kernel_rfl
theorem xZ.first {N4:Nat} {f:Nat->M} {w w' w'':World} {pv':Value} {top:Option Addr} {bw g:Nat} {y:Int} {x:Option Addr}
  (one:Below (w.heap.size+1) (w.alloc (.cells #[.int .i64 0,.int .i64 0] 49)) w') (hN:w.heap.size<N4) (hl:N4<w'.heap.size) (z4:w'.cell? ⟨N4,4,none⟩=none)
  (p0:w'.cell? ⟨N4,0,none⟩=some (.int .i64 0)) (p1:w'.cell? ⟨N4,1,none⟩=some (.pointer top)) (p2:w'.cell? ⟨N4,2,none⟩=some (.pointer (some ⟨bw,0,none⟩)))
  (f0:w'.frozen? ⟨N4,0,none⟩=false) (f1:w'.frozen? ⟨N4,1,none⟩=false) (f2:w'.frozen? ⟨N4,2,none⟩=false) (pl:cZ w' St.init top bw)
  (t0:w'.cell? ⟨g,0,none⟩=some (.int .i64 y)) (t2:w'.cell? ⟨g,2,none⟩=some (.pointer x)) (hgN:N4<g) (hg:w'.grownBy w'' (some g))
  (ho:w''.ownsRow (N4+1) 119 3 pv' (0+1) ([] ++ [.int .i64 0,.pointer top,.pointer (some ⟨bw,0,none⟩)])) :
  xZ N4 f w w'' pv' 0 (St.after f 0) top bw [.int .i64 0,.pointer top,.pointer (some ⟨bw,0,none⟩)]:=by
 have hne:some N4≠some g:=fun e=>by cases e;omega
 have hb:Below (w.heap.size+1) w' w'':=⟨hg.os,hg.tape,hg.output,hg.size,fun i hi=>hg.block i (by omega) (fun e=>by cases e;omega)⟩
 have hblk:=hg.block N4 hl hne
 refine ⟨one.trans hb,hN,Nat.lt_of_lt_of_le hl hg.size,?_,hg.cell p0 hne,hg.cell p1 hne,hg.cell p2 hne,?_,?_,?_,pl.grown hg t0 t2,ho,fun j hj=>?_⟩
 ·rw [World.cell?_of_block (w:=w') (a:=⟨N4,4,none⟩) hblk];exact z4
 ·rw [World.frozen?_of_block (w:=w') (a:=⟨N4,0,none⟩) hblk];exact f0
 ·rw [World.frozen?_of_block (w:=w') (a:=⟨N4,1,none⟩) hblk];exact f1
 ·rw [World.frozen?_of_block (w:=w') (a:=⟨N4,2,none⟩) hblk];exact f2
 have e:j=0:=by omega
 subst e
 exact ⟨top,bw,rfl,rfl,rfl,pl.grown hg t0 t2⟩
theorem bW.setBox {w:World} {b o:Nat} {u v:Value} {n:Nat} {f:Nat->M} {lo:Nat} (h:bW lo w v n f) (hz:w.cell? ⟨b,4,none⟩=none) (hob:v.ownBlock≠some b):bW lo (w.setCell ⟨b,o,none⟩ u) v n f:=by
 obtain ⟨xs,h1,h2⟩:=h
 refine ⟨xs,cM h1 hob,fun j hj=>?_⟩
 obtain ⟨t,b',k1,k2,k3,k4⟩:=h2 j hj
 exact ⟨t,b',k1,k2,k3,k4.setBox hz⟩
theorem bW.below {w w':World} {v:Value} {n:Nat} {f:Nat->M} {lo:Nat} (h:bW lo w v n f) (hb:Below w.heap.size w w'):bW lo w' v n f:=by
 obtain ⟨xs,h1,h2⟩:=h
 refine ⟨xs,bN h1 hb,fun j hj=>?_⟩
 obtain ⟨t,b',k1,k2,k3,k4⟩:=h2 j hj
 exact ⟨t,b',k1,k2,k3,k4.below hb⟩
def Followed (lo n:Nat) (f:Nat->M) (e:Ending) (w':World):Prop :=
 (∃ i:Nat,i<n/\eB f i≠0/\(∀ j,j<i->eB f j=0)/\e=.returned (.tuple #[.slice none 0 0,.agg #[.int .i64 (eB f i),.int .i64 i]])) ∨
 ((∀ j,j<n->eB f j=0)/\∃ v',e=.returned (.tuple #[v',.agg #[.int .i64 0,.int .i64 0]])/\bW lo w' v' n f)
theorem yA (lo nf:Nat) (v:Value) (n:Nat) (f:Nat->M) (w:World) (h:bQ lo w v n f) (hn:n<=3000) (hm:∀ j,j<n->fB nf (f j)) :
  Calls Tryz.prog 103 #[v] w fun e w'=>Followed w.heap.size n f e w'/\Below w.heap.size w w':=by
 have HM:=O hm;clear hm
 have HV:=O h
 obtain ⟨a,cap,rfl,hn',-⟩:=h
 clear hn'
 obtain ⟨mc,hmc⟩:∃ mc,mc=madeCells #[.int .i64 0,.pointer none,.pointer none] ((n+1)*3):=⟨_,rfl⟩
 have hmk:∀ w,(Instr.makeSlice 84 (.int .i64 0) (.int .i64 ((n:Int)+1))).run Tryz.prog w=.ok (.slice (some ⟨w.heap.size,0,none⟩) 0 (n+1)) (w.alloc (.cells mc 119)):=fun w=>by
  obtain ⟨i,hi,hz,hs,hb⟩:=info_parts bF4
  have hr:=run_make (P:=Tryz.prog) w 84 119 i _ Tryz.underlying84 hi hz .i64 .i64 0 ((n:Int)+1) (by omega) (by omega) (by rw [hb];omega) (by omega)
  rw [hr,hs,hmc,show ((n:Int)+1).toNat=n+1 by omega]
  rfl
 have ms:mc.size=(n+1)*3:=by rw [hmc];exact size_madeCells _ _
 have m0:mc[0]?=some (.int .i64 0):=by rw [hmc];simp [madeCells]
 have m2:mc[2]?=some (.pointer none):=by
  rw [hmc]
  have h2:2<(n+1)*3:=by omega
  simp [madeCells,h2]
 have MS:=O (And.intro ms (And.intro m0 m2))
 clear hmc ms m0 m2
 have T1:Hid (Below (w.heap.size+1) (w.alloc (.cells #[.int .i64 0,.int .i64 0] 49)) (w.alloc (.cells #[.int .i64 0,.int .i64 0] 49))):=O (Below.refl _ _)
 go_enter Tryz.func103,Tryz.ntmps103
 go_wp2_with fail
 refine (bF2 _).mono ?_
 rintro e w1 ⟨⟨top,bw,rfl,hpl⟩,hb1⟩
 have hz1:w.heap.size+1<=w1.heap.size:=by have:=hb1.size;simpa using this
 have T2:=O ((Z T1).trans (hb1.mono (by simp)))
 have HPL:=O hpl
 clear hb1 hpl T1
 obtain ⟨W5,hW5⟩:∃ W5,W5=((w1.alloc (.cells #[.int .i64 0,.pointer top,.pointer (some ⟨bw,0,none⟩)] 119)).alloc (.cells mc 119)).alloc (.cells #[.int .i64 0,.pointer top,.pointer (some ⟨bw,0,none⟩)] 119):=⟨_,rfl⟩
 have hB5:Below w1.heap.size w1 W5:=by rw [hW5];exact (((Below.refl _ _).alloc (Nat.le_refl _) _).alloc (by simp) _).alloc (by simp;omega) _
 have hs5:W5.heap.size=w1.heap.size+3:=by rw [hW5];simp
 have hc5:∀ i,W5.cell? ⟨w1.heap.size,i,none⟩=(#[.int .i64 0,.pointer top,.pointer (some ⟨bw,0,none⟩)]:Array Value)[i]?:=fun i=>by
  rw [hW5,World.cell?_alloc_old _ _ _ (by simp;omega),World.cell?_alloc_old _ _ _ (by simp),bK _ _ _ _ _ rfl]
 have hf5:∀ i,W5.frozen? ⟨w1.heap.size,i,none⟩=false:=fun i=>by
  rw [hW5,World.frozen?_alloc_old _ _ _ (by simp;omega),World.frozen?_alloc_old _ _ _ (by simp),cW _ _ _ _ _ rfl]
 have hg5:∀ i,W5.cell? ⟨w1.heap.size+1,i,none⟩=mc[i]?:=fun i=>by
  rw [hW5,World.cell?_alloc_old _ _ _ (by simp),bK _ _ _ _ _ (by simp)]
 have ho5:W5.ownsRow (w1.heap.size+1) 119 3 (.slice (some ⟨w1.heap.size+1,0,none⟩) 0 (n+1)) 0 []:=by
  have h0:=World.ownsRow_made (base:=w1.heap.size+1) (e:=119) (size:=3) (w1.alloc (.cells #[.int .i64 0,.pointer top,.pointer (some ⟨bw,0,none⟩)] 119)) mc (n+1) (by simp) (by unfold maxLen;omega) (Z MS).1
  rw [hW5]
  refine World.ownsRow.alloc ?_ _
  simpa using h0
 have hn5:∀ j u,([.int .i64 0,.pointer top,.pointer (some ⟨bw,0,none⟩)]:List Value)[j]?=some u->W5.cell? ((⟨w1.heap.size+1+1,0,none⟩:Addr).add j)=some u:=by
  have h0:=World.news_of_block (B:=w1.heap.size+1+1) (cs:=#[.int .i64 0,.pointer top,.pointer (some ⟨bw,0,none⟩)]) (t:=119) (fr:=(0,0)) (w:=W5) (by
   rw [hW5]
   have:=heap_alloc_new ((w1.alloc (.cells #[.int .i64 0,.pointer top,.pointer (some ⟨bw,0,none⟩)] 119)).alloc (.cells mc 119)) (.cells #[.int .i64 0,.pointer top,.pointer (some ⟨bw,0,none⟩)] 119)
   simpa using this)
  exact h0
 have HW5:=O hW5
 have HF:Hid (∀ g cap w',w'.ownsRow (w1.heap.size+1) 119 3 (.slice (some ⟨g,0,none⟩) (0+1) cap) (0+1) ([] ++ [.int .i64 0,.pointer top,.pointer (some ⟨bw,0,none⟩)])->W5.grownBy w' (Value.slice (some ⟨w1.heap.size+1,0,none⟩) 0 (n+1)).ownBlock ->
   xZ w1.heap.size f w w' (.slice (some ⟨g,0,none⟩) (0+1) cap) 0 (St.after f 0) top bw [.int .i64 0,.pointer top,.pointer (some ⟨bw,0,none⟩)]):=O fun g cap w' ho hg =>
  xZ.first (g:=w1.heap.size+1) ((Z T2).trans (hB5.mono (by omega))) (by omega) (by omega) (by rw [hc5];rfl) (by rw [hc5];rfl) (by rw [hc5];rfl) (by rw [hc5];rfl) (hf5 0) (hf5 1) (hf5 2) ((Z HPL).below hB5)
   (by rw [hg5];exact (Z MS).2.1) (by rw [hg5];exact (Z MS).2.2) (by omega) hg ho
 have HO5:=O ho5
 have HN5:=O hn5
 have HS5:=O hs5
 clear hW5 hB5 hs5 hc5 hf5 hg5 ho5 hn5
 obtain ⟨i0,hi0,hz0,hz1',hz2⟩:=info_parts bF4
 have II:=O (And.intro hi0 (And.intro hz0 (And.intro hz1' hz2)));clear hi0 hz0 hz1' hz2
 go_wp2_with (at_builtin;refine wpList_append_lies _ (by rfl) _ _ _ (by rfl) (w1.heap.size+1) 119 i0 _ 3 24 Tryz.underlying84 (Z II).1 (Z II).2.1 (Z II).2.2.1 (Z II).2.2.2 rfl (by omega) (.slice (some ⟨w1.heap.size+1,0,none⟩) 0 (n+1)) 0 [] (by rfl) (by rw [<- Z HW5];exact Z HO5) ⟨w1.heap.size+1+1,0,none⟩ 1 1 [.int .i64 0,.pointer top,.pointer (some ⟨bw,0,none⟩)] (by rfl) (by rfl) (by rw [<- Z HW5];exact Z HN5) (by simp [Value.oneCell']) (by omega) (by unfold maxLen;omega) (by omega) (by rw [<- Z HW5,Z HS5];omega) (w1.heap.size+3) (by rw [<- Z HW5,Z HS5]) ?_;rw [<- Z HW5];intro g cp w2 hown hgrow _ _)
 have HI:=O (Z HF g cp w2 hown hgrow)
 clear hown hgrow HF HO5 HN5 HS5 HW5 T2 HPL hmk MS hz1
 obtain ⟨N4,hN4⟩:∃ N4,N4=w1.heap.size:=⟨_,rfl⟩
 rw [<- hN4] at HI
 rw [<- hN4]
 go_loopw [5,21] (fun p i w'=>∃ (k g cp:Nat) (top:Option Addr) (bw:Nat) (xs:List Value),k<=n/\i=.int .i64 k/\p=.slice (some ⟨g,0,none⟩) (k+1) cp/\(∀ j,j<k->eB f j=0)/\xZ N4 f w w' (.slice (some ⟨g,0,none⟩) (k+1) cp) k (St.after f k) top bw xs) (fun _ i _=>n - (intOf i).toNat)
 case atStart=>exact ⟨0,g,cp,top,bw,_,by omega,rfl,rfl,by omega,Z HI⟩
 case round =>
  clear HI hN4
  obtain ⟨k,g',cp',top',bw',xs,hk,rfl,rfl,hq,hI⟩:=hrel
  have HQ:=O hq
  have HI:=O hI
  clear hq hI
  by_cases hlt:k<n
  ·have hBw:Below w.heap.size w wr:=((Below.refl _ _).alloc (Nat.le_refl _) _).trans ((Z HI).one.mono (by omega))
   obtain ⟨_,_,e,_,hv⟩:=(Z HV).below hBw
   cases e
   obtain ⟨b,o,vv,rfl,hc0,hc1,hc2,hc3,hc4,hc5,hs1,hs2,-⟩:=hv k hlt
   clear hv hBw
   obtain ⟨av,capv,rfl,-⟩:=hs2
   have hmo:=Z HM k hlt
   have m1:1<=(f k).kind:=hmo.1.1
   have m2:(f k).kind<=7:=hmo.1.2.1
   have m3:0<=(f k).task:=hmo.1.2.2.1
   have m4:(f k).task<=100:=hmo.1.2.2.2.1
   clear hmo
   have BA:=O ((Below.refl wr.heap.size wr).alloc (Nat.le_refl _) (.cells #[.int .i64 (f k).kind,.int .i64 (f k).task,.int .i64 (f k).fn,.int .i64 (f k).line,.string (f k).text,.slice av (f k).nv capv] 108))
   go_wp2_with fail
   refine (eventOf_any _ _ _ _ _ _ _ m1 m2).mono ?_
   rintro e w3 ⟨rfl,hb3⟩
   have I3:=O (((Z HI).below (Z BA)).below hb3)
   clear hb3
   have q0:=(Z I3).p0
   have q1:=(Z I3).p1
   have q2:=(Z I3).p2
   go_wp2_with fail
   refine (refuses_any (St.after f k) _ _ _ _ top' bw' _ (Z I3).pl m1 m2).mono ?_
   rintro e w4 ⟨rfl,hb4⟩
   have I4:=O ((Z I3).below hb4)
   clear hb4 q0 q1 q2
   have hce:code (St.after f k) (f k).kind (f k).task (f k).fn=eB f k:=rfl
   rw [hce]
   clear hce
   by_cases hcode:eB f k=0
   ·rw [hcode]
    have HCO:=O hcode;clear hcode
    have q0:=(Z I4).p0
    have q1:=(Z I4).p1
    have q2:=(Z I4).p2
    go_wp2_with fail
    refine (after_any (St.after f k) _ _ _ _ k top' bw' _ (Z I4).pl m1 m2 m3 m4 (by omega) (Z HCO)).mono ?_
    rintro e w5 ⟨⟨top2,bw2,rfl,hpl⟩,hb5⟩
    obtain ⟨s',hs'⟩:∃ s',s'=(St.after f k).step (f k).kind (f k).task (f k).fn (f k).line k:=⟨_,rfl⟩
    rw [<- hs'] at hpl
    rw [<- hs']
    have HS':Hid (s'=St.after f (k+1)):=hs'
    clear hs'
    have I5:=O ((Z I4).below hb5)
    have I6:=O ((Z I5).put hpl)
    clear hb5 hpl q0 q1 q2
    have q0:=(Z I5).p0
    have q1:=(Z I5).p1
    have q2:=(Z I5).p2
    have y0:=(Z I5).f0
    have y1:=(Z I5).f1
    have y2:=(Z I5).f2
    obtain ⟨W6,hW6⟩:∃ W6,W6=(((w5.setCell ⟨N4,0,none⟩ (.int .i64 s'.cur)).setCell ⟨N4,1,none⟩ (.pointer top2)).setCell ⟨N4,2,none⟩ (.pointer (some ⟨bw2,0,none⟩))):=⟨_,rfl⟩
    have hz6:W6.heap.size=w5.heap.size:=by rw [hW6];simp
    rw [<- hW6] at I6
    have HW6:=O hW6
    clear hW6
    have hlt6:=(Z I6).lt
    have I7:=O ((Z I6).below ((Below.refl _ _).alloc (Nat.le_refl _) (.cells #[.int .i64 s'.cur,.pointer top2,.pointer (some ⟨bw2,0,none⟩)] 119)))
    have HN7:Hid (∀ j u,([.int .i64 s'.cur,.pointer top2,.pointer (some ⟨bw2,0,none⟩)]:List Value)[j]?=some u->(W6.alloc (.cells #[.int .i64 s'.cur,.pointer top2,.pointer (some ⟨bw2,0,none⟩)] 119)).cell? ((⟨w5.heap.size,0,none⟩:Addr).add j)=some u):=by
     rw [<- hz6]
     exact O (World.news_of_block (cs:=#[.int .i64 s'.cur,.pointer top2,.pointer (some ⟨bw2,0,none⟩)]) (t:=119) (fr:=(0,0)) (heap_alloc_new W6 _))
    have HZ7:Hid ((W6.alloc (.cells #[.int .i64 s'.cur,.pointer top2,.pointer (some ⟨bw2,0,none⟩)] 119)).heap.size=w5.heap.size+1):=O (by rw [World.size_alloc,hz6])
    have hN7:N4+1<=w5.heap.size+1:=by omega
    clear hz6
    go_wp2_with (at_builtin;refine wpList_append_lies _ (by rfl) _ _ _ (by rfl) (N4+1) 119 i0 _ 3 24 Tryz.underlying84 (Z II).1 (Z II).2.1 (Z II).2.2.1 (Z II).2.2.2 rfl (by omega) (.slice (some ⟨g',0,none⟩) (k+1) cp') (k+1) xs (by rfl) (by rw [<- Z HW6];exact (Z I7).own) ⟨w5.heap.size,0,none⟩ 1 1 [.int .i64 s'.cur,.pointer top2,.pointer (some ⟨bw2,0,none⟩)] (by rfl) (by rfl) (by rw [<- Z HW6];exact Z HN7) (by simp [Value.oneCell']) (by omega) (by unfold maxLen;omega) (by omega) (by rw [<- Z HW6,Z HZ7];omega) (w5.heap.size+1) (by rw [<- Z HW6,Z HZ7]) ?_;rw [<- Z HW6];intro g2 cp2 w7 hown hgrow _ _;have I8:=O ((Z I7).push (Z HS') hgrow hown);clear hown hgrow)
    go_roundw
    case rel =>
     have h8:=Z I8
     rw [Z HS'] at h8
     refine ⟨k+1,g2,cp2,top2,bw2,_,by omega,by go_num,rfl,fun j hj=>?_,h8⟩
     by_cases hjk:j<k
     ·exact Z HQ j hjk
     have e:j=k:=by omega
     rw [e];exact Z HCO
    case measure=>simp [intOf];omega
   have hcb:(eB f k != 0)=true:=by simpa using hcode
   have HCO:=O hcode;clear hcode
   have z0:w4.cell? ⟨w.heap.size,0,none⟩=some (.int .i64 0):=by rw [(Z I4).one.cell (by simp),bK _ _ _ _ _ rfl];rfl
   have z1:w4.cell? ⟨w.heap.size,1,none⟩=some (.int .i64 0):=by rw [(Z I4).one.cell (by simp),bK _ _ _ _ _ rfl];rfl
   have y0:w4.frozen? ⟨w.heap.size,0,none⟩=false:=by rw [(Z I4).one.frozen (by simp),cW _ _ _ _ _ rfl]
   have y1:w4.frozen? ⟨w.heap.size,1,none⟩=false:=by rw [(Z I4).one.frozen (by simp),cW _ _ _ _ _ rfl]
   go_wp2
   refine bodyPost_ret (v:=.tuple #[.slice none 0 0,.agg #[.int .i64 (eB f k),.int .i64 k]]) (by simp [results,Tryz.results103,go_sem,z0,z1]) rfl ⟨.inl ⟨k,hlt,Z HCO,Z HQ,rfl⟩,?_⟩
   repeat (refine Below.setCell ?_ (by simp) _)
   exact ((Below.refl _ _).alloc (Nat.le_refl _) _).trans ((Z I4).one.mono (by omega))
  have hkn:k=n:=by omega
  subst hkn
  have z0:wr.cell? ⟨w.heap.size,0,none⟩=some (.int .i64 0):=by rw [(Z HI).one.cell (by simp),bK _ _ _ _ _ rfl];rfl
  have z1:wr.cell? ⟨w.heap.size,1,none⟩=some (.int .i64 0):=by rw [(Z HI).one.cell (by simp),bK _ _ _ _ _ rfl];rfl
  have y0:wr.frozen? ⟨w.heap.size,0,none⟩=false:=by rw [(Z HI).one.frozen (by simp),cW _ _ _ _ _ rfl]
  have y1:wr.frozen? ⟨w.heap.size,1,none⟩=false:=by rw [(Z HI).one.frozen (by simp),cW _ _ _ _ _ rfl]
  go_wp2
  refine bodyPost_ret (v:=.tuple #[.slice (some ⟨g',0,none⟩) (k+1) cp',.agg #[.int .i64 0,.int .i64 0]]) (by simp [results,Tryz.results103,go_sem,z0,z1]) rfl ⟨.inr ⟨Z HQ,_,rfl,?_⟩,?_⟩
  ·have ob:(Value.slice (some ⟨g',0,none⟩) (k+1) cp').ownBlock≠some w.heap.size:=fun e=>by
    have h1:=((Z HI).own.lt _ e).1
    have h2:=(Z HI).hN
    omega
   have z4:wr.cell? ⟨w.heap.size,4,none⟩=none:=by rw [(Z HI).one.cell (by simp),bK _ _ _ _ _ rfl];rfl
   refine bW.setBox (bW.setBox ⟨_,eD (Z HI).own (by have:=(Z HI).hN;omega),(Z HI).pls⟩ z4 ob) (fL z4) ob
  repeat (refine Below.setCell ?_ (by simp) _)
  exact ((Below.refl _ _).alloc (Nat.le_refl _) _).trans ((Z HI).one.mono (by omega))
def Readed (lo nf:Nat) (fns:Nat->ByteArray) (n:Nat) (f:Nat->M) (e:Ending) (w':World):Prop :=
 ∃ v' c m,e=.returned (.tuple #[v',.agg #[.int .i64 c,.int .i64 m]])/\Ans nf fns n f c m/\(c=0->bW lo w' v' n f)/\∃ a l cp,v'=.slice a l cp
theorem mU (lo:Nat) (v1 v2:Value) (nf:Nat) (fns:Nat->ByteArray) (n:Nat) (f:Nat->M) (w:World) (h1:eE lo w v1 nf fns) (h2:bQ lo w v2 n f) :
  Calls Tryz.prog 39 #[.agg #[v1,v2]] w fun e w'=>Readed w.heap.size nf fns n f e w'/\Below w.heap.size w w':=by
 have H1:=O h1
 have H2:=O h2
 obtain ⟨a1,cap1,rfl,hn1,-⟩:=h1
 obtain ⟨a2,cap2,rfl,hn2,-⟩:=h2
 unfold maxLen at hn1 hn2
 have T0:Hid (Two w (.slice a1 nf cap1) (.slice a2 n cap2) ((w.alloc (.cells #[.slice a1 nf cap1,.slice a2 n cap2] 26)).alloc (.cells #[.int .i64 0,.int .i64 0] 49))):=O (Below.refl _ _)
 go_enter Tryz.func39,Tryz.ntmps39
 go_wp2_with fail
 refine (sizesOk_any lo _ _ nf fns n f _ ((Z H1).below (Z T0).below) ((Z H2).below (Z T0).below)).mono ?_
 rintro e w1 ⟨⟨b,rfl,hsz⟩,hb1⟩
 have T1:=O ((Z T0).go hb1);clear hb1 T0
 have g0:=(Z T1).b0
 have g1:=(Z T1).b1
 have g2:=(Z T1).r0
 have g3:=(Z T1).r1
 have g4:=(Z T1).f0
 have g5:=(Z T1).f1
 cases b with
 | false =>
  have HS:Hid (¬ kN nf fns n):=O (fun h=>by simp [h] at hsz)
  clear hsz
  go_wp2
  refine bodyPost_ret (v:=.tuple #[.slice none 0 0,.agg #[.int .i64 1,.int .i64 0]]) (by simp [results,Tryz.results39,go_sem,g2,g3]) rfl ⟨⟨_,1,0,rfl,.inl ⟨Z HS,rfl,rfl⟩,(fun h=>absurd h (by decide)),_,_,_,rfl⟩,?_⟩
  repeat (refine Below.setCell ?_ (by simp) _)
  exact (Z T1).below
 | true =>
  have HS:Hid (kN nf fns n):=O (by simpa using hsz)
  clear hsz
  go_wp2
  go_loopw [13] (fun i w'=>∃ (k:Nat),k<=n/\i=.int .i64 k/\(∀ j,j<k->fB nf (f j))/\Two w (.slice a1 nf cap1) (.slice a2 n cap2) w') (fun i _=>n - (intOf i).toNat)
  case atStart=>exact ⟨0,by omega,rfl,by omega,Z T1⟩
  case round =>
   obtain ⟨k,hk,rfl,hq,ht⟩:=hrel
   have HQ:=O hq;clear hq
   have HT:=O ht;clear ht g0 g1 g2 g3 g4 g5 T1
   by_cases hlt:k<n
   ·obtain ⟨_,_,e,_,hv⟩:=(Z H2).below (Z HT).below
    cases e
    obtain ⟨b,o,vv,rfl,hc0,hc1,hc2,hc3,hc4,hc5,hs1,hs2,-⟩:=hv k hlt
    clear hv
    have HV:=O hs2
    obtain ⟨av,capv,rfl,-⟩:=hs2
    have hsz:=(Z HT).size
    have BA:=O ((Below.refl wr.heap.size wr).alloc (Nat.le_refl _) (.cells #[.int .i64 (f k).kind,.int .i64 (f k).task,.int .i64 (f k).fn,.int .i64 (f k).line,.string (f k).text,.slice av (f k).nv capv] 108))
    have g6:=((Z HT).go (Z BA)).b0
    have g7:=((Z HT).go (Z BA)).b1
    go_wp2_with fail
    refine (momentOk_any lo nf _ _ _ _ _ _ (f k).nv (f k).vars _ hs1 ((Z HV).below (Z BA))).mono ?_
    rintro e w2 ⟨⟨b,rfl,hm⟩,hb2⟩
    have T2:=O (((Z HT).go (Z BA)).go hb2);clear hb2
    have g2:=(Z T2).r0
    have g3:=(Z T2).r1
    have g4:=(Z T2).f0
    have g5:=(Z T2).f1
    cases b with
    | false =>
     have HM:Hid (¬ fB nf (f k)):=O (fun h=>by
      have:=hm.2 h
      cases this)
     clear hm
     go_wp2
     refine bodyPost_ret (v:=.tuple #[.slice none 0 0,.agg #[.int .i64 2,.int .i64 k]]) (by simp [results,Tryz.results39,go_sem,g2,g3]) rfl ⟨⟨_,2,k,rfl,.inr (.inl ⟨Z HS,k,hlt,Z HM,Z HQ,rfl,rfl⟩),(fun h=>absurd h (by decide)),_,_,_,rfl⟩,?_⟩
     repeat (refine Below.setCell ?_ (by simp) _)
     exact (Z T2).below
    | true =>
     have HM:Hid (fB nf (f k)):=O (hm.1 rfl)
     clear hm
     go_wp2
     go_roundw
     case rel =>
      refine ⟨k+1,by omega,by go_num,fun j hj=>?_,Z T2⟩
      by_cases hjk:j<k
      ·exact Z HQ j hjk
      have e:j=k:=by omega
      rw [e];exact Z HM
     case measure=>simp [intOf];omega
   have hkn:k=n:=by omega
   subst hkn
   clear hlt
   have g0:=(Z HT).b0
   have g1:=(Z HT).b1
   go_wp2_with fail
   refine (yA lo nf _ k f _ ((Z H2).below (Z HT).below) (Z HS).2.2.1 (Z HQ)).mono ?_
   rintro e w2 ⟨hfo,hb2⟩
   have T2:=O ((Z HT).go hb2);clear hb2 g0 g1
   have g2:=(Z T2).r0
   have g3:=(Z T2).r1
   have g4:=(Z T2).f0
   have g5:=(Z T2).f1
   rcases hfo with ⟨i,hi,hcd,hq,rfl⟩ | ⟨hq,v',rfl,hpl⟩
   ·have HC:=O (And.intro hcd hq);clear hcd hq
    go_wp2
    refine bodyPost_ret (v:=.tuple #[.slice none 0 0,.agg #[.int .i64 (eB f i),.int .i64 i]]) (by simp [results,Tryz.results39,go_sem,g2,g3]) rfl ⟨⟨_,_,i,rfl,.inr (.inr (.inl ⟨Z HS,Z HQ,i,hi,(Z HC).1,(Z HC).2,rfl,rfl⟩)),fun h=>absurd h (Z HC).1,_,_,_,rfl⟩,?_⟩
    repeat (refine Below.setCell ?_ (by simp) _)
    exact (Z T2).below
   have HC:=O hq;clear hq
   have HP:=O hpl
   obtain ⟨xs,hp1,-⟩:=hpl
   obtain ⟨ap,cp,rfl⟩:=bR hp1
   clear hp1
   go_wp2
   refine bodyPost_ret (v:=.tuple #[.slice ap (k+1) cp,.agg #[.int .i64 0,.int .i64 0]]) (by simp [results,Tryz.results39,go_sem,g2,g3]) rfl ⟨⟨_,0,0,rfl,.inr (.inr (.inr ⟨Z HS,Z HQ,Z HC,rfl,rfl⟩)),fun _=>?_,_,_,_,rfl⟩,?_⟩
   ·have hsz:=(Z HT).size
    have ob:(Value.slice ap (k+1) cp).ownBlock≠some (w.heap.size+1):=fun e=>by
     obtain ⟨xs',hp2,-⟩:=Z HP
     have:=(hp2.lt _ e).1
     omega
    have z4:w2.cell? ⟨w.heap.size+1,4,none⟩=none:=by
     have h2:Two w _ _ w2:=Z T2
     rw [Below.cell h2 (by simp),bK _ _ _ _ _ (by simp)];rfl
    have h3:=bW.setBox (o:=1) (u:=.int .i64 0) (bW.setBox (o:=0) (u:=.int .i64 0) (Z HP) z4 ob) (fL z4) ob
    obtain ⟨xs',hp3,hp4⟩:=h3
    exact ⟨xs',eD hp3 (by omega),hp4⟩
   repeat (refine Below.setCell ?_ (by simp) _)
   exact (Z T2).below
end Go.Proofs.YtmnmeaeicjhkhaaGreatDoor
