import Derived.Test.YtmnmeaeicjhkhaaGreatDoorGSaz
import Derived.Deep.QuietTactic
import Derived.BigQuiet
import Derived.Deep.RegionHeld3
import Derived.Deep.AppendLies
set_option maxHeartbeats 16000000
namespace Go.Proofs.YtmnmeaeicjhkhaaGreatDoor
open Go.RowKit
def frCells (l:List Fr):List Value:=l.flatMap fun f=>[.int .i64 f.fn,.int .i64 f.line,.int .i64 f.frm]
structure SpecCore (B:Nat) (w:World) (ps bt:Nat) (V:Nat→Value) (s:St):Prop where
 hp:B≤ps
 hbt:B≤bt
 ne:ps ≠ bt
 c0:w.cell? ⟨ps,0,none⟩=some (.slice (some ⟨bt,0,none⟩) 101 101)
 c1:w.cell? ⟨ps,1,none⟩=some (.int .i64 s.cur)
 fz:w.frozen? ⟨ps,1,none⟩=false
 row:w.rowIs bt 35 101 V
 own:∀ t,t < 101→w.ownsRow B 42 3 (V t) (s.tasks t).length (frCells (s.tasks t).reverse)
 nps:∀ t,t < 101→(V t).ownBlock ≠ some ps
 nbt:∀ t,t < 101→(V t).ownBlock ≠ some bt
 dis:∀ t t',t < 101→t' < 101→t ≠ t'→(V t).ownBlock=none∨(V t).ownBlock ≠ (V t').ownBlock
 cur:s.cur < 101
 len:∀ t,t < 101→(s.tasks t).length≤200
def SpecAt (B:Nat) (w:World) (ps:Nat) (s:St):Prop:=∃ bt V,SpecCore B w ps bt V s
theorem owns_slice {w:World} {B:Nat} {e:TypeId} {z:Nat} {v:Value} {n:Nat} {xs:List Value} (h:w.ownsRow B e z v n xs):∃ a cap,v=.slice a n cap:=by
 rcases h.2 with ⟨rfl,rfl⟩ | ⟨g,cap,_,rfl,_⟩
 ·exact ⟨none,0,rfl⟩
 ·exact ⟨_,cap,rfl⟩
theorem frCells_len (l:List Fr):(frCells l).length=l.length * 3:=by
 induction l with
 | nil=>rfl
 | cons f r ih=>simp only [frCells,List.flatMap_cons,List.length_append,List.length_cons,List.length_nil] at *;omega
theorem frCells_app (a b:List Fr):frCells (a ++ b)=frCells a ++ frCells b:=by simp [frCells]
theorem owns_cell {w:World} {B:Nat} {e:TypeId} {z:Nat} {g:Nat} {n cap:Nat} {xs:List Value} (h:w.ownsRow B e z (.slice (some ⟨g,0,none⟩) n cap) n xs) (j:Nat) (u:Value) (hu:xs[j]?=some u) :
  w.cell? ⟨g,j,none⟩=some u∧w.frozen? ⟨g,j,none⟩=false:=by
 rcases h.2 with ⟨h,_⟩ | ⟨g',cap',cur,hv,_,hg,_,_,_,ht⟩
 ·cases h
 ·cases hv
  rw [← ht,List.getElem?_take] at hu
  split at hu
  ·refine ⟨?_,by simp [World.frozen?,hg]⟩
   simp only [World.cell?,hg]
   simpa using hu
  ·cases hu
theorem owns_top {w:World} {B:Nat} {e:TypeId} {v:Value} {f:Fr} {r:List Fr} (h:w.ownsRow B e 3 v (f :: r).length (frCells (f :: r).reverse)) :
  ∃ g cap,v=.slice (some ⟨g,0,none⟩) (r.length + 1) cap∧B≤g∧g < w.heap.size∧w.cell? ⟨g,r.length * 3,none⟩=some (.int .i64 f.fn)∧w.cell? ⟨g,r.length * 3 + 1,none⟩=some (.int .i64 f.line)∧w.cell? ⟨g,r.length * 3 + 2,none⟩=some (.int .i64 f.frm) ∧
   w.frozen? ⟨g,r.length * 3 + 1,none⟩=false:=by
 have h':=h
 rcases h.2 with ⟨_,h0⟩ | ⟨g,cap,cur,rfl,hB,hg,_⟩
 ·simp at h0
 have e1:frCells (f :: r).reverse=frCells r.reverse ++ [.int .i64 f.fn,.int .i64 f.line,.int .i64 f.frm]:=by rw [List.reverse_cons,frCells_app];rfl
 have hl:(frCells r.reverse).length=r.length * 3:=by rw [frCells_len,List.length_reverse]
 rw [e1] at h'
 refine ⟨g,cap,rfl,hB,(Array.getElem?_eq_some_iff.1 hg).1,(owns_cell h' _ _ ?_).1,(owns_cell h' _ _ ?_).1,(owns_cell h' _ _ ?_).1,(owns_cell h' (r.length * 3 + 1) (.int .i64 f.line) ?_).2⟩
 ·rw [List.getElem?_append_right (by omega),hl];simp
 ·rw [List.getElem?_append_right (by omega),hl];simp
 ·rw [List.getElem?_append_right (by omega),hl];simp
 ·rw [List.getElem?_append_right (by omega),hl];simp
theorem SpecCore.grown {B:Nat} {w w':World} {ps bt:Nat} {V:Nat→Value} {s:St} (h:SpecCore B w ps bt V s) (hb:Below w.heap.size w w'):SpecCore B w' ps bt V s:=by
 have hg:w.grownBy w' none:=⟨hb.os,hb.tape,hb.output,hb.size,fun k hk _=>hb.block k hk⟩
 refine ⟨h.hp,h.hbt,h.ne,cell_below hb h.c0,cell_below hb h.c1,?_,h.row.of_block (hb.block _ h.row.lt),fun t ht=>(h.own t ht).kept hg ?_,h.nps,h.nbt,h.dis,h.cur,h.len⟩
 ·rw [hb.frozen (cell_lt h.c1)];exact h.fz
 ·by_cases e:(V t).ownBlock=none
  ·exact .inl e
  ·exact .inr e
theorem SpecAt.below {B:Nat} {w w':World} {ps:Nat} {s:St} (hb:Below w.heap.size w w') (h:SpecAt B w ps s):SpecAt B w' ps s:=by
 obtain ⟨bt,V,h⟩:=h
 exact ⟨bt,V,h.grown hb⟩
theorem top_any (B ps:Nat) (s:St) (w:World) (h:SpecAt B w ps s) :
  Calls Tryz.prog 86 #[.pointer (some ⟨ps,0,none⟩)] w fun e w'=>e=.returned (.int .i64 ((s.tasks s.cur).length - 1))∧∃ q,w'=w.drewN q:=by
 obtain ⟨bt,V,hh⟩:=h
 have h0:=hh.c0
 have h1:=hh.c1
 have h4:=hh.cur
 obtain ⟨a,cap,hV⟩:=owns_slice (hh.own s.cur h4)
 have hc:=hh.row.cell h4
 rw [hV] at hc
 have hl:=hh.len s.cur h4
 clear hh
 have hi1:(0:Int)≤(s.cur:Int):=by omega
 have hi2:(s.cur:Int) < 101:=by omega
 clear hV
 generalize (s.tasks s.cur).length=n at *
 generalize s.cur=c at *
 go_enter Tryz.func86,Tryz.ntmps86
 go_wp2
 go_quiet (fail)
 go_wp2
 go_ret
 exact ⟨rfl,_,rfl⟩
theorem below_drewN' (w:World) (q:Nat):Below w.heap.size w (w.drewN q):=below_drewN (Below.refl _ _) q
theorem fn_any (B ps:Nat) (s:St) (w:World) (h:SpecAt B w ps s) :
  Calls Tryz.prog 84 #[.pointer (some ⟨ps,0,none⟩)] w fun e w'=>e=.returned (.int .i64 (topFn (s.tasks s.cur)))∧∃ q,w'=w.drewN q:=by
 have H:=hide h
 obtain ⟨bt,V,hh⟩:=h
 have h0:=hh.c0
 have h1:=hh.c1
 have h4:=hh.cur
 have hc:=hh.row.cell h4
 have hl:=hh.len s.cur h4
 have ho:=hh.own s.cur h4
 clear hh
 have hi1:(0:Int)≤(s.cur:Int):=by omega
 have hi2:(s.cur:Int) < 101:=by omega
 have HT:Hid (∀ q,Calls Tryz.prog 86 #[.pointer (some ⟨ps,0,none⟩)] (w.drewN q) fun e w'=>e=.returned (.int .i64 ((s.tasks s.cur).length - 1))∧∃ q',w'=(w.drewN q).drewN q') :=
  hide fun q=>top_any B ps s _ ((uh H).below (below_drewN' w q))
 have HT2:Hid (∀ p q,Calls Tryz.prog 86 #[.pointer (some ⟨ps,0,none⟩)] ((w.drewN p).drewN q) fun e w'=>e=.returned (.int .i64 ((s.tasks s.cur).length - 1))∧∃ q',w'=((w.drewN p).drewN q).drewN q') :=
  hide fun p q=>top_any B ps s _ (((uh H).below (below_drewN' w p)).below (below_drewN' (w.drewN p) q))
 cases hs:s.tasks s.cur with
 | nil =>
  clear HT2
  rw [hs] at HT
  have HT0:=hide (uh HT 0)
  clear HT ho hc hl hs
  go_enter Tryz.func84,Tryz.ntmps84
  go_wp2_with fail
  refine (show Calls Tryz.prog _ _ w _ from uh HT0).mono ?_
  rintro e w1 ⟨rfl,q,hq⟩
  subst hq
  go_wp2
  go_ret
  exact ⟨rfl,_,rfl⟩
 | cons f r =>
  rw [hs] at HT HT2 ho hl
  obtain ⟨g,cap,hV,-,-,k0,-⟩:=owns_top ho
  rw [hV] at hc
  clear hs ho hV
  have hl':r.length < 200:=by simp at hl;omega
  clear hl
  rw [show (((f :: r).length:Nat):Int) - 1=(r.length:Int) by simp] at HT HT2
  have e2:topFn (f :: r)=f.fn:=rfl
  rw [e2]
  clear e2
  generalize f.fn=fn at *
  generalize r.length=n at *
  generalize s.cur=c at *
  clear H
  go_enter Tryz.func84,Tryz.ntmps84
  go_wp2_with fail
  refine (show Calls Tryz.prog _ _ w _ from uh HT 0).mono ?_
  rintro e w1 ⟨rfl,q,hq⟩
  have hq':w1=w.drewN q:=hq
  have HT3:Hid (∀ m,Calls Tryz.prog 86 #[.pointer (some ⟨ps,0,none⟩)] (w1.drewN m) fun e w'=>e=.returned (.int .i64 (n:Int))∧∃ q',w'=(w1.drewN m).drewN q'):=by
   rw [hq'];exact hide (uh HT2 q)
  have h0':w1.cell? ⟨ps,0,none⟩=some (.slice (some ⟨bt,0,none⟩) 101 101):=by rw [hq'];simpa using h0
  have h1':w1.cell? ⟨ps,1,none⟩=some (.int .i64 c):=by rw [hq'];simpa using h1
  have hc':w1.cell? ⟨bt,c,none⟩=some (.slice (some ⟨g,0,none⟩) (n + 1) cap):=by rw [hq'];simpa using hc
  have k0':w1.cell? ⟨g,n * 3,none⟩=some (.int .i64 fn):=by rw [hq'];simpa using k0
  have HQ:=hide hq'
  clear hq hq' HT HT2 h0 h1 hc k0
  go_wp2_with fail
  go_quiet ((go_at_call 86;exact Calls.quiet_of (uh HT3 _)))
  go_wp2
  go_ret
  refine ⟨rfl,?_⟩
  rw [uh HQ]
  exact ⟨_,World.drewN_drewN _ _ _⟩
end Go.Proofs.YtmnmeaeicjhkhaaGreatDoor
namespace Go.Proofs.YtmnmeaeicjhkhaaGreatDoor
open Go.RowKit
theorem owns_setCell {w:World} {B:Nat} {e:TypeId} {z:Nat} {v:Value} {n:Nat} {xs:List Value} {a:Addr} {u:Value} (h:w.ownsRow B e z v n xs) (hne:v.ownBlock ≠ some a.block):(w.setCell a u).ownsRow B e z v n xs:=by
 refine ⟨h.1,?_⟩
 rcases h.2 with hn | ⟨g,cap,cur,rfl,hb,hgg,rest⟩
 ·exact .inl hn
 ·refine .inr ⟨g,cap,cur,rfl,hb,?_,rest⟩
  rw [Below.heap_setCell _ _ _ _ (fun e=>hne (by simp [Value.ownBlock,e]))]
  exact hgg
theorem SpecAt.setCur {B:Nat} {w:World} {ps:Nat} {s:St} (h:SpecAt B w ps s) (t:Nat) (ht:t < 101):SpecAt B (w.setCell ⟨ps,1,none⟩ (.int .i64 t)) ps ⟨t,s.tasks⟩:=by
 obtain ⟨bt,V,h⟩:=h
 refine ⟨bt,V,h.hp,h.hbt,h.ne,?_,World.cell?_setCell_same _ _ _ h.c1,by rw [World.frozen?_setCell];exact h.fz,h.row.setOther (fun e=>h.ne e.symm) _,fun t ht=>owns_setCell (h.own t ht) (h.nps t ht),h.nps,h.nbt,h.dis,ht,h.len⟩
 rw [World.cell?_setCell_other _ _ _ _ (by simp)];exact h.c0
theorem SpecCore.putRow {B:Nat} {w w2:World} {ps bt:Nat} {V:Nat→Value} {s:St} {l:List Fr} {v':Value} {g:Nat} (h:SpecCore B w ps bt V s) (hg:w.grownBy w2 (V s.cur).ownBlock)
  (ho:w2.ownsRow B 42 3 v' l.length (frCells l.reverse)) (hv:v'.ownBlock=some g) (hat:(V s.cur).ownBlock=some g∨w.heap.size≤g) (hl:l.length≤200) :
  SpecCore B (w2.setCell ⟨bt,s.cur,none⟩ v') ps bt (fun t=>if t=s.cur then v' else V t) (s.put l):=by
 have hps:ps < w.heap.size:=cell_lt h.c0
 have hbt:=h.row.lt
 have n1:some ps ≠ (V s.cur).ownBlock:=fun e=>h.nps _ h.cur e.symm
 have n2:some bt ≠ (V s.cur).ownBlock:=fun e=>h.nbt _ h.cur e.symm
 have hgb:∀ t,t < 101→∀ k,(V t).ownBlock=some k→k < w.heap.size:=fun t ht k hk=>((h.own t ht).lt k hk).2
 have hgp:g ≠ ps:=fun e=>by
  rcases hat with h1 | h1
  ·exact n1 (by rw [h1,e])
  ·omega
 have hgt:g ≠ bt:=fun e=>by
  rcases hat with h1 | h1
  ·exact n2 (by rw [h1,e])
  ·omega
 refine ⟨h.hp,h.hbt,h.ne,?_,?_,?_,?_,fun t ht=>?_,fun t ht=>?_,fun t ht=>?_,fun t t' ht ht' hne=>?_,h.cur,fun t ht=>?_⟩
 ·exact cell_set_ne (fun e=>h.ne e.symm) (hg.cell h.c0 n1)
 ·exact cell_set_ne (fun e=>h.ne e.symm) (hg.cell h.c1 n1)
 ·rw [World.frozen?_setCell,World.frozen?_of_block (hg.block ps hps n1)];exact h.fz
 ·exact (h.row.of_block (hg.block bt hbt n2)).set s.cur v'
 ·show (w2.setCell _ _).ownsRow B _ 3 (if t=s.cur then v' else V t) (if t=s.cur then l else s.tasks t).length (frCells (if t=s.cur then l else s.tasks t).reverse)
  by_cases e:t=s.cur
  ·rw [if_pos e,if_pos e]
   exact owns_setCell ho (by rw [hv];simpa using hgt)
  ·rw [if_neg e,if_neg e]
   exact owns_setCell ((h.own t ht).kept hg (h.dis t s.cur ht h.cur e)) (h.nbt t ht)
 ·by_cases e:t=s.cur
  ·rw [if_pos e,hv];simpa using hgp
  ·rw [if_neg e];exact h.nps t ht
 ·by_cases e:t=s.cur
  ·rw [if_pos e,hv];simpa using hgt
  ·rw [if_neg e];exact h.nbt t ht
 ·by_cases e:t=s.cur
  ·by_cases e':t'=s.cur
   ·exact absurd (e.trans e'.symm) hne
   ·rw [if_pos e,if_neg e',hv]
    right
    intro h1
    rcases hat with h2 | h2
    ·rcases h.dis t' s.cur ht' h.cur e' with h3 | h3
     ·rw [h3] at h1;cases h1
     ·exact h3 (by rw [← h1,h2])
    ·have:=hgb t' ht' g h1.symm;omega
  ·by_cases e':t'=s.cur
   ·rw [if_neg e,if_pos e',hv]
    by_cases h0:(V t).ownBlock=none
    ·exact .inl h0
    ·right
     intro h1
     rcases hat with h2 | h2
     ·rcases h.dis t s.cur ht h.cur e with h3 | h3
      ·exact h0 h3
      ·exact h3 (by rw [h1,h2])
     ·have:=hgb t ht g h1;omega
   ·rw [if_neg e,if_neg e'];exact h.dis t t' ht ht' hne
 ·show (if t=s.cur then l else s.tasks t).length≤200
  by_cases e:t=s.cur
  ·rw [if_pos e];exact hl
  ·rw [if_neg e];exact h.len t ht
def Keeps (ps:Nat) (w w':World):Prop :=
 ∀ b cs e fr,w.heap[b]?=some (.cells cs e fr)→b ≠ ps→e ≠ 42→e ≠ 35→w'.heap[b]?=w.heap[b]?
theorem Keeps.of_below {ps:Nat} {w w':World} (hb:Below w.heap.size w w'):Keeps ps w w':=fun b _ _ _ h _ _ _=>hb.block b (Array.getElem?_eq_some_iff.1 h).1
theorem Keeps.drew {ps:Nat} {w w':World} (h:Keeps ps w w'):Keeps ps w w'.drew:=h
theorem Keeps.of_out {ps:Nat} {w w':World} (X:Nat→Prop) (h1:∀ b,b < w.heap.size→¬ X b→w'.heap[b]?=w.heap[b]?)
  (h2:∀ b,X b→b=ps∨(∃ cs fr,w.heap[b]?=some (.cells cs 42 fr))∨∃ cs fr,w.heap[b]?=some (.cells cs 35 fr)):Keeps ps w w':=by
 intro b cs e fr h hp n1 n2
 refine h1 b (Array.getElem?_eq_some_iff.1 h).1 (fun hx=>?_)
 rcases h2 b hx with e1 | ⟨cs',fr',e1⟩ | ⟨cs',fr',e1⟩
 ·exact hp e1
 ·rw [h] at e1;cases e1;exact n1 rfl
 ·rw [h] at e1;cases e1;exact n2 rfl
def Kinds (w:World) (bt:Nat) (V:Nat→Value):Prop :=
 (∃ cs fr,w.heap[bt]?=some (.cells cs 35 fr))∧∀ t,t < 101→∀ b,(V t).ownBlock=some b→∃ cs fr,w.heap[b]?=some (.cells cs 42 fr)
theorem SpecCore.kinds {B:Nat} {w:World} {ps bt:Nat} {V:Nat→Value} {s:St} (h:SpecCore B w ps bt V s):Kinds w bt V:=by
 refine ⟨?_,fun t ht b hb=>?_⟩
 ·obtain ⟨c,hc,_⟩:=h.row
  exact ⟨c,_,hc⟩
 ·rcases (h.own t ht).2 with ⟨e,_⟩ | ⟨g,cap,cur,e,_,hg,_⟩
  ·rw [e] at hb;cases hb
  ·rw [e] at hb;cases hb;exact ⟨cur,_,hg⟩
def Moved (B:Nat) (w:World) (ps:Nat) (s:St) (k t fn l i:Int) (e:Ending) (w':World):Prop :=
 e=.returned (.int .i64 (code s k t fn))∧(code s k t fn=0→SpecAt B w' ps (s.step k t fn l i))∧Below B w w'∧Keeps ps w w'
theorem SpecAt.base {B:Nat} {w:World} {ps:Nat} {s:St} (h:SpecAt B w ps s):B≤w.heap.size:=by
 obtain ⟨bt,V,h⟩:=h
 exact Nat.le_of_lt (Nat.lt_of_le_of_lt h.hp (cell_lt h.c0))
theorem move_turn (B ps:Nat) (s:St) (t fn l i:Int) (tx:ByteArray) (v:Value) (w:World) (h:SpecAt B w ps s) (h1:0≤t) (h2:t≤100) :
  Calls Tryz.prog 57 #[.pointer (some ⟨ps,0,none⟩),.agg #[.int .i64 7,.int .i64 t,.int .i64 fn,.int .i64 l,.string tx,v],.int .i64 i] w (Moved B w ps s 7 t fn l i):=by
 have H:=hide h
 have hB:=hide h.base
 obtain ⟨bt,V,hh⟩:=h
 have hp:=hh.hp
 have h0:=hh.c0
 have hc1:=hh.c1
 have hf:=hh.fz
 clear hh
 have hz:=cell_lt h0
 simp only at hz
 obtain ⟨n,rfl⟩:=Int.eq_ofNat_of_zero_le h1
 go_enter Tryz.func57,Tryz.ntmps57
 go_wp2
 go_ret
 refine ⟨rfl,fun _=>?_,?_,?_⟩
 ·have e:s.step 7 (n:Int) fn l i=⟨n,s.tasks⟩:=by simp [St.step]
  rw [e]
  exact ((uh H).setCur n (by omega)).below ((Below.refl _ _).alloc (Nat.le_refl _) _)
 ·exact ((Below.refl _ _).setCell (p:=⟨ps,1,none⟩) hp _).alloc (by simpa using uh hB) _
 ·refine Keeps.of_out (fun b=>b=ps) (fun b hb hx=>?_) (fun b hx=>.inl hx)
  rw [Below.heap_alloc _ _ _ (by simpa using hb),Below.heap_setCell _ _ _ _ hx]
theorem move_task (B ps:Nat) (s:St) (k t fn l i:Int) (tx:ByteArray) (v:Value) (w:World) (h:SpecAt B w ps s) (hk:(k == 7)=false) (ht:t ≠ s.cur) :
  Calls Tryz.prog 57 #[.pointer (some ⟨ps,0,none⟩),.agg #[.int .i64 k,.int .i64 t,.int .i64 fn,.int .i64 l,.string tx,v],.int .i64 i] w (Moved B w ps s k t fn l i):=by
 have H:=hide h
 have hB:=hide h.base
 obtain ⟨bt,V,hh⟩:=h
 have hp:=hh.hp
 have h0:=hh.c0
 have hc1:=hh.c1
 have hf:=hh.fz
 clear hh
 have hz:=cell_lt h0
 simp only at hz
 have e3:code s k t fn=3:=by
  have:k ≠ 7:=by simpa using hk
  simp [code,this,ht]
 have E3:=hide e3;clear e3
 have htt:(t != (s.cur:Int))=true:=by simpa using ht
 have HT:=hide ht;clear ht
 have hne:ps ≠ w.heap.size:=by omega
 go_enter Tryz.func57,Tryz.ntmps57
 go_wp2
 go_quiet (fail)
 go_wp2
 go_ret
 refine ⟨by rw [uh E3];rfl,fun h=>?_,?_,?_⟩
 ·rw [uh E3] at h;cases h
 ·exact below_drewN ((Below.refl _ _).alloc (uh hB) _) _
 ·exact Keeps.of_below (below_drewN ((Below.refl _ _).alloc (Nat.le_refl _) _) _)
end Go.Proofs.YtmnmeaeicjhkhaaGreatDoor
