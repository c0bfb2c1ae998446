import Derived.Test.YtmnmeaeicjhkhaaGreatDoorGDax
import Derived.Deep.RegionLaw
namespace Go.Proofs.YtmnmeaeicjhkhaaGreatDoor
section
open Go.RowKit
attribute [local go_sem ↓] Go.wp_at_zero Go.wp_at_succ
def gW (l:List V):List Value:=l.flatMap fun v=>[.string v.name,.string v.text]
theorem rM (a b:List V):gW (a ++ b)=gW a ++ gW b:=List.flatMap_append ..
def qW (B:Nat) (w:World) (v:Value) (l:List V):Prop:=w.ownsRow B 40 2 v l.length (gW l)/\∀ x,x∈l->x.name.size=1/\x.text.size=1
theorem dY.onw {lo hi:Nat} {a w w':World} (h:dY lo hi a w) (hb:Below a.heap.size w w'):dY lo hi a w':=by
 refine ⟨hb.os.trans h.os,hb.tape.trans h.tape,hb.output.trans h.output,Nat.le_trans h.size hb.size,fun b hb' hr=>(hb.block b hb').trans (h.block b hb' hr),fun p hp=>(hb.frozen hp).trans (h.fz p hp),fun p u hu e=>?_,fun p u hu e=>?_⟩
 ·obtain ⟨u',h1,e1⟩:=h.pl p u hu e
  exact ⟨u',by rw [hb.cell (bV hu)];exact h1,e1⟩
 rw [hb.cell (bV hu)];exact h.fix p u hu e
theorem mN {lo hi B:Nat} {w w':World} {e:TypeId} {z:Nat} {v:Value} {n:Nat} {xs:List Value} (h:w.ownsRow B e z v n xs) (hb:dY lo hi w w') (hB:hi<=B):w'.ownsRow B e z v n xs:=by
 obtain ⟨h1,h2⟩:=h
 refine ⟨h1,?_⟩
 rcases h2 with h2 | ⟨g,cap,cur,hv,hg,hh,r⟩
 ·exact .inl h2
 exact .inr ⟨g,cap,cur,hv,hg,by rw [hb.block g (Array.getElem?_eq_some_iff.1 hh).1 (.inr (by omega))];exact hh,r⟩
theorem dY.cell {lo hi:Nat} {w w':World} (h:dY lo hi w w') {b o:Nat} {u:Value} (hb:hi<=b) (hc:w.cell? ⟨b,o,none⟩=some u):w'.cell? ⟨b,o,none⟩=some u:=by
 have hl:b<w.heap.size:=bV hc
 rw [World.cell?_of_block (h.block b hl (.inr hb))];exact hc
theorem qX (n:Int):IntKind.u8.wrap n=n % 256:=by simp [IntKind.wrap,IntKind.bits,IntKind.signed]
theorem kY (W:World) (b:Nat) (d:Int) (h:W.cell? ⟨b,0,none⟩=some (.int .u8 d)):Sem.run Tryz.prog (convert 22 9 (.slice (some ⟨b,0,none⟩) 1 1)) W=.ok (.string (strOfNums [d])) W:=by
 refine run_convert_bytes_arg (P:=Tryz.prog) (w:=W) 22 5 Tryz.underlying22 Tryz.underlying5 b 0 1 1 [d] rfl (fun i hi=>?_) 9 Tryz.underlying9
 have e:i=0:=by omega
 subst e
 exact h
theorem jP {P:Program} {md:Region.Mode} {ops:Array Oper} {Q:Exit->Act->World->Prop} {S S':World->Prop} (hs:∀ w,S' w->S w):∀ (fuel:Nat) (listed:Array Bool) (a:Act) (w:World),wpAnyH P md ops Q S' fuel listed a w->wpAnyH P md ops Q S fuel listed a w
 | 0,_,_,_,h=>h
 | fuel+1,_,_,_,h=>⟨h.1,fun i hi=>wpOp_mono (fun a' w' h'=>⟨hs w' h'.1,jP hs fuel _ a' w' h'.2⟩) (h.2 i hi)⟩
end
structure Mo where
 kind:Int
 task:Int
 fn:Int
 line:Int
 text:ByteArray
 vv:Value
 l:List V
def V.nul:V:=⟨ByteArray.empty,ByteArray.empty⟩
def Mo.m (x:Mo):M:=⟨x.kind,x.task,x.fn,x.line,x.text,x.l.length,fun i=>x.l.getD i V.nul⟩
def Mo.nul:Mo:=⟨0,0,0,0,ByteArray.empty,.slice none 0 0,[]⟩
def fC (ms:List Mo) (i:Nat):M:=(ms.getD i Mo.nul).m
theorem bA9 {f g:Nat->M}:∀ k,(∀ i,i<k->f i=g i)->St.after f k=St.after g k
 | 0,_=>rfl
 | k+1,h=>by
  have ih:=bA9 k (fun i hi=>h i (by omega))
  show (St.after f k).step _ _ _ _ _=(St.after g k).step _ _ _ _ _
  rw [ih,h k (by omega)]
theorem bF9 (ms:List Mo) (m:Mo) (i:Nat) (hi:i<ms.length):fC (ms ++ [m]) i=fC ms i:=by
 unfold fC
 rw [List.getD_eq_getElem?_getD,List.getD_eq_getElem?_getD,List.getElem?_append_left hi]
theorem bG0 (ms:List Mo) (m:Mo):fC (ms ++ [m]) ms.length=m.m:=by
 unfold fC
 rw [List.getD_eq_getElem?_getD,List.getElem?_append_right (Nat.le_refl _),Nat.sub_self]
 rfl
def bG1 (ms:List Mo) (s:St):Prop:=St.after (fC ms) ms.length=s/\∀ i,i<ms.length->fB 4 (fC ms i)/\eB (fC ms) i=0
theorem bG1.sound {ms:List Mo} {s:St} (h:bG1 ms s):St.after (fC ms) ms.length=s/\∀ i,i<ms.length->fB 4 (fC ms i)/\eB (fC ms) i=0:=h
theorem bG1.nil:bG1 [] St.init:=⟨rfl,fun _ hi=>absurd hi (Nat.not_lt_zero _)⟩
theorem bG1.snoc {ms:List Mo} {s:St} (m:Mo) (h:bG1 ms s) (hm:fB 4 m.m) (hc:code s m.kind m.task m.fn=0):bG1 (ms ++ [m]) (s.step m.kind m.task m.fn m.line ms.length):=by
 obtain ⟨ih1,ih2⟩:=h
 have hcg:∀ k,k<=ms.length->St.after (fC (ms ++ [m])) k=St.after (fC ms) k:=fun k hk=>bA9 k (fun i hi=>bF9 ms m i (by omega))
 refine ⟨?_,fun i hi=>?_⟩
 ·rw [List.length_append,List.length_singleton]
  show (St.after (fC (ms ++ [m])) ms.length).step _ _ _ _ _=_
  rw [hcg _ (Nat.le_refl _),ih1,bG0]
  rfl
 rw [List.length_append,List.length_singleton] at hi
 by_cases e:i=ms.length
 ·subst e
  unfold eB
  rw [bG0,hcg _ (Nat.le_refl _),ih1]
  exact ⟨hm,hc⟩
 unfold eB
 rw [bF9 ms m i (by omega),hcg i (by omega)]
 exact ih2 i (by omega)
structure zF (s:St) (n:Nat):Prop where
 cur9:s.cur<9
 deep:∀ t,(s.tasks t).length<=n+1
 fns:∀ t (fr:Fr),fr∈s.tasks t->0<=fr.fn/\fr.fn<4
theorem zF.init:zF St.init 0:=by
 refine ⟨by decide,fun t=>?_,fun t fr hf=>?_⟩
 ·simp only [St.init];split<;>simp
 simp only [St.init] at hf
 split at hf
 ·rw [List.mem_singleton.1 hf];decide
 cases hf
theorem zF.topFn {s:St} {n:Nat} (h:zF s n) (t:Nat):0<=topFn (s.tasks t)/\topFn (s.tasks t)<4:=by
 cases e:s.tasks t with
 | nil=>exact ⟨Int.le_refl _,by decide⟩
 | cons f r=>exact h.fns t f (by rw [e];exact List.mem_cons_self ..)
def Good (s:St) (k t fn l:Int):Prop :=
 0<=l/\l<=4/\((k=7/\0<=t/\t<9/\fn=0)∨(t=s.cur/\((k=2/\0<=fn/\fn<4)∨(k=1/\fn=topFn (s.tasks s.cur)/\(s.tasks s.cur).length≠0/\1<=l)∨(k=3/\fn=topFn (s.tasks s.cur)/\0<=gU (s.tasks s.cur))∨(4<=k/\k<=6/\fn=topFn (s.tasks s.cur)))))
theorem Good.ok {s:St} {n:Nat} {x:Mo} (h:Good s x.kind x.task x.fn x.line) (ho:zF s n) (hn:n<190) (ht:x.text.size<=1) (hl:x.l.length<=3) (hv:∀ v,v∈x.l->v.name.size=1/\v.text.size=1) :
  fB 4 x.m/\code s x.kind x.task x.fn=0:=by
 have h9:=ho.cur9
 have hd:=ho.deep s.cur
 obtain ⟨f1,f2⟩:=ho.topFn s.cur
 obtain ⟨l1,l2,hk⟩:=h
 refine ⟨⟨?_,?_,fun i hi=>?_⟩,?_⟩
 ·show fG 4 x.kind x.task x.fn x.line x.text.size
  unfold fG
  rcases hk with ⟨a,b,c,d⟩ | ⟨a,⟨b,c,d⟩ | ⟨b,c,d,e⟩ | ⟨b,c,d⟩ | ⟨b,c,d⟩⟩
  all_goals omega
 ·show x.l.length<=200
  omega
 ·have hm:x.l.getD i V.nul∈x.l:=by
   have hi':i<x.l.length:=hi
   rw [List.getD_eq_getElem?_getD,List.getElem?_eq_getElem hi']
   exact List.getElem_mem hi'
  obtain ⟨e1,e2⟩:=hv _ hm
  show (x.l.getD i V.nul).name.size≠0/\(x.l.getD i V.nul).name.size<=40/\(x.l.getD i V.nul).text.size<=4000
  omega
 unfold code
 rcases hk with ⟨a,b,c,d⟩ | ⟨a,⟨b,c,d⟩ | ⟨b,c,d,e⟩ | ⟨b,c,d⟩ | ⟨b,c,d⟩⟩
 ·rw [if_pos a]
 ·rw [if_neg (by omega),if_neg (by omega),if_pos b,if_neg (by omega)]
 ·rw [if_neg (by omega),if_neg (by omega),if_neg (by omega),if_neg (by omega),if_pos b,if_neg d]
 ·rw [if_neg (by omega),if_neg (by omega),if_neg (by omega),if_neg (by omega),if_neg (by omega),if_pos b,if_neg (by omega)]
 rw [if_neg (by omega),if_neg (by omega),if_neg (by omega),if_neg (by omega),if_neg (by omega),if_neg (by omega)]
theorem zF.put {s:St} {n:Nat} (h:zF s n) (l:List Fr) (h1:l.length<=n+2) (h2:∀ fr,fr∈l->0<=fr.fn/\fr.fn<4):zF (s.put l) (n+1):=by
 refine ⟨h.cur9,fun t=>?_,fun t fr hf=>?_⟩
 ·simp only [St.put]
  split
  ·omega
  have:=h.deep t;omega
 simp only [St.put] at hf
 split at hf
 ·exact h2 fr hf
 exact h.fns t fr hf
theorem Good.step {s:St} {n:Nat} {k t fn l:Int} (h:Good s k t fn l) (ho:zF s n) (i:Int):zF (s.step k t fn l i) (n+1):=by
 obtain ⟨l1,l2,hk⟩:=h
 have hd:=ho.deep s.cur
 unfold St.step
 rcases hk with ⟨a,b,c,d⟩ | ⟨a,⟨b,c,d⟩ | ⟨b,c,d,e⟩ | ⟨b,c,d⟩ | ⟨b,c,d⟩⟩
 ·rw [if_pos a]
  exact ⟨by show t.toNat<9;omega,fun t=>by have:=ho.deep t;show (s.tasks t).length<=_;omega,ho.fns⟩
 ·rw [if_neg (by omega),if_pos b]
  refine ho.put _ (by simp;omega) (fun fr hf=>?_)
  rcases List.mem_cons.1 hf with e | e
  ·rw [e];exact ⟨c,d⟩
  exact ho.fns _ _ e
 ·rw [if_neg (by omega),if_neg (by omega),if_pos b]
  cases e2:s.tasks s.cur with
  | nil=>exact absurd (by rw [e2];rfl) d
  | cons f r =>
   refine ho.put _ (by have:=hd;rw [e2] at this;simp [qG] at this ⊢;omega) (fun fr hf=>?_)
   have hf':fr=⟨f.fn,l,f.frm⟩∨fr∈r:=by simpa [qG] using hf
   rcases hf' with e | e
   ·rw [e];exact ho.fns s.cur f (by rw [e2];exact List.mem_cons_self ..)
   exact ho.fns s.cur fr (by rw [e2];exact List.mem_cons_of_mem _ e)
 ·rw [if_neg (by omega),if_neg (by omega),if_neg (by omega),if_pos b]
  refine ho.put _ (by simp;omega) (fun fr hf=>ho.fns s.cur fr (List.mem_of_mem_tail hf))
 rw [if_neg (by omega),if_neg (by omega),if_neg (by omega),if_neg (by omega)]
 exact ⟨ho.cur9,fun t=>by have:=ho.deep t;omega,ho.fns⟩
theorem zG (t s:Nat):itr t (s % 281474976710656) % 281474976710656=itr t s % 281474976710656:=by
 induction t generalizing s with
 | zero=>simp [itr]
 | succ t ih =>
  simp only [itr]
  rw [<- ih (lcg (s % 281474976710656)),<- ih (lcg s)]
  have e:lcg (s % 281474976710656) % 281474976710656=lcg s % 281474976710656:=by
   unfold lcg
   rw [Nat.add_mod,Nat.mul_mod,Nat.mod_mod,<- Nat.mul_mod,<- Nat.add_mod]
  rw [e]
theorem window (j:Nat) (h1:1<=j) (h2:j<=12):itr j 10 % 281474976710656 / 1099511627776 % 14≠8/\itr j 10 % 281474976710656 / 1099511627776 % 14≠9:=by
 have:∀ j,j<13->1<=j->itr j 10 % 281474976710656 / 1099511627776 % 14≠8/\itr j 10 % 281474976710656 / 1099511627776 % 14≠9:=by decide
 exact this j (by omega) h1
theorem far_draw (t d s z x:Nat) (ht:itr t s % 281474976710656=10) (hz:z % 18446744073709551616=itr d s % 18446744073709551616) (hx:x=z / 1099511627776 % 256) (hd:d<=12) (h8:x % 14=8∨x % 14=9):d<=t:=by
 refine Nat.le_of_not_lt (fun hlt=>?_)
 obtain ⟨j,rfl⟩:∃ j,d=t+j:=⟨d - t,by omega⟩
 have e1:itr (t+j) s % 281474976710656=itr j 10 % 281474976710656:=by
  rw [vJ,<- zG,ht]
 have e2:z % 281474976710656=itr j 10 % 281474976710656:=by
  rw [<- e1];omega
 have hw:=window j (by omega) (by omega)
 rw [<- e2] at hw
 have e3:z % 281474976710656 / 1099511627776=z / 1099511627776 % 256:=by omega
 rw [e3,<- hx] at hw
 omega
theorem xD (s:Nat):∃ t,t<281474976710656/\itr t s % 281474976710656=10:=by
 obtain ⟨t,h1,h2⟩:=itr_any 48 s 10
 exact ⟨t,by simpa using h1,by simpa using h2⟩
theorem seed_less (t d s z:Nat) (ht:itr t s % 281474976710656=10) (hz:z % 18446744073709551616=itr d s % 18446744073709551616) (hd:d<=t):itr (t - d) z % 281474976710656=10:=by
 rw [<- zG,show z % 281474976710656=itr d s % 281474976710656 by omega,zG,<- vJ,show d+(t - d)=t by omega]
 exact ht
section
open Go.RowKit
def fD (ms:List Mo):List Value:=ms.flatMap fun x=>[.int .i64 x.kind,.int .i64 x.task,.int .i64 x.fn,.int .i64 x.line,.string x.text,x.vv]
theorem momCells_app (a b:List Mo):fD (a ++ b)=fD a ++ fD b:=List.flatMap_append ..
theorem yB:∀ (l:List Mo) (i:Nat) (h:i<l.length),(fD l)[i*6]?=some (.int .i64 l[i].kind)/\(fD l)[i*6+1]?=some (.int .i64 l[i].task)/\(fD l)[i*6+2]?=some (.int .i64 l[i].fn) /\
  (fD l)[i*6+3]?=some (.int .i64 l[i].line)/\(fD l)[i*6+4]?=some (.string l[i].text)/\(fD l)[i*6+5]?=some l[i].vv
 | x :: r,0,_=>⟨rfl,rfl,rfl,rfl,rfl,rfl⟩
 | x :: r,i+1,h=>by
  have ih:=yB r i (by simpa using h)
  have e:fD (x :: r)=.int .i64 x.kind :: .int .i64 x.task :: .int .i64 x.fn :: .int .i64 x.line :: .string x.text :: x.vv :: fD r:=rfl
  rw [e,show (i+1)*6=i*6+1+1+1+1+1+1 by omega]
  simpa only [List.getElem?_cons_succ,sx5] using ih
theorem yC:∀ (l:List V) (i:Nat) (h:i<l.length),(gW l)[i*2]?=some (.string l[i].name)/\(gW l)[i*2+1]?=some (.string l[i].text)
 | x :: r,0,_=>⟨rfl,rfl⟩
 | x :: r,i+1,h=>by
  have ih:=yC r i (by simpa using h)
  have e:gW (x :: r)=.string x.name :: .string x.text :: gW r:=rfl
  rw [e,show (i+1)*2=i*2+1+1 by omega]
  simpa only [List.getElem?_cons_succ,sx5] using ih
theorem bE2 {w:World} {B:Nat} {e:TypeId} {z:Nat} {v:Value} {n:Nat} {xs:List Value} (h:w.ownsRow B e z v n xs) (hn:n≠0):∃ g cap,v=.slice (some ⟨g,0,none⟩) n cap/\B<=g:=by
 rcases h.2 with ⟨_,h0⟩ | ⟨g,cap,cur,hv,hB,_⟩
 ·exact absurd h0 hn
 exact ⟨g,cap,hv,hB⟩
theorem yD {α:Type} (l:List α) (i:Nat) (d:α) (h:i<l.length):l.getD i d=l[i]:=by
 rw [List.getD_eq_getElem?_getD,List.getElem?_eq_getElem h];rfl
theorem qW.varsAt {B:Nat} {w:World} {v:Value} {l:List V} (h:qW B w v l) (hl:l.length<=3):fN B w v l.length (fun i=>l.getD i V.nul):=by
 obtain ⟨a,cap,rfl⟩:=bR h.1
 refine ⟨a,cap,rfl,by unfold maxLen;omega,fun i hi=>?_⟩
 obtain ⟨g,cap',e,hB⟩:=bE2 h.1 (by omega)
 cases e
 obtain ⟨e0,e1⟩:=yC l i hi
 obtain ⟨c0,f0⟩:=bL h.1 _ _ e0
 obtain ⟨c1,f1⟩:=bL h.1 _ _ e1
 obtain ⟨z0,z1⟩:=h.2 l[i] (List.getElem_mem hi)
 refine ⟨g,0,rfl,?_,?_,?_,?_,⟨hB,fun _=>?_⟩,⟨hB,fun _=>?_⟩⟩
 ·dsimp only;rw [Nat.zero_add,yD _ _ _ hi];exact c0
 ·dsimp only;rw [Nat.zero_add,yD _ _ _ hi];exact c1
 ·dsimp only;rw [yD _ _ _ hi,z0];unfold maxLen;omega
 ·dsimp only;rw [yD _ _ _ hi,z1];unfold maxLen;omega
 ·rw [Nat.zero_add];exact f0
 rw [Nat.zero_add];exact f1
structure bD6 (B:Nat) (w:World) (v:Value) (ms:List Mo):Prop where
 row:w.ownsRow B 108 6 v ms.length (fD ms)
 vars:∀ x,x∈ms->qW B w x.vv x.l/\x.l.length<=3/\x.text.size<=1
theorem bD6.momsAt {B:Nat} {w:World} {v:Value} {ms:List Mo} (h:bD6 B w v ms) (hl:ms.length<=100):bQ B w v ms.length (fC ms):=by
 obtain ⟨a,cap,rfl⟩:=bR h.row
 refine ⟨a,cap,rfl,by unfold maxLen;omega,fun i hi=>?_⟩
 obtain ⟨g,cap',e,hB⟩:=bE2 h.row (by omega)
 cases e
 obtain ⟨e0,e1,e2,e3,e4,e5⟩:=yB ms i hi
 obtain ⟨c0,f0⟩:=bL h.row _ _ e0
 obtain ⟨c1,f1⟩:=bL h.row _ _ e1
 obtain ⟨c2,f2⟩:=bL h.row _ _ e2
 obtain ⟨c3,f3⟩:=bL h.row _ _ e3
 obtain ⟨c4,f4⟩:=bL h.row _ _ e4
 obtain ⟨c5,f5⟩:=bL h.row _ _ e5
 obtain ⟨hv,hv3,htx⟩:=h.vars ms[i] (List.getElem_mem hi)
 have em:fC ms i=ms[i].m:=by unfold fC;rw [yD _ _ _ hi]
 rw [em]
 refine ⟨g,0,ms[i].vv,rfl,?_,?_,?_,?_,?_,?_,?_,hv.varsAt hv3,fun j hj=>⟨hB,fun _=>?_⟩⟩
 ·rw [Nat.zero_add];exact c0
 ·rw [Nat.zero_add];exact c1
 ·rw [Nat.zero_add];exact c2
 ·rw [Nat.zero_add];exact c3
 ·rw [Nat.zero_add];exact c4
 ·rw [Nat.zero_add];exact c5
 ·show ms[i].text.size<=maxLen
  unfold maxLen;omega
 rw [Nat.zero_add]
 rcases (show j=0∨j=1∨j=2∨j=3∨j=4∨j=5 by omega) with rfl | rfl | rfl | rfl | rfl | rfl
 ·exact f0
 ·exact f1
 ·exact f2
 ·exact f3
 ·exact f4
 exact f5
theorem xE {w w':World} {B ps:Nat} {e:TypeId} {z:Nat} {v:Value} {n:Nat} {xs:List Value} (h:w.ownsRow B e z v n xs) (hk:gD ps w w') (hp:ps<B) (h1:e≠42) (h2:e≠35):w'.ownsRow B e z v n xs:=by
 refine ⟨h.1,?_⟩
 rcases h.2 with hn | ⟨g,cap,cur,hv,hB,hg,rest⟩
 ·exact .inl hn
 exact .inr ⟨g,cap,cur,hv,hB,by rw [hk g cur e _ hg (by omega) h1 h2];exact hg,rest⟩
theorem qW.keeps {B ps:Nat} {w w':World} {v:Value} {l:List V} (h:qW B w v l) (hk:gD ps w w') (hp:ps<B):qW B w' v l:=⟨xE h.1 hk hp (by decide) (by decide),h.2⟩
theorem bD6.keeps {B ps:Nat} {w w':World} {v:Value} {ms:List Mo} (h:bD6 B w v ms) (hk:gD ps w w') (hp:ps<B):bD6 B w' v ms :=
 ⟨xE h.row hk hp (by decide) (by decide),fun x hx=>⟨(h.vars x hx).1.keeps hk hp,(h.vars x hx).2⟩⟩
theorem qW.betw {lo hi B:Nat} {w w':World} {v:Value} {l:List V} (h:qW B w v l) (hb:dY lo hi w w') (hB:hi<=B):qW B w' v l:=⟨mN h.1 hb hB,h.2⟩
theorem bD6.betw {lo hi B:Nat} {w w':World} {v:Value} {ms:List Mo} (h:bD6 B w v ms) (hb:dY lo hi w w') (hB:hi<=B):bD6 B w' v ms :=
 ⟨mN h.row hb hB,fun x hx=>⟨(h.vars x hx).1.betw hb hB,(h.vars x hx).2⟩⟩
end
section
open Go.RowKit
theorem dV.blocks {B:Nat} {w w':World} {ps bt:Nat} {V:Nat->Value} {s:St} (h:dV B w ps bt V s) (hb:∀ b,B<=b->b<w.heap.size->w'.heap[b]?=w.heap[b]?):dV B w' ps bt V s:=by
 have hps:w'.heap[ps]?=w.heap[ps]?:=hb ps h.hp (bV h.c0)
 have hbt:w'.heap[bt]?=w.heap[bt]?:=hb bt h.hbt h.row.lt
 refine ⟨h.hp,h.hbt,h.ne,?_,?_,?_,h.row.of_block hbt,fun t ht=>?_,h.nps,h.nbt,h.dis,h.cur,h.len⟩
 ·rw [World.cell?_of_block hps];exact h.c0
 ·rw [World.cell?_of_block hps];exact h.c1
 ·rw [World.frozen?_of_block hps];exact h.fz
 obtain ⟨h1,h2⟩:=h.own t ht
 refine ⟨h1,?_⟩
 rcases h2 with h2 | ⟨g,cap,cur,hv,hg,hh,r⟩
 ·exact .inl h2
 exact .inr ⟨g,cap,cur,hv,hg,by rw [hb g hg (Array.getElem?_eq_some_iff.1 hh).1];exact hh,r⟩
theorem cG.blocks {B:Nat} {w w':World} {ps:Nat} {s:St} (h:cG B w ps s) (hb:∀ b,B<=b->b<w.heap.size->w'.heap[b]?=w.heap[b]?):cG B w' ps s:=by
 obtain ⟨bt,V,h⟩:=h
 exact ⟨bt,V,h.blocks hb⟩
def gA (i:Nat):ByteArray:=([⟨#[109,97,105,110]⟩,⟨#[102]⟩,⟨#[]⟩,⟨#[103]⟩]:List ByteArray).getD i ByteArray.empty
def qJ:Array Value:=#[.string ⟨#[109,97,105,110]⟩,.string ⟨#[102]⟩,.string ⟨#[]⟩,.string ⟨#[103]⟩]
theorem fT {w:World} {b:Nat} {o:Obj} (h:w.heap[b]?=some o):b<w.heap.size:=(Array.getElem?_eq_some_iff.1 h).1
theorem kS {w w':World} {B:Nat} {e e0:TypeId} {z:Nat} {v:Value} {n:Nat} {xs:List Value} {row:Option Nat} (h:w.ownsRow B e z v n xs) (hg:w.grownBy w' row) (hr:∀ g,row=some g->∃ cs fr,w.heap[g]?=some (.cells cs e0 fr)) (hne:e≠e0):w'.ownsRow B e z v n xs:=by
 refine ⟨h.1,?_⟩
 rcases h.2 with hn | ⟨g,cap,cur,hv,hB,hh,rest⟩
 ·exact .inl hn
 refine .inr ⟨g,cap,cur,hv,hB,?_,rest⟩
 rw [hg.block g (fT hh) (fun er=>?_)]
 ·exact hh
 obtain ⟨cs,fr,e1⟩:=hr g er.symm
 rw [hh] at e1
 cases e1
 exact hne rfl
theorem vK {w:World} {B:Nat} {e:TypeId} {z:Nat} {v:Value} {n:Nat} {xs:List Value} (h:w.ownsRow B e z v n xs):∀ g,v.ownBlock=some g->B<=g/\∃ cs fr,w.heap[g]?=some (.cells cs e fr):=by
 intro g hg
 rcases h.2 with ⟨e1,_⟩ | ⟨g',cap,cur,e1,hB,hh,_⟩
 ·rw [e1] at hg;cases hg
 rw [e1] at hg;cases hg;exact ⟨hB,cur,_,hh⟩
theorem cG.apart {B B2:Nat} {w w':World} {ps:Nat} {s:St} {e0:TypeId} {row:Option Nat} (h:cG B w ps s) (hp:ps<B2) (hg:w.grownBy w' row) (hr:∀ g,row=some g->B2<=g/\∃ cs fr,w.heap[g]?=some (.cells cs e0 fr)) (h1:e0≠42) (h2:e0≠35):cG B w' ps s:=by
 obtain ⟨bt,V,h⟩:=h
 have hps:w'.heap[ps]?=w.heap[ps]?:=hg.block ps (bV h.c0) (fun e=>by have:=(hr ps e.symm).1;omega)
 obtain ⟨cb,hcb,hsz,hfn⟩:=h.row
 have hbt:w'.heap[bt]?=w.heap[bt]?:=hg.block bt (fT hcb) (fun e=>by
  obtain ⟨cs,fr,e1⟩:=(hr bt e.symm).2
  rw [hcb] at e1;cases e1;exact h2 rfl)
 refine ⟨bt,V,h.hp,h.hbt,h.ne,?_,?_,?_,h.row.of_block hbt,fun t ht=>kS (h.own t ht) hg (fun g e=>(hr g e).2) (Ne.symm h1),h.nps,h.nbt,h.dis,h.cur,h.len⟩
 ·rw [World.cell?_of_block hps];exact h.c0
 ·rw [World.cell?_of_block hps];exact h.c1
 rw [World.frozen?_of_block hps];exact h.fz
theorem setCells_two (a b u:Value) (t:TypeId) (w:World) (g:Nat) (h:w.heap[g]?=some (.cells #[a,b] t (0,0))):(w.setCell ⟨g,1,none⟩ u).heap[g]?=some (.cells #[a,u] t (0,0)):=by
 simp [World.setCell,Array.getElem?_modify,h]
end
section
open Go.RowKit
theorem bB0 {n:Nat} (hn:n<90):kN 4 gA n:=by
 refine ⟨by decide,by decide,by omega,fun i hi=>?_⟩
 rcases (show i=0∨i=1∨i=2∨i=3 by omega) with rfl | rfl | rfl | rfl
 all_goals decide
end
section
open Go.RowKit
theorem cG.but {B mb:Nat} {w w':World} {ps:Nat} {s:St} {cs:Array Value} {e0:TypeId} {fr:Nat × Nat} (h:cG B w ps s) (hb:∀ b,b≠mb->w'.heap[b]?=w.heap[b]?) (hp:ps≠mb) (hm:w.heap[mb]?=some (.cells cs e0 fr)) (h1:e0≠42) (h2:e0≠35):cG B w' ps s:=by
 obtain ⟨bt,V,h⟩:=h
 have hps:w'.heap[ps]?=w.heap[ps]?:=hb ps hp
 obtain ⟨cb,hcb,hsz,hfn⟩:=h.row
 have hbt:w'.heap[bt]?=w.heap[bt]?:=hb bt (fun e=>by
  rw [e,hm] at hcb;cases hcb;exact h2 rfl)
 refine ⟨bt,V,h.hp,h.hbt,h.ne,?_,?_,?_,h.row.of_block hbt,fun t ht=>?_,h.nps,h.nbt,h.dis,h.cur,h.len⟩
 ·rw [World.cell?_of_block hps];exact h.c0
 ·rw [World.cell?_of_block hps];exact h.c1
 ·rw [World.frozen?_of_block hps];exact h.fz
 obtain ⟨g1,g2⟩:=h.own t ht
 refine ⟨g1,?_⟩
 rcases g2 with g2 | ⟨g,cap,cur,hv,hg,hh,r⟩
 ·exact .inl g2
 exact .inr ⟨g,cap,cur,hv,hg,by rw [hb g (fun e=>by rw [e,hm] at hh;cases hh;exact h1 rfl)];exact hh,r⟩
theorem fQ {w:World} {B mb i:Nat} {e e0:TypeId} {z:Nat} {v u:Value} {n:Nat} {xs:List Value} {cs:Array Value} {fr:Nat × Nat} (h:w.ownsRow B e z v n xs) (hm:w.heap[mb]?=some (.cells cs e0 fr)) (hne:e≠e0):(w.setCell ⟨mb,i,none⟩ u).ownsRow B e z v n xs:=by
 refine cM h (fun e1=>?_)
 obtain ⟨_,cs',fr',h1⟩:=vK h mb e1
 rw [hm] at h1;cases h1;exact hne rfl
structure Bx (B2 mb:Nat) (W:World) (mv vv:Value) (l:List V) (k t fn ln:Int) (tx:ByteArray):Prop where
 hB:B2<=mb
 box:W.heap[mb]?=some (.cells #[.int .i64 k,.int .i64 t,.int .i64 fn,.int .i64 ln,.string tx,vv] 108 (0,0))
 far:mv.ownBlock≠some mb
 vars:qW B2 W vv l
 l3:l.length<=3
 tx1:tx.size<=1
theorem Bx.draw {B2 mb pc:Nat} {W W':World} {mv vv:Value} {l:List V} {k t fn ln:Int} {tx:ByteArray} (h:Bx B2 mb W mv vv l k t fn ln tx) (hb:dY pc (pc+1) W W') (hp:pc<B2):Bx B2 mb W' mv vv l k t fn ln tx :=
 ⟨h.hB,by have:=h.hB;rw [hb.block mb (fT h.box) (.inr (by omega))];exact h.box,h.far,h.vars.betw hb hp,h.l3,h.tx1⟩
theorem Bx.below {B2 mb:Nat} {W W':World} {mv vv:Value} {l:List V} {k t fn ln:Int} {tx:ByteArray} (h:Bx B2 mb W mv vv l k t fn ln tx) (hb:Below W.heap.size W W'):Bx B2 mb W' mv vv l k t fn ln tx :=
 ⟨h.hB,by rw [hb.block mb (fT h.box)];exact h.box,h.far,⟨bN h.vars.1 hb,h.vars.2⟩,h.l3,h.tx1⟩
theorem Bx.kind {B2 mb:Nat} {W:World} {mv vv:Value} {l:List V} {k t fn ln:Int} {tx:ByteArray} (h:Bx B2 mb W mv vv l k t fn ln tx) (x:Int):Bx B2 mb (W.setCell ⟨mb,0,none⟩ (.int .i64 x)) mv vv l x t fn ln tx :=
 ⟨h.hB,by simp [World.setCell,Array.getElem?_modify,h.box],h.far,⟨fQ h.vars.1 h.box (by decide),h.vars.2⟩,h.l3,h.tx1⟩
theorem Bx.task {B2 mb:Nat} {W:World} {mv vv:Value} {l:List V} {k t fn ln:Int} {tx:ByteArray} (h:Bx B2 mb W mv vv l k t fn ln tx) (x:Int):Bx B2 mb (W.setCell ⟨mb,1,none⟩ (.int .i64 x)) mv vv l k x fn ln tx :=
 ⟨h.hB,by simp [World.setCell,Array.getElem?_modify,h.box],h.far,⟨fQ h.vars.1 h.box (by decide),h.vars.2⟩,h.l3,h.tx1⟩
theorem Bx.fn {B2 mb:Nat} {W:World} {mv vv:Value} {l:List V} {k t fn ln:Int} {tx:ByteArray} (h:Bx B2 mb W mv vv l k t fn ln tx) (x:Int):Bx B2 mb (W.setCell ⟨mb,2,none⟩ (.int .i64 x)) mv vv l k t x ln tx :=
 ⟨h.hB,by simp [World.setCell,Array.getElem?_modify,h.box],h.far,⟨fQ h.vars.1 h.box (by decide),h.vars.2⟩,h.l3,h.tx1⟩
theorem Bx.line {B2 mb:Nat} {W:World} {mv vv:Value} {l:List V} {k t fn ln:Int} {tx:ByteArray} (h:Bx B2 mb W mv vv l k t fn ln tx) (x:Int):Bx B2 mb (W.setCell ⟨mb,3,none⟩ (.int .i64 x)) mv vv l k t fn x tx :=
 ⟨h.hB,by simp [World.setCell,Array.getElem?_modify,h.box],h.far,⟨fQ h.vars.1 h.box (by decide),h.vars.2⟩,h.l3,h.tx1⟩
theorem Bx.text {B2 mb:Nat} {W:World} {mv vv:Value} {l:List V} {k t fn ln:Int} {tx:ByteArray} (h:Bx B2 mb W mv vv l k t fn ln tx) (x:ByteArray) (hx:x.size<=1):Bx B2 mb (W.setCell ⟨mb,4,none⟩ (.string x)) mv vv l k t fn ln x :=
 ⟨h.hB,by simp [World.setCell,Array.getElem?_modify,h.box],h.far,⟨fQ h.vars.1 h.box (by decide),h.vars.2⟩,h.l3,hx⟩
theorem Bx.waits {B2 mb:Nat} {W W':World} {mv vv wv:Value} {l:List V} {k t fn ln:Int} {tx:ByteArray} {n:Nat} {xs:List Value} (h:Bx B2 mb W mv vv l k t fn ln tx) (hw:W.ownsRow B2 3 1 wv n xs) (hg:W.grownBy W' wv.ownBlock):Bx B2 mb W' mv vv l k t fn ln tx:=by
 have hr:=vK hw
 refine ⟨h.hB,?_,h.far,⟨kS h.vars.1 hg (fun g e=>(hr g e).2) (by decide),h.vars.2⟩,h.l3,h.tx1⟩
 rw [hg.block mb (fT h.box) (fun er=>?_)]
 ·exact h.box
 obtain ⟨_,cs,fr,e1⟩:=hr mb er.symm
 rw [h.box] at e1;cases e1
theorem bP5 (t s:Nat):itr t (s % 18446744073709551616) % 18446744073709551616=itr t s % 18446744073709551616:=by
 induction t generalizing s with
 | zero=>simp [itr]
 | succ t ih =>
  simp only [itr]
  rw [<- ih (lcg (s % 18446744073709551616)),<- ih (lcg s)]
  have e:lcg (s % 18446744073709551616) % 18446744073709551616=lcg s % 18446744073709551616:=by
   unfold lcg
   rw [Nat.add_mod,Nat.mul_mod,Nat.mod_mod,<- Nat.mul_mod,<- Nat.add_mod]
  rw [e]
theorem qW.low {B B':Nat} {w:World} {v:Value} {l:List V} (h:qW B w v l) (hB:B'<=B):qW B' w v l:=by
 refine ⟨⟨h.1.1,?_⟩,h.2⟩
 rcases h.1.2 with hn | ⟨g,cap,cur,hv,hb,rest⟩
 ·exact .inl hn
 exact .inr ⟨g,cap,cur,hv,by omega,rest⟩
theorem qW.below {B:Nat} {w w':World} {v:Value} {l:List V} (h:qW B w v l) (hb:Below w.heap.size w w'):qW B w' v l:=⟨bN h.1 hb,h.2⟩
structure xF (S0 mb:Nat) (W:World):Prop where
 hS:S0<=mb
 box:W.heap[mb]?=some (.cells #[.int .i64 0,.int .i64 0,.int .i64 0,.int .i64 0,.string ByteArray.empty,.slice none 0 0] 108 (0,0))
theorem xF.new {S0:Nat} {W:World} (h:S0<=W.heap.size):xF S0 W.heap.size (W.alloc (.cells #[.int .i64 0,.int .i64 0,.int .i64 0,.int .i64 0,.string ByteArray.empty,.slice none 0 0] 108)) :=
 ⟨h,heap_alloc_new W _⟩
theorem xF.below {S0 mb:Nat} {W W':World} (h:xF S0 mb W) (hb:Below W.heap.size W W'):xF S0 mb W' :=
 ⟨h.hS,by rw [hb.block mb (fT h.box)];exact h.box⟩
theorem xF.draw {S0 mb pc:Nat} {W W':World} (h:xF S0 mb W) (hb:dY pc (pc+1) W W') (hp:pc<S0):xF S0 mb W' :=
 ⟨h.hS,by have:=h.hS;rw [hb.block mb (fT h.box) (.inr (by omega))];exact h.box⟩
theorem xF.cells {S0 mb:Nat} {W:World} (h:xF S0 mb W):W.cell? ⟨mb,0,none⟩=some (.int .i64 0)/\W.cell? ⟨mb,1,none⟩=some (.int .i64 0)/\W.cell? ⟨mb,2,none⟩=some (.int .i64 0)/\W.cell? ⟨mb,3,none⟩=some (.int .i64 0)/\W.cell? ⟨mb,4,none⟩=some (.string ByteArray.empty)/\W.cell? ⟨mb,5,none⟩=some (.slice none 0 0):=by
 refine ⟨?_,?_,?_,?_,?_,?_⟩
 all_goals (rw [cell_of_row W mb _ _ _ _ h.box];rfl)
theorem xF.fz {S0 mb:Nat} {W:World} (h:xF S0 mb W):W.frozen? ⟨mb,0,none⟩=false/\W.frozen? ⟨mb,1,none⟩=false/\W.frozen? ⟨mb,2,none⟩=false/\W.frozen? ⟨mb,3,none⟩=false/\W.frozen? ⟨mb,4,none⟩=false/\W.frozen? ⟨mb,5,none⟩=false:=by
 refine ⟨?_,?_,?_,?_,?_,?_⟩
 all_goals simp [World.frozen?,h.box]
def bD7 (s:St) (k t fn l:Int) (q:Prop):Prop :=
 0<=l/\l<=4/\((k=7/\0<=t/\t<9/\fn=0)∨(t=s.cur/\((k=2/\0<=fn/\fn<4)∨(k=1/\fn=topFn (s.tasks s.cur)/\1<=l)∨(k=3/\fn=topFn (s.tasks s.cur)/\q)∨(4<=k/\k<=6/\fn=topFn (s.tasks s.cur)))))
theorem Bx.cells {B2 mb:Nat} {W:World} {mv vv:Value} {l:List V} {k t fn ln:Int} {tx:ByteArray} (h:Bx B2 mb W mv vv l k t fn ln tx):W.cell? ⟨mb,0,none⟩=some (.int .i64 k)/\W.cell? ⟨mb,1,none⟩=some (.int .i64 t)/\W.cell? ⟨mb,2,none⟩=some (.int .i64 fn)/\W.cell? ⟨mb,3,none⟩=some (.int .i64 ln)/\W.cell? ⟨mb,4,none⟩=some (.string tx)/\W.cell? ⟨mb,5,none⟩=some vv:=by
 refine ⟨?_,?_,?_,?_,?_,?_⟩
 all_goals (rw [cell_of_row W mb _ _ _ _ h.box];rfl)
theorem Bx.fz {B2 mb:Nat} {W:World} {mv vv:Value} {l:List V} {k t fn ln:Int} {tx:ByteArray} (h:Bx B2 mb W mv vv l k t fn ln tx):W.frozen? ⟨mb,0,none⟩=false/\W.frozen? ⟨mb,1,none⟩=false/\W.frozen? ⟨mb,2,none⟩=false/\W.frozen? ⟨mb,3,none⟩=false/\W.frozen? ⟨mb,4,none⟩=false:=by
 refine ⟨?_,?_,?_,?_,?_⟩
 all_goals simp [World.frozen?,h.box]
theorem info_int:(Tryz.prog.info? 3).map (fun i=>(i.zero,i.size,i.bytes))=some (some (.int .i64 0),1,8):=by kernel_rfl
theorem owns_cap {w:World} {B:Nat} {e:TypeId} {z g n cap:Nat} {xs:List Value} (h:w.ownsRow B e z (.slice (some ⟨g,0,none⟩) n cap) n xs):n<=cap:=by
 rcases h.2 with ⟨h,_⟩ | ⟨g',cap',cur,hv,-,-,h1,-⟩
 ·cases h
 cases hv;exact h1
theorem bG2 {α:Type} (l:List α):l=[]∨∃ r x,l=r ++ [x]:=by
 by_cases h:l=[]
 ·exact .inl h
 exact .inr ⟨l.dropLast,l.getLast h,(List.dropLast_concat_getLast h).symm⟩
theorem Bx.keeps {B2 mb ps:Nat} {W W':World} {mv vv:Value} {l:List V} {k t fn ln:Int} {tx:ByteArray} (h:Bx B2 mb W mv vv l k t fn ln tx) (hk:gD ps W W') (hp:ps<B2):Bx B2 mb W' mv vv l k t fn ln tx :=
 ⟨h.hB,by have:=h.hB;rw [hk mb _ _ _ h.box (by omega) (by decide) (by decide)];exact h.box,h.far,h.vars.keeps hk hp,h.l3,h.tx1⟩
theorem bD7.good {s:St} {k t fn l:Int} {q:Prop} (h:bD7 s k t fn l q) (h1:k=1->(s.tasks s.cur).length≠0) (h3:k=3->0<=gU (s.tasks s.cur)):Good s k t fn l:=by
 obtain ⟨l1,l2,hk⟩:=h
 refine ⟨l1,l2,?_⟩
 rcases hk with a | ⟨a,b | ⟨b,c,d⟩ | ⟨b,c,d⟩ | b⟩
 ·exact .inl a
 ·exact .inr ⟨a,.inl b⟩
 ·exact .inr ⟨a,.inr (.inl ⟨b,c,h1 b,d⟩)⟩
 ·exact .inr ⟨a,.inr (.inr (.inl ⟨b,c,h3 b⟩))⟩
 exact .inr ⟨a,.inr (.inr (.inr b))⟩
theorem bD7.leave {s:St} {t fn l:Int} {q:Prop} (h:bD7 s 3 t fn l q):q:=by
 obtain ⟨_,_,hk⟩:=h
 rcases hk with ⟨a,_⟩ | ⟨a,⟨b,_⟩ | ⟨b,_⟩ | ⟨_,_,d⟩ | ⟨b,_⟩⟩
 ·omega
 ·omega
 ·omega
 ·exact d
 omega
theorem bD7.call {s:St} {t fn l:Int} {q:Prop} (h:bD7 s 1 t fn l q):bD7 s 2 t 1 l q:=by
 obtain ⟨l1,l2,hk⟩:=h
 rcases hk with ⟨a,_⟩ | ⟨a,_⟩
 ·omega
 exact ⟨l1,l2,.inr ⟨a,.inl ⟨rfl,by omega,by omega⟩⟩⟩
theorem bD7.task {s:St} {k t fn l:Int} {q:Prop} (h:bD7 s k t fn l q) (h9:s.cur<9):0<=t/\t<9:=by
 obtain ⟨l1,l2,hk⟩:=h
 rcases hk with ⟨_,a,b,_⟩ | ⟨a,_⟩
 ·exact ⟨a,b⟩
 omega
end
end Go.Proofs.YtmnmeaeicjhkhaaGreatDoor
