import Derived.Test.YtmnmeaeicjhkhaaGreatDoorGCax
import Derived.Deep.DeepCutAuto
import Derived.DeepKeys4
import Derived.WideKeyEntry
import Derived.Sort.MapsRangeIn
import Derived.Shelf.Abstract
import Derived.TacticsInMore
import Derived.LoopNIn
import Derived.LoopIn
import Derived.RangeFuncNested
set_option maxRecDepth 100000
set_option maxHeartbeats 16000000
namespace Go.Proofs.YtmnmeaeicjhkhaaGreatDoor
section
open Go.RowKit
structure Lc where
 fn:Int
 line:Int
 cnt:Int
def lcN (f:Nat->M):Nat->Int->Int->Int
 | 0,_,_=>0
 | k+1,a,b=>lcN f k a b+if (f k).kind=1/\(f k).fn=a/\(f k).line=b then 1 else 0
def lnN (f:Nat->M):Nat->Int
 | 0=>0
 | k+1=>lnN f k+if (f k).kind=1 then 1 else 0
theorem gX (f:Nat->M) (k:Nat) (a b:Int):lcN f (k+1) a b=lcN f k a b+if (f k).kind=1/\(f k).fn=a/\(f k).line=b then 1 else 0:=rfl
theorem bJ3 (f:Nat->M) (k:Nat):lnN f (k+1)=lnN f k+if (f k).kind=1 then 1 else 0:=rfl
theorem rD (f:Nat->M) (a b:Int):∀ k,0<=lcN f k a b/\lcN f k a b<=k
 | 0=>⟨Int.le_refl _,Int.le_refl _⟩
 | k+1=>by
  have h:=rD f a b k
  rw [gX]
  split<;>omega
def jX (x y:Lc):Prop:=x.fn<y.fn∨(x.fn=y.fn/\x.line<y.line)
theorem lcLt_not {x y:Lc} (h:jX x y):¬ jX y x:=by unfold jX at *;omega
theorem bJ4 {x y z:Lc} (h:jX x y) (h2:jX y z):jX x z:=by unfold jX at *;omega
structure kT (f:Nat->M) (k:Nat) (l:List Lc):Prop where
 sorted:l.Pairwise jX
 cnt:∀ r,r∈l->r.cnt=lcN f k r.fn r.line/\1<=r.cnt
 all:∀ a b,1<=lcN f k a b->∃ r,r∈l/\r.fn=a/\r.line=b
theorem bJ5 {α:Type} {R:α->α->Prop} (asy:∀ x y,R x y->¬ R y x):∀ l1 l2:List α,l1.Pairwise R->l2.Pairwise R->(∀ x,x∈l1↔x∈l2)->l1=l2
 | [],[],_,_,_=>rfl
 | [],b :: r,_,_,h=>by have:=(h b).2 (List.mem_cons_self ..);cases this
 | a :: r,[],_,_,h=>by have:=(h a).1 (List.mem_cons_self ..);cases this
 | a :: r,b :: q,h1,h2,h=>by
  obtain ⟨a1,r1⟩:=List.pairwise_cons.1 h1
  obtain ⟨b1,q1⟩:=List.pairwise_cons.1 h2
  have e:a=b:=by
   rcases List.mem_cons.1 ((h a).1 (List.mem_cons_self ..)) with e | e
   ·exact e
   rcases List.mem_cons.1 ((h b).2 (List.mem_cons_self ..)) with e2 | e2
   ·exact e2.symm
   exact absurd (a1 b e2) (asy _ _ (b1 a e))
  subst e
  have ir:∀ x,¬ R x x:=fun x hx=>asy x x hx hx
  rw [bJ5 asy r q r1 q1 (fun x=>⟨fun hx=>?_,fun hx=>?_⟩)]
  ·rcases List.mem_cons.1 ((h x).1 (List.mem_cons_of_mem _ hx)) with e | e
   ·subst e;exact absurd (a1 x hx) (ir x)
   exact e
  rcases List.mem_cons.1 ((h x).2 (List.mem_cons_of_mem _ hx)) with e | e
  ·subst e;exact absurd (b1 x hx) (ir x)
  exact e
theorem kT.unique {f:Nat->M} {k:Nat} {l1 l2:List Lc} (h1:kT f k l1) (h2:kT f k l2):l1=l2:=by
 have side:∀ {p q:List Lc},kT f k p->kT f k q->∀ x,x∈p->x∈q:=by
  intro p q hp hq x hx
  obtain ⟨e,hc⟩:=hp.cnt x hx
  obtain ⟨r,hr,ea,eb⟩:=hq.all x.fn x.line (by omega)
  have er:=(hq.cnt r hr).1
  have:r=x:=by
   cases r;cases x
   simp only at e er ea eb ⊢
   subst ea eb
   rw [er,e]
  rw [<- this];exact hr
 exact bJ5 (fun x y h=>lcLt_not h) l1 l2 h1.sorted h2.sorted (fun x=>⟨side h1 h2 x,side h2 h1 x⟩)
def fS (a b:Int) (r:Lc):Lc:=if r.fn=a/\r.line=b then ⟨r.fn,r.line,r.cnt+1⟩ else r
theorem rE (a b:Int) (r:Lc):(fS a b r).fn=r.fn:=by unfold fS;split<;>rfl
theorem pJ (a b:Int) (r:Lc):(fS a b r).line=r.line:=by unfold fS;split<;>rfl
def mJ (a b:Int) (r:Lc):Bool:=decide (r.fn=a/\r.line=b)
theorem kT.zero (f:Nat->M):kT f 0 []:=⟨.nil,fun r hr=>(by cases hr),fun a b h=>(by have:(1:Int)<=0:=h;omega)⟩
theorem kT.skip {f:Nat->M} {k:Nat} {l:List Lc} (h:kT f k l) (hk:(f k).kind≠1):kT f (k+1) l:=by
 have e:∀ a b,lcN f (k+1) a b=lcN f k a b:=fun a b=>by rw [gX,if_neg (fun h=>hk h.1)];omega
 exact ⟨h.sorted,fun r hr=>by rw [e];exact h.cnt r hr,fun a b hab=>h.all a b (by rw [<- e];exact hab)⟩
theorem kT.bump {f:Nat->M} {k:Nat} {l:List Lc} (h:kT f k l) (hk:(f k).kind=1) (hm:l.any (mJ (f k).fn (f k).line)=true):kT f (k+1) (l.map (fS (f k).fn (f k).line)):=by
 refine ⟨?_,fun r hr=>?_,fun a b hab=>?_⟩
 ·refine List.pairwise_map.2 (h.sorted.imp ?_)
  intro x y hxy
  unfold jX
  rw [rE,rE,pJ,pJ]
  exact hxy
 ·obtain ⟨r0,h0,rfl⟩:=List.mem_map.1 hr
  obtain ⟨e,hc⟩:=h.cnt r0 h0
  rw [rE,pJ,gX]
  unfold fS
  by_cases e2:r0.fn=(f k).fn/\r0.line=(f k).line
  ·rw [if_pos e2,if_pos ⟨hk,e2.1.symm,e2.2.symm⟩]
   show r0.cnt+1=_/\1<=r0.cnt+1
   omega
  rw [if_neg e2,if_neg (fun h=>e2 ⟨h.2.1.symm,h.2.2.symm⟩)]
  omega
 by_cases e2:(f k).fn=a/\(f k).line=b
 ·obtain ⟨r,hr,hrk⟩:=List.any_eq_true.1 hm
  have:=of_decide_eq_true hrk
  exact ⟨_,List.mem_map_of_mem hr,by rw [rE];omega,by rw [pJ];omega⟩
 rw [gX,if_neg (fun h=>e2 h.2)] at hab
 obtain ⟨r,hr,ea,eb⟩:=h.all a b (by omega)
 exact ⟨_,List.mem_map_of_mem hr,by rw [rE];exact ea,by rw [pJ];exact eb⟩
theorem kT.ins {f:Nat->M} {k:Nat} {l:List Lc} (h:kT f k l) (hk:(f k).kind=1) (hm:l.any (mJ (f k).fn (f k).line)=false) (p:Nat)
  (hp:∀ r,r∈l.take p->jX r ⟨(f k).fn,(f k).line,1⟩) (hq:∀ r,r∈l.drop p->jX ⟨(f k).fn,(f k).line,1⟩ r):kT f (k+1) (l.take p ++ ⟨(f k).fn,(f k).line,1⟩ :: l.drop p):=by
 have hsp:=h.sorted
 rw [<- List.take_append_drop p l] at hsp
 obtain ⟨s1,s2,s3⟩:=List.pairwise_append.1 hsp
 have hno:∀ r,r∈l->¬ (r.fn=(f k).fn/\r.line=(f k).line):=fun r hr e=>by
  have:=List.any_eq_false.1 hm r hr
  exact this (decide_eq_true e)
 have hmem:∀ r,r∈l.take p ++ ⟨(f k).fn,(f k).line,1⟩ :: l.drop p↔r=⟨(f k).fn,(f k).line,1⟩∨r∈l:=fun r=>by
  rw [List.mem_append,List.mem_cons]
  constructor
  ·rintro (e | e | e)
   ·exact .inr (List.mem_of_mem_take e)
   ·exact .inl e
   exact .inr (List.mem_of_mem_drop e)
  rintro (e | e)
  ·exact .inr (.inl e)
  rw [<- List.take_append_drop p l] at e
  rcases List.mem_append.1 e with e | e
  ·exact .inl e
  exact .inr (.inr e)
 have h0:lcN f k (f k).fn (f k).line=0:=by
  have hb:=rD f (f k).fn (f k).line k
  by_cases e:1<=lcN f k (f k).fn (f k).line
  ·obtain ⟨r,hr,e⟩:=h.all _ _ e
   exact absurd e (hno r hr)
  omega
 refine ⟨?_,fun r hr=>?_,fun a b hab=>?_⟩
 ·refine List.pairwise_append.2 ⟨s1,List.pairwise_cons.2 ⟨hq,s2⟩,fun x hx y hy=>?_⟩
  rcases List.mem_cons.1 hy with e | e
  ·subst e;exact hp x hx
  exact s3 x hx y e
 ·rcases (hmem r).1 hr with e | e
  ·subst e
   rw [gX,if_pos ⟨hk,rfl,rfl⟩,h0]
   exact ⟨rfl,Int.le_refl _⟩
  rw [gX,if_neg (fun h=>hno r e ⟨h.2.1.symm,h.2.2.symm⟩)]
  have:=h.cnt r e
  omega
 by_cases e2:(f k).fn=a/\(f k).line=b
 ·exact ⟨_,(hmem _).2 (.inl rfl),e2.1,e2.2⟩
 rw [gX,if_neg (fun h=>e2 h.2)] at hab
 obtain ⟨r,hr,e⟩:=h.all a b (by omega)
 exact ⟨r,(hmem r).2 (.inr hr),e⟩
theorem lc_split (x:Lc):∀ l:List Lc,l.Pairwise jX->(∀ r,r∈l->¬ (r.fn=x.fn/\r.line=x.line))->∃ p,p<=l.length/\(∀ r,r∈l.take p->jX r x)/\(∀ r,r∈l.drop p->jX x r)
 | [],_,_=>⟨0,Nat.le_refl _,fun r hr=>(by cases hr),fun r hr=>(by cases hr)⟩
 | a :: t,hs,hn=>by
  obtain ⟨a1,t1⟩:=List.pairwise_cons.1 hs
  by_cases e:jX a x
  ·obtain ⟨p,h1,h2,h3⟩:=lc_split x t t1 (fun r hr=>hn r (List.mem_cons_of_mem _ hr))
   refine ⟨p+1,by simpa using h1,fun r hr=>?_,h3⟩
   rw [List.take_succ_cons] at hr
   rcases List.mem_cons.1 hr with e2 | e2
   ·rw [e2];exact e
   exact h2 r e2
  have hx:jX x a:=by
   have:=hn a (List.mem_cons_self ..)
   unfold jX at *
   omega
  refine ⟨0,Nat.zero_le _,fun r hr=>(by cases hr),fun r hr=>?_⟩
  rcases List.mem_cons.1 hr with e2 | e2
  ·rw [e2];exact hx
  exact bJ4 hx (a1 r e2)
def qM (l:List Lc):Int:=(l.map Lc.cnt).sum
theorem qE (r:Lc) (l:List Lc):qM (r :: l)=r.cnt+qM l:=by unfold qM;rw [List.map_cons,List.sum_cons]
theorem zV:∀ a b:List Lc,qM (a ++ b)=qM a+qM b
 | [],b=>by show qM b=0+qM b;omega
 | r :: a,b=>by rw [List.cons_append,qE,qE,zV a b];omega
theorem bJ6 (a b:Int):∀ l:List Lc,l.Pairwise jX->qM (l.map (fS a b))=qM l+if l.any (mJ a b) then 1 else 0
 | [],_=>rfl
 | r :: t,hs=>by
  obtain ⟨r1,t1⟩:=List.pairwise_cons.1 hs
  have ih:=bJ6 a b t t1
  rw [List.map_cons,qE,qE,ih,List.any_cons]
  by_cases e:r.fn=a/\r.line=b
  ·have hr:mJ a b r=true:=decide_eq_true e
   have hn:t.any (mJ a b)=false:=List.any_eq_false.2 (fun x hx hk=>by
    have:=of_decide_eq_true hk
    have h:=r1 x hx
    unfold jX at h
    omega)
   rw [hr,hn]
   have:(fS a b r).cnt=r.cnt+1:=by unfold fS;rw [if_pos e]
   rw [this]
   simp only [Bool.true_or,if_true,Bool.false_eq_true,if_false]
   omega
  have hr:mJ a b r=false:=decide_eq_false e
  have:fS a b r=r:=by unfold fS;rw [if_neg e]
  rw [hr,Bool.false_or,this]
  omega
theorem kT.exists (f:Nat->M):∀ k,∃ l,kT f k l/\l.length<=k/\qM l=lnN f k
 | 0=>⟨[],kT.zero f,Nat.le_refl _,rfl⟩
 | k+1=>by
  obtain ⟨l,h,hl,hs⟩:=kT.exists f k
  by_cases hk:(f k).kind=1
  ·cases hm:l.any (mJ (f k).fn (f k).line) with
   | true =>
    refine ⟨_,h.bump hk hm,by rw [List.length_map];omega,?_⟩
    rw [bJ6 _ _ _ h.sorted,hm,hs,bJ3,if_pos hk];rfl
   | false =>
    obtain ⟨p,hp,h1,h2⟩:=lc_split ⟨(f k).fn,(f k).line,1⟩ l h.sorted (fun r hr e=>List.any_eq_false.1 hm r hr (decide_eq_true e))
    refine ⟨_,h.ins hk hm p h1 h2,?_,?_⟩
    ·rw [List.length_append,List.length_cons,List.length_take,List.length_drop];omega
    have e:qM l=qM (l.take p)+qM (l.drop p):=by rw [<- zV,List.take_append_drop]
    rw [zV,qE,bJ3,if_pos hk,<- hs,e]
    show _+(1+_)=_
    omega
  exact ⟨l,h.skip hk,by omega,by rw [bJ3,if_neg hk,hs];omega⟩
theorem kT.len {f:Nat->M} {k:Nat} {l:List Lc} (h:kT f k l):l.length<=k:=by
 obtain ⟨l',h',hl,_⟩:=kT.exists f k
 rw [h.unique h'];exact hl
def xQ (r:Lc):Nat->Int
 | 0=>r.fn
 | 1=>r.line
 | _=>r.cnt
def LcAns (nf:Nat) (fns:Nat->ByteArray) (n:Nat) (f:Nat->M) (n':Nat) (F:Nat->Nat->Int):Prop :=
 (cB nf fns n f/\∃ l,kT f n l/\n'=l.length/\∀ i j (h:i<l.length),j<3->F i j=xQ l[i] j)∨(¬ cB nf fns n f/\n'=0)
def dZ (l:List Lc):List Value:=l.flatMap fun r=>[.int .i64 r.fn,.int .i64 r.line,.int .i64 r.cnt]
theorem mB (r:Lc) (l:List Lc):dZ (r :: l)=.int .i64 r.fn :: .int .i64 r.line :: .int .i64 r.cnt :: dZ l:=rfl
theorem bC5 (a b:List Lc):dZ (a ++ b)=dZ a ++ dZ b:=List.flatMap_append ..
theorem kV:∀ (l:List Lc) (i:Nat) (h:i<l.length),(dZ l)[i*3]?=some (.int .i64 l[i].fn)/\(dZ l)[i*3+1]?=some (.int .i64 l[i].line)/\(dZ l)[i*3+2]?=some (.int .i64 l[i].cnt)
 | x :: r,0,_=>⟨rfl,rfl,rfl⟩
 | x :: r,i+1,h=>by
  have ih:=kV r i (by simpa using h)
  rw [mB,show (i+1)*3=i*3+1+1+1 by omega]
  simpa only [List.getElem?_cons_succ,sx5] using ih
theorem bC6:∀ (l:List Lc) (i:Nat) (x:Lc),i<l.length->(((dZ l).set (i*3) (.int .i64 x.fn)).set (i*3+1) (.int .i64 x.line)).set (i*3+2) (.int .i64 x.cnt)=dZ (l.set i x)
 | r :: t,0,x,_=>rfl
 | r :: t,i+1,x,h=>by
  have ih:=bC6 t i x (by simpa using h)
  rw [sx3,mB,mB,<- ih,show (i+1)*3=i*3+1+1+1 by omega]
  simp only [sx3]
theorem yT:∀ (l:List Lc) (i:Nat) (x:Int) (h:i<l.length),(dZ l).set (i*3+2) (.int .i64 x)=dZ (l.set i ⟨l[i].fn,l[i].line,x⟩)
 | r :: t,0,x,_=>rfl
 | r :: t,i+1,x,h=>by
  have ih:=yT t i x (by simpa using h)
  rw [sx3,mB,mB,sx5,<- ih,show (i+1)*3+2=i*3+2+1+1+1 by omega]
  simp only [sx3]
end
section
open Go.RowKit
theorem bD9:(Tryz.prog.info? 104).map (fun i=>(i.zero,i.size,i.bytes))=some (some (.agg #[.int .i64 0,.int .i64 0,.int .i64 0]),3,24):=by kernel_rfl
def jF (a b:Int) (l:List Lc) (q:Nat):List Lc:=(l.take q).map (fS a b) ++ l.drop q
theorem xR (a b:Int) (l:List Lc) (q:Nat):(jF a b l q).length=l.length:=by
 unfold jF
 rw [List.length_append,List.length_map,List.length_take,List.length_drop]
 omega
theorem bumpTo_all (a b:Int) (l:List Lc):jF a b l l.length=l.map (fS a b):=by
 unfold jF
 rw [List.take_length,List.drop_length,List.append_nil]
theorem zW (a b:Int) (l:List Lc) (q:Nat) (hq:q<l.length):(jF a b l q)[q]'(by rw [xR];exact hq)=l[q]:=by
 unfold jF
 rw [List.getElem_append_right (by rw [List.length_map,List.length_take];omega)]
 simp only [List.length_map,List.length_take,List.getElem_drop]
 congr 1
 omega
theorem bC7 (a b:Int) (l:List Lc) (q:Nat) (hq:q<l.length):jF a b l (q+1)=(jF a b l q).set q (fS a b l[q]):=by
 unfold jF
 have h1:l.take (q+1)=l.take q ++ [l[q]]:=by rw [List.take_add_one,List.getElem?_eq_getElem hq];rfl
 have h2:l.drop q=l[q] :: l.drop (q+1):=List.drop_eq_getElem_cons hq
 have h3:((l.take q).map (fS a b)).length=q:=by rw [List.length_map,List.length_take];omega
 rw [h1,h2,List.map_append,List.append_assoc,List.set_append_right _ _ (by omega),h3,Nat.sub_self]
 rfl
theorem bumpTo_same (a b:Int) (l:List Lc) (q:Nat) (hq:q<l.length) (hn:¬ (l[q].fn=a/\l[q].line=b)):jF a b l (q+1)=jF a b l q:=by
 rw [bC7 _ _ _ _ hq]
 have:fS a b l[q]=(jF a b l q)[q]'(by rw [xR];exact hq):=by
  rw [zW _ _ _ _ hq]
  unfold fS
  rw [if_neg hn]
 rw [this,List.set_getElem_self]
theorem any_succ (a b:Int) (l:List Lc) (q:Nat) (hq:q<l.length):(l.take (q+1)).any (mJ a b)=((l.take q).any (mJ a b) || mJ a b l[q]):=by
 have h1:l.take (q+1)=l.take q ++ [l[q]]:=by rw [List.take_add_one,List.getElem?_eq_getElem hq];rfl
 rw [h1,List.any_append]
 simp
theorem vW (a b:Int):∀ l:List Lc,l.any (mJ a b)=false->l.map (fS a b)=l
 | [],_=>rfl
 | r :: t,h=>by
  rw [List.any_cons,Bool.or_eq_false_iff] at h
  rw [List.map_cons,vW a b t h.2]
  have:fS a b r=r:=by unfold fS;rw [if_neg (of_decide_eq_false h.1)]
  rw [this]
def fX (l:List Lc) (x:Lc) (p:Nat):List Lc:=l.take p ++ x :: l.drop p
theorem gV (l:List Lc) (x:Lc) (p:Nat):(fX l x p).length=l.length+1:=by
 unfold fX
 rw [List.length_append,List.length_cons,List.length_take,List.length_drop]
 omega
theorem sinkAt_end (l:List Lc) (x:Lc):fX l x l.length=l ++ [x]:=by
 unfold fX
 rw [List.take_length,List.drop_length]
theorem sinkAt_new (l:List Lc) (x:Lc) (p:Nat) (hp:p<=l.length):(fX l x p)[p]'(by rw [gV];omega)=x:=by
 unfold fX
 rw [List.getElem_append_right (by rw [List.length_take];omega)]
 simp [List.length_take,Nat.min_eq_left hp]
theorem sinkAt_prev (l:List Lc) (x:Lc) (p:Nat) (hp:p<l.length):(fX l x (p+1))[p]'(by rw [gV];omega)=l[p]:=by
 unfold fX
 rw [List.getElem_append_left (by rw [List.length_take];omega)]
 simp
theorem sinkAt_swap (l:List Lc) (x:Lc) (p:Nat) (hp:p<l.length):((fX l x (p+1)).set p x).set (p+1) l[p]=fX l x p:=by
 unfold fX
 have h1:l.take (p+1)=l.take p ++ [l[p]]:=by rw [List.take_add_one,List.getElem?_eq_getElem hp];rfl
 have h2:l.drop p=l[p] :: l.drop (p+1):=List.drop_eq_getElem_cons hp
 have h3:(l.take p).length=p:=by rw [List.length_take];omega
 rw [h1,h2,List.append_assoc,List.set_append_right _ _ (by omega),h3,Nat.sub_self]
 rw [List.set_append_right _ _ (by omega),h3,show p+1 - p=1 by omega]
 rfl
theorem sink_before {l:List Lc} {x:Lc} {p:Nat} (hs:l.Pairwise jX) (hp:p<l.length) (h:jX l[p] x):∀ r,r∈l.take (p+1)->jX r x:=by
 intro r hr
 obtain ⟨i,hi,rfl⟩:=List.getElem_of_mem hr
 rw [List.length_take] at hi
 rw [List.getElem_take]
 by_cases e:i=p
 ·subst e;exact h
 exact bJ4 (List.pairwise_iff_getElem.1 hs i p (by omega) hp (by omega)) h
theorem sink_behind {l:List Lc} {x:Lc} {p:Nat} (hp:p<l.length) (h:jX x l[p]) (hq:∀ r,r∈l.drop (p+1)->jX x r):∀ r,r∈l.drop p->jX x r:=by
 intro r hr
 rw [List.drop_eq_getElem_cons hp] at hr
 rcases List.mem_cons.1 hr with e | e
 ·rw [e];exact h
 exact hq r e
theorem bJ7 {x y:Lc} (h:¬ jX x y) (hn:¬ (x.fn=y.fn/\x.line=y.line)):jX y x:=by
 unfold jX at *
 omega
theorem bE6 {w:World} {B g n cap:Nat} {l:List Lc} {i:Nat} {x:Lc} (h:w.ownsRow B 104 3 (.slice (some ⟨g,0,none⟩) n cap) n (dZ l)) (hi:i<l.length) :
  (((w.setCell ⟨g,i*3,none⟩ (.int .i64 x.fn)).setCell ⟨g,i*3+1,none⟩ (.int .i64 x.line)).setCell ⟨g,i*3+2,none⟩ (.int .i64 x.cnt)).ownsRow B 104 3 (.slice (some ⟨g,0,none⟩) n cap) n (dZ (l.set i x)):=by
 rw [<- bC6 l i x hi]
 exact kH (kH (kH h _ _) _ _) _ _
theorem rV {w:World} {B:Nat} {e:TypeId} {z:Nat} {v:Value} {n:Nat} {xs:List Value} (h:w.ownsRow B e z v n xs):∀ g,v.ownBlock=some g->B<=g/\∃ cs fr,w.heap[g]?=some (.cells cs e fr):=by
 intro g hg
 rcases h.2 with ⟨e1,_⟩ | ⟨g',cap,cur,e1,hB,hh,_⟩
 ·rw [e1] at hg;cases hg
 rw [e1] at hg;cases hg;exact ⟨hB,cur,_,hh⟩
theorem xS (lo:Nat) (v1 v2:Value) (nf:Nat) (fns:Nat->ByteArray) (n:Nat) (f:Nat->M) (w:World) (h1:eE lo w v1 nf fns) (h2:bQ lo w v2 n f) :
  Calls Tryz.prog 51 #[.agg #[v1,v2]] w fun e w'=>(∃ v n' F,e=.returned v/\LcAns nf fns n f n' F/\eQ w.heap.size w' v 3 n' F)/\Below w.heap.size w w':=by
 obtain ⟨i0,hi0,hz0,hz1,hz2⟩:=info_parts bD9
 have II:=O (And.intro hi0 (And.intro hz0 (And.intro hz1 hz2)));clear hi0 hz0 hz1 hz2
 have H1:=O h1
 have H2:=O h2
 obtain ⟨a1,cap1,rfl,hn1,-⟩:=h1
 obtain ⟨a2,cap2,rfl,hn2,-⟩:=h2
 unfold maxLen at hn1 hn2
 have T0:=O (cS.new w (.slice a1 nf cap1) (.slice a2 n cap2))
 go_enter Tryz.func51,Tryz.ntmps51
 go_wp2_with fail
 refine (xV lo _ _ nf fns n f _ ((Z H1).below (Z T0).below) ((Z H2).below (Z T0).below)).mono ?_
 rintro e w1 ⟨⟨ok,rfl,hok⟩,hb1⟩
 have T1:=O ((Z T0).go hb1)
 clear hb1 T0
 cases ok with
 | false =>
  have HN:Hid (¬ cB nf fns n f):=O (fun h=>by have:=hok.2 h;cases this)
  clear hok
  go_wp2_with fail
  go_ret
  exact ⟨⟨_,0,fun _ _=>0,rfl,.inr ⟨Z HN,rfl⟩,eQ.nil _ _ _ _⟩,(Z T1).below⟩
 | true =>
  have hS:=hok.1 rfl
  have HS:=O hS
  have hn3:n<=3000:=hS.1.2.2.1
  clear hok hS
  have g1:=(Z T1).b1
  obtain ⟨B,hB⟩:∃ B,B=w1.heap.size:=⟨_,rfl⟩
  have hBl:w.heap.size+1<=B:=by rw [hB];exact (Z T1).size
  have HBE:=O hB
  clear hB
  go_wp2_with fail
  go_loopg [3,17] n (fun gg ov i W=>∃ (k:Nat) (l:List Lc) (oa:Option Addr) (oc:Nat),k+gg=n/\ov=.slice oa l.length oc/\i=.int .i64 k/\kT f k l/\W.ownsRow B 104 3 (.slice oa l.length oc) l.length (dZ l)/\cS w (.slice a1 nf cap1) (.slice a2 n cap2) W/\B<=W.heap.size)
  case atStart=>exact ⟨0,[],none,0,by omega,rfl,rfl,kT.zero f,World.ownsRow_nil _ _ _ _,Z T1,by rw [Z HBE];exact Nat.le_refl _⟩
  case round =>
   clear T1 g1
   obtain ⟨k,l,oa,oc,hk,rfl,rfl,hli,ho,ht,hBw⟩:=hrel
   have HLI:=O hli
   have HO:=O ho
   have HT:=O ht
   have hll:l.length<=k:=hli.len
   clear hli ho ht
   by_cases hlt:k<n
   ·obtain ⟨_,_,e,_,hv⟩:=(Z H2).below (Z HT).below
    cases e
    obtain ⟨bm,om,vv,rfl,hc0,hc1,hc2,hc3,hc4,hc5,-,hs2,-⟩:=hv k hlt
    clear hv
    obtain ⟨av,capv,rfl,-⟩:=hs2
    have hmo:=(Z HS).2.1 k hlt
    clear hmo
    have hkn:(k:Int)<(n:Int):=by omega
    have hkz:(0:Int)<=(k:Int):=by omega
    have wq:IntKind.i64.wrap ((k:Int)+1)=((k+1:Nat):Int):=by rw [IntKind.wrap_i64];omega
    generalize hkk:(f k).kind=kk at hc0
    have HKK:=O hkk
    clear hkk
    generalize hfa:(f k).fn=fa at hc2
    have HFA:=O hfa
    clear hfa
    generalize hfb:(f k).line=fb at hc3
    have HFB:=O hfb
    clear hfb
    have HBA:=O (bH wr (.cells #[.int .i64 kk,.int .i64 (f k).task,.int .i64 fa,.int .i64 fb,.string (f k).text,.slice av (f k).nv capv] 108))
    have HBX:=O (heap_alloc_new wr (.cells #[.int .i64 kk,.int .i64 (f k).task,.int .i64 fa,.int .i64 fb,.string (f k).text,.slice av (f k).nv capv] 108))
    have hsA:(wr.alloc (.cells #[.int .i64 kk,.int .i64 (f k).task,.int .i64 fa,.int .i64 fb,.string (f k).text,.slice av (f k).nv capv] 108)).heap.size=wr.heap.size+1:=by simp
    have HSA:=O hsA
    clear hsA
    by_cases k1:kk=1
    ·have k1b:(kk != 1)=false:=by rw [k1];rfl
     have HK1:Hid ((f k).kind=1):=O (by rw [Z HKK];exact k1)
     clear k1
     go_upto_region 9 with fail
     have HO2:=O (bN (Z HO) (Z HBA))
     have HT2:=O ((Z HT).go (Z HBA))
     generalize wr.alloc (.cells #[.int .i64 kk,.int .i64 (f k).task,.int .i64 fa,.int .i64 fb,.string (f k).text,.slice av (f k).nv capv] 108)=W3 at HO2 HT2 HBX HSA ⊢
     obtain ⟨mb,hmb⟩:∃ mb,mb=wr.heap.size:=⟨_,rfl⟩
     have hBm:B<=mb:=by omega
     rw [<- hmb] at HBX HSA ⊢
     clear hmb hc0 hc1 hc2 hc3 hc4 hc5 HBA HO HT
     go_wp2_with fail
     go_loopg [6,26] l.length (fun gg mt i W=>∃ (q:Nat),q+gg=l.length/\mt=.bool ((l.take q).any (mJ fa fb))/\i=.int .i64 q/\W.ownsRow B 104 3 (.slice oa l.length oc) l.length (dZ (jF fa fb l q))/\W.heap[mb]?=some (.cells #[.int .i64 kk,.int .i64 (f k).task,.int .i64 fa,.int .i64 fb,.string (f k).text,.slice av (f k).nv capv] 108 (0,0))/\cS w (.slice a1 nf cap1) (.slice (some ⟨bm,om,none⟩) n cap2) W/\mb<W.heap.size)
     case atStart=>exact ⟨0,by omega,rfl,rfl,Z HO2,Z HBX,Z HT2,by rw [Z HSA];omega⟩
     case round =>
      clear HO2 HBX HT2 HSA
      obtain ⟨q,hq,rfl,rfl,ho,hmx,ht,hml⟩:=hrel
      have HO:=O ho
      have HMX:=O hmx
      have HT:=O ht
      clear ho hmx ht
      by_cases hql:q<l.length
      ·as_aux_lemma =>
        obtain ⟨g,cap',eg,hgB,hgl⟩:=(Z HO).form (by omega)
        injection eg with eg1 eg2 eg3
        subst eg1 eg3
        clear eg2
        have hqb:q<(jF fa fb l q).length:=by rw [xR];exact hql
        obtain ⟨d0,d1,d2⟩:=kV (jF fa fb l q) q hqb
        rw [zW _ _ _ _ hql] at d0 d1 d2
        obtain ⟨e0,z0⟩:=bL (Z HO) _ _ d0
        obtain ⟨e1,z1⟩:=bL (Z HO) _ _ d1
        obtain ⟨e2,z2⟩:=bL (Z HO) _ _ d2
        have m2:wr.cell? ⟨mb,2,none⟩=some (.int .i64 fa):=by rw [cell_of_row wr mb 2 _ _ _ (Z HMX)];rfl
        have m3:wr.cell? ⟨mb,3,none⟩=some (.int .i64 fb):=by rw [cell_of_row wr mb 3 _ _ _ (Z HMX)];rfl
        have hi0:(0:Int)<=(q:Int):=by omega
        have hi1:(q:Int)<(l.length:Int):=by omega
        have wi:IntKind.i64.wrap ((q:Int)+1)=((q+1:Nat):Int):=by rw [IntKind.wrap_i64];omega
        have hcb:=(Z HLI).cnt l[q] (List.getElem_mem hql)
        have hcb2:=rD f l[q].fn l[q].line k
        have HSU:=O (bC7 fa fb l q hql)
        have HSM:=O (bumpTo_same fa fb l q hql)
        have HAN:=O (any_succ fa fb l q hql)
        obtain ⟨r,hr⟩:∃ r,r=l[q]:=⟨_,rfl⟩
        rw [<- hr] at e0 e1 e2 hcb hcb2 HSU HSM HAN
        have HS2:Hid ((dZ (jF fa fb l q)).set (q*3+2) (.int .i64 (r.cnt+1))=dZ ((jF fa fb l q).set q ⟨r.fn,r.line,r.cnt+1⟩)):=O (by
         have h:=yT (jF fa fb l q) q (r.cnt+1) hqb
         rw [zW _ _ _ _ hql,<- hr] at h
         exact h)
        clear hr d0 d1 d2 hgl hqb
        have wc:IntKind.i64.wrap (r.cnt+1)=r.cnt+1:=by rw [IntKind.wrap_i64];omega
        clear hcb hcb2
        by_cases ha:r.fn=fa
        ·have hab:(r.fn == fa)=true:=by simpa using ha
         by_cases hb:r.line=fb
         ·have hbb:(r.line == fb)=true:=by simpa using hb
          have HBU:Hid (fS fa fb r=⟨r.fn,r.line,r.cnt+1⟩):=O (by unfold fS;rw [if_pos ⟨ha,hb⟩])
          have HKY:Hid (mJ fa fb r=true):=O (decide_eq_true ⟨ha,hb⟩)
          clear ha hb
          go_upto_region 12 with fail
          go_quiet (fail)
          generalize hW4:wr.drewN _=W4
          have HB4:Hid (Below wr.heap.size wr W4):=by rw [<- hW4];exact O (bP _ _)
          have e24:W4.cell? ⟨g,q*3+2,none⟩=some (.int .i64 r.cnt):=by rw [<- hW4];exact e2
          have z24:W4.frozen? ⟨g,q*3+2,none⟩=false:=by rw [<- hW4];exact z2
          have hs4:W4.heap.size=wr.heap.size:=by rw [<- hW4];rfl
          have HO4:=O (bN (Z HO) (Z HB4))
          have HMX4:Hid (W4.heap[mb]?=some (.cells #[.int .i64 kk,.int .i64 (f k).task,.int .i64 fa,.int .i64 fb,.string (f k).text,.slice av (f k).nv capv] 108 (0,0))):=O ((Z HB4).block mb hml |>.trans (Z HMX))
          have HT4:=O ((Z HT).go (Z HB4))
          have hgm:g≠mb:=fun e=>by
           have h:=(rV (Z HO4) g rfl).2
           obtain ⟨cs,fr,h⟩:=h
           rw [e,Z HMX4] at h
           cases h
          clear hW4 e0 e1 e2 z0 z1 z2 m2 m3 HO HMX HT HB4
          go_wp2_with fail
          go_roundg (l.length - (q+1))
          case measure=>omega
          case rel =>
           refine ⟨q+1,by omega,by rw [Z HAN,Z HKY,Bool.or_true],by go_num,?_,?_,Below.setCell (p:=⟨g,q*3+2,none⟩) (Z HT4) (by show w.heap.size+1<=g;omega) _,by simp;omega⟩
           ·rw [Z HSU,Z HBU,<- Z HS2]
            exact kH (Z HO4) _ _
           rw [heap_setCell_other _ _ _ _ (by show mb≠g;exact Ne.symm hgm)];exact Z HMX4
         have hbb:(r.line == fb)=false:=by simpa using hb
         have HKY:Hid (mJ fa fb r=false):=O (decide_eq_false (fun h=>hb h.2))
         have HSM2:=O (Z HSM (fun h=>hb h.2))
         clear ha hb
         go_upto_region 12 with fail
         go_quiet (fail)
         generalize hW4:wr.drewN _=W4
         have HB4:Hid (Below wr.heap.size wr W4):=by rw [<- hW4];exact O (bP _ _)
         have hs4:W4.heap.size=wr.heap.size:=by rw [<- hW4];rfl
         have HO4:=O (bN (Z HO) (Z HB4))
         have HMX4:Hid (W4.heap[mb]?=some (.cells #[.int .i64 kk,.int .i64 (f k).task,.int .i64 fa,.int .i64 fb,.string (f k).text,.slice av (f k).nv capv] 108 (0,0))):=O ((Z HB4).block mb hml |>.trans (Z HMX))
         have HT4:=O ((Z HT).go (Z HB4))
         clear hW4 e0 e1 e2 z0 z1 z2 m2 m3 HO HMX HT HB4
         go_wp2_with fail
         go_roundg (l.length - (q+1))
         case measure=>omega
         case rel=>exact ⟨q+1,by omega,by rw [Z HAN,Z HKY,Bool.or_false],by go_num,by rw [Z HSM2];exact Z HO4,Z HMX4,Z HT4,by omega⟩
        have hab:(r.fn == fa)=false:=by simpa using ha
        have HKY:Hid (mJ fa fb r=false):=O (decide_eq_false (fun h=>ha h.1))
        have HSM2:=O (Z HSM (fun h=>ha h.1))
        clear ha
        go_upto_region 12 with fail
        go_quiet (fail)
        generalize hW4:wr.drewN _=W4
        have HB4:Hid (Below wr.heap.size wr W4):=by rw [<- hW4];exact O (bP _ _)
        have hs4:W4.heap.size=wr.heap.size:=by rw [<- hW4];rfl
        have HO4:=O (bN (Z HO) (Z HB4))
        have HMX4:Hid (W4.heap[mb]?=some (.cells #[.int .i64 kk,.int .i64 (f k).task,.int .i64 fa,.int .i64 fb,.string (f k).text,.slice av (f k).nv capv] 108 (0,0))):=O ((Z HB4).block mb hml |>.trans (Z HMX))
        have HT4:=O ((Z HT).go (Z HB4))
        clear hW4 e0 e1 e2 z0 z1 z2 m2 m3 HO HMX HT HB4
        go_wp2_with fail
        go_roundg (l.length - (q+1))
        case measure=>omega
        case rel=>exact ⟨q+1,by omega,by rw [Z HAN,Z HKY,Bool.or_false],by go_num,by rw [Z HSM2];exact Z HO4,Z HMX4,Z HT4,by omega⟩
      obtain rfl:q=l.length:=by omega
      rw [List.take_length]
      rw [bumpTo_all] at HO
      cases hany:l.any (mJ fa fb) with
      | true =>
       have HAN:Hid (l.any (mJ (f k).fn (f k).line)=true):=O (by rw [Z HFA,Z HFB];exact hany)
       clear hany
       go_wp2_with fail
       go_roundg (n - (k+1))
       case measure=>omega
       case rel =>
        have hl2:=(Z HLI).bump (Z HK1) (Z HAN)
        rw [Z HFA,Z HFB] at hl2
        refine ⟨k+1,l.map (fS fa fb),oa,oc,by omega,by rw [List.length_map],by go_num,hl2,?_,Z HT,by omega⟩
        rw [List.length_map]
        exact Z HO
      | false =>
       rw [vW _ _ _ hany] at HO
       have HAN:Hid (l.any (mJ (f k).fn (f k).line)=false):=O (by rw [Z HFA,Z HFB];exact hany)
       clear hany
       have m2:wr.cell? ⟨mb,2,none⟩=some (.int .i64 fa):=by rw [cell_of_row wr mb 2 _ _ _ (Z HMX)];rfl
       have m3:wr.cell? ⟨mb,3,none⟩=some (.int .i64 fb):=by rw [cell_of_row wr mb 3 _ _ _ (Z HMX)];rfl
       have HA:=O (bN (Z HO) (bH wr (.cells #[.int .i64 fa,.int .i64 fb,.int .i64 1] 104)))
       have HNW:Hid (∀ j u,([.int .i64 fa,.int .i64 fb,.int .i64 1]:List Value)[j]?=some u->(wr.alloc (.cells #[.int .i64 fa,.int .i64 fb,.int .i64 1] 104)).cell? ((⟨wr.heap.size,0,none⟩:Addr).add j)=some u):=O (World.news_of_block (cs:=#[.int .i64 fa,.int .i64 fb,.int .i64 1]) (t:=104) (fr:=(0,0)) (heap_alloc_new wr _))
       have HTA:=O ((Z HT).go (bH wr (.cells #[.int .i64 fa,.int .i64 fb,.int .i64 1] 104)))
       go_upto_region 18 with (at_builtin;refine wpList_append_lies _ (by rfl) _ _ _ (by rfl) B 104 i0 _ 3 24 Tryz.underlying94 (Z II).1 (Z II).2.1 (Z II).2.2.1 (Z II).2.2.2 rfl (by omega) (.slice oa l.length oc) l.length (dZ l) (by rfl) (Z HA) ⟨wr.heap.size,0,none⟩ 1 1 [.int .i64 fa,.int .i64 fb,.int .i64 1] (by rfl) (by rfl) (Z HNW) (by simp [Value.oneCell']) (by omega) (by unfold maxLen;omega) (by omega) (by simp;omega) (wr.heap.size+1) (by simp) ?_;intro g2 cp2 w7 hown hgrow _ _;have HW7:=O hown;have HG7:=O hgrow;clear hown hgrow)
       have HO7:Hid (w7.ownsRow B 104 3 (.slice (some ⟨g2,0,none⟩) (l.length+1) cp2) (l.length+1) (dZ (fX l ⟨fa,fb,1⟩ l.length))):=O (by rw [sinkAt_end,bC5];exact Z HW7)
       have HT7:Hid (cS w (.slice a1 nf cap1) (.slice (some ⟨bm,om,none⟩) n cap2) w7):=O (Below.grown (Z HTA) (Z HG7) (by simp;omega) (fun j e=>by have:=(rV (Z HA) j e).1;omega))
       have hs7:B<=w7.heap.size:=by have:=(Z HG7).size;simp at this;omega
       clear HW7 HG7 HA HNW HTA HO HT HMX m2 m3 hml
       have wl:IntKind.i64.wrap (((l.length+1:Nat):Int) - 1)=(l.length:Int):=by rw [IntKind.wrap_i64];omega
       go_wp2_with fail
       go_loopg [8] l.length (fun gg i W=>i=.int .i64 (gg:Int)/\gg<=l.length/\W.ownsRow B 104 3 (.slice (some ⟨g2,0,none⟩) (l.length+1) cp2) (l.length+1) (dZ (fX l ⟨fa,fb,1⟩ gg))/\(∀ r,r∈l.drop gg->jX ⟨fa,fb,1⟩ r)/\cS w (.slice a1 nf cap1) (.slice (some ⟨bm,om,none⟩) n cap2) W/\B<=W.heap.size)
       case atStart=>exact ⟨by go_num,Nat.le_refl _,Z HO7,fun r hr=>(by rw [List.drop_length] at hr;cases hr),Z HT7,hs7⟩
       case round =>
        clear HO7 HT7 hs7 wl
        obtain ⟨rfl,hgl,ho,hdr,ht,hBw2⟩:=hrel
        have HO:=O ho
        have HDR:=O hdr
        have HT:=O ht
        clear ho hdr ht
        cases gk with
        | zero =>
         as_aux_lemma =>
          have HPR:Hid (∀ r,r∈l.take 0->jX r ⟨fa,fb,1⟩):=O (fun r hr=>by cases hr)
          go_wp2_with fail
          go_roundg (n - (k+1))
          case measure=>omega
          case rel =>
           have hl2:=(Z HLI).ins (Z HK1) (Z HAN) 0 (by rw [Z HFA,Z HFB];exact Z HPR) (by rw [Z HFA,Z HFB];exact Z HDR)
           rw [Z HFA,Z HFB] at hl2
           refine ⟨k+1,fX l ⟨fa,fb,1⟩ (0),some ⟨g2,0,none⟩,cp2,by omega,by rw [gV],by go_num,hl2,?_,Z HT,hBw2⟩
           rw [gV]
           exact Z HO
        | succ p =>
         have hpl:p<l.length:=by omega
         have hl1:=gV l ⟨fa,fb,1⟩ (p+1)
         obtain ⟨d0,d1,d2⟩:=kV (fX l ⟨fa,fb,1⟩ (p+1)) p (by omega)
         obtain ⟨d3,d4,d5⟩:=kV (fX l ⟨fa,fb,1⟩ (p+1)) (p+1) (by omega)
         rw [sinkAt_prev _ _ _ hpl] at d0 d1 d2
         rw [sinkAt_new _ _ _ hgl] at d3 d4 d5
         obtain ⟨e0,z0⟩:=bL (Z HO) _ _ d0
         obtain ⟨e1,z1⟩:=bL (Z HO) _ _ d1
         obtain ⟨e2,z2⟩:=bL (Z HO) _ _ d2
         obtain ⟨e3,z3⟩:=bL (Z HO) _ _ d3
         obtain ⟨e4,z4⟩:=bL (Z HO) _ _ d4
         obtain ⟨e5,z5⟩:=bL (Z HO) _ _ d5
         have hgs:g2<wr.heap.size:=bV e0
         have HNK:Hid (¬ (l[p].fn=fa/\l[p].line=fb)):=O (fun h=>by
          have:=List.any_eq_false.1 (Z HAN) l[p] (List.getElem_mem hpl)
          rw [Z HFA,Z HFB] at this
          exact this (decide_eq_true h))
         have HPB:=O (fun h=>sink_before (x:=⟨fa,fb,1⟩) (Z HLI).sorted hpl h)
         have HPH:=O (fun h=>sink_behind (x:=⟨fa,fb,1⟩) hpl h (Z HDR))
         have HSW:=O (sinkAt_swap l ⟨fa,fb,1⟩ p hpl)
         obtain ⟨r,hr⟩:∃ r,r=l[p]:=⟨_,rfl⟩
         rw [<- hr] at e0 e1 e2 HNK HPB HPH HSW
         clear hr d0 d1 d2 d3 d4 d5
         have wp1:IntKind.i64.wrap (((p+1:Nat):Int) - 1)=(p:Int):=by rw [IntKind.wrap_i64];omega
         have hp0:(0:Int)<((p+1:Nat):Int):=by omega
         have hp1:(0:Int)<=(p:Int):=by omega
         have hp2:(p:Int)<((l.length+1:Nat):Int):=by omega
         have hp3:(0:Int)<=((p+1:Nat):Int):=by omega
         have hp4:((p+1:Nat):Int)<((l.length+1:Nat):Int):=by omega
         have hle:=wr.size_alloc (.cells #[.int .i64 r.fn,.int .i64 r.line,.int .i64 r.cnt] 104)
         have HB2:Hid (Below wr.heap.size wr ((wr.alloc (.cells #[.int .i64 r.fn,.int .i64 r.line,.int .i64 r.cnt] 104)).alloc (.cells #[.int .i64 fa,.int .i64 fb,.int .i64 1] 104))):=O (((Below.refl _ _).alloc (Nat.le_refl _) _).alloc (by simp) _)
         have HO2:=O (bN (Z HO) (Z HB2))
         have HT2:=O ((Z HT).go (Z HB2))
         have hs2:B<=((wr.alloc (.cells #[.int .i64 r.fn,.int .i64 r.line,.int .i64 r.cnt] 104)).alloc (.cells #[.int .i64 fa,.int .i64 fb,.int .i64 1] 104)).heap.size:=by simp;omega
         clear hle
         by_cases h1:r.fn<fa
         ·as_aux_lemma =>
           have HPR:=O (Z HPB (.inl h1))
           go_wp2_with fail
           go_roundg (n - (k+1))
           case measure=>omega
           case rel =>
            have hl2:=(Z HLI).ins (Z HK1) (Z HAN) (p+1) (by rw [Z HFA,Z HFB];exact Z HPR) (by rw [Z HFA,Z HFB];exact Z HDR)
            rw [Z HFA,Z HFB] at hl2
            refine ⟨k+1,fX l ⟨fa,fb,1⟩ (p+1),some ⟨g2,0,none⟩,cp2,by omega,by rw [gV],by go_num,hl2,?_,Z HT2,hs2⟩
            rw [gV]
            exact Z HO2
         by_cases h2:r.fn=fa
         ·have h2b:(r.fn == fa)=true:=by simpa using h2
          by_cases h3:r.line<fb
          ·as_aux_lemma =>
            have HPR:=O (Z HPB (.inr ⟨h2,h3⟩))
            clear h2
            go_wp2_with fail
            go_roundg (n - (k+1))
            case measure=>omega
            case rel =>
             have hl2:=(Z HLI).ins (Z HK1) (Z HAN) (p+1) (by rw [Z HFA,Z HFB];exact Z HPR) (by rw [Z HFA,Z HFB];exact Z HDR)
             rw [Z HFA,Z HFB] at hl2
             refine ⟨k+1,fX l ⟨fa,fb,1⟩ (p+1),some ⟨g2,0,none⟩,cp2,by omega,by rw [gV],by go_num,hl2,?_,Z HT2,hs2⟩
             rw [gV]
             exact Z HO2
          have HLT:Hid (jX ⟨fa,fb,1⟩ r):=O (bJ7 (fun h=>by unfold jX at h;simp only at h;omega) (Z HNK))
          clear h2
          as_aux_lemma =>
           have HOS:=O (bN (bE6 (x:=r) (bE6 (x:=⟨fa,fb,1⟩) (Z HO) (by omega:p<(fX l ⟨fa,fb,1⟩ (p+1)).length)) (by rw [List.length_set];omega:p+1<((fX l ⟨fa,fb,1⟩ (p+1)).set p ⟨fa,fb,1⟩).length)) (((Below.refl _ _).alloc (Nat.le_refl _) (.cells #[.int .i64 r.fn,.int .i64 r.line,.int .i64 r.cnt] 104)).alloc (by simp) (.cells #[.int .i64 fa,.int .i64 fb,.int .i64 1] 104)))
           have hg1:w.heap.size+1<=g2:=by have:=(rV (Z HO) g2 rfl).1;omega
           have HTS:Hid (cS w (.slice a1 nf cap1) (.slice (some ⟨bm,om,none⟩) n cap2) ((((((((wr.setCell ⟨g2,p*3,none⟩ (.int .i64 fa)).setCell ⟨g2,p*3+1,none⟩ (.int .i64 fb)).setCell ⟨g2,p*3+2,none⟩ (.int .i64 1)).setCell ⟨g2,(p+1)*3,none⟩ (.int .i64 r.fn)).setCell ⟨g2,(p+1)*3+1,none⟩ (.int .i64 r.line)).setCell ⟨g2,(p+1)*3+2,none⟩ (.int .i64 r.cnt)).alloc (.cells #[.int .i64 r.fn,.int .i64 r.line,.int .i64 r.cnt] 104)).alloc (.cells #[.int .i64 fa,.int .i64 fb,.int .i64 1] 104))) :=
            O (cS.go (Below.setCell (p:=⟨g2,(p+1)*3+2,none⟩) (Below.setCell (p:=⟨g2,(p+1)*3+1,none⟩) (Below.setCell (p:=⟨g2,(p+1)*3,none⟩) (Below.setCell (p:=⟨g2,p*3+2,none⟩) (Below.setCell (p:=⟨g2,p*3+1,none⟩) (Below.setCell (p:=⟨g2,p*3,none⟩) (Z HT) hg1 _) hg1 _) hg1 _) hg1 _) hg1 _) hg1 _) (((Below.refl _ _).alloc (Nat.le_refl _) _).alloc (by simp) _))
           go_wp2_with fail
           go_roundg p
           case measure=>omega
           case rel =>
            refine ⟨by go_num,by omega,?_,Z HPH (Z HLT),Z HTS,by simp;omega⟩
            rw [<- Z HSW]
            exact Z HOS
         have h2b:(r.fn == fa)=false:=by simpa using h2
         have HLT:Hid (jX ⟨fa,fb,1⟩ r):=O (bJ7 (fun h=>by unfold jX at h;simp only at h;omega) (Z HNK))
         clear h2
         as_aux_lemma =>
          have HOS:=O (bN (bE6 (x:=r) (bE6 (x:=⟨fa,fb,1⟩) (Z HO) (by omega:p<(fX l ⟨fa,fb,1⟩ (p+1)).length)) (by rw [List.length_set];omega:p+1<((fX l ⟨fa,fb,1⟩ (p+1)).set p ⟨fa,fb,1⟩).length)) (((Below.refl _ _).alloc (Nat.le_refl _) (.cells #[.int .i64 r.fn,.int .i64 r.line,.int .i64 r.cnt] 104)).alloc (by simp) (.cells #[.int .i64 fa,.int .i64 fb,.int .i64 1] 104)))
          have hg1:w.heap.size+1<=g2:=by have:=(rV (Z HO) g2 rfl).1;omega
          have HTS:Hid (cS w (.slice a1 nf cap1) (.slice (some ⟨bm,om,none⟩) n cap2) ((((((((wr.setCell ⟨g2,p*3,none⟩ (.int .i64 fa)).setCell ⟨g2,p*3+1,none⟩ (.int .i64 fb)).setCell ⟨g2,p*3+2,none⟩ (.int .i64 1)).setCell ⟨g2,(p+1)*3,none⟩ (.int .i64 r.fn)).setCell ⟨g2,(p+1)*3+1,none⟩ (.int .i64 r.line)).setCell ⟨g2,(p+1)*3+2,none⟩ (.int .i64 r.cnt)).alloc (.cells #[.int .i64 r.fn,.int .i64 r.line,.int .i64 r.cnt] 104)).alloc (.cells #[.int .i64 fa,.int .i64 fb,.int .i64 1] 104))) :=
           O (cS.go (Below.setCell (p:=⟨g2,(p+1)*3+2,none⟩) (Below.setCell (p:=⟨g2,(p+1)*3+1,none⟩) (Below.setCell (p:=⟨g2,(p+1)*3,none⟩) (Below.setCell (p:=⟨g2,p*3+2,none⟩) (Below.setCell (p:=⟨g2,p*3+1,none⟩) (Below.setCell (p:=⟨g2,p*3,none⟩) (Z HT) hg1 _) hg1 _) hg1 _) hg1 _) hg1 _) hg1 _) (((Below.refl _ _).alloc (Nat.le_refl _) _).alloc (by simp) _))
          go_wp2_with fail
          go_roundg p
          case measure=>omega
          case rel =>
           refine ⟨by go_num,by omega,?_,Z HPH (Z HLT),Z HTS,by simp;omega⟩
           rw [<- Z HSW]
           exact Z HOS
    have k1b:(kk != 1)=true:=by simpa using k1
    have HK1:Hid ((f k).kind≠1):=O (by rw [Z HKK];exact k1)
    clear k1
    go_wp2_with fail
    go_roundg (n - (k+1))
    case measure=>omega
    case rel=>exact ⟨k+1,l,oa,oc,by omega,rfl,by go_num,(Z HLI).skip (Z HK1),bN (Z HO) (Z HBA),(Z HT).go (Z HBA),by simp;omega⟩
   obtain rfl:k=n:=by omega
   go_wp2_with fail
   go_ret
   refine ⟨⟨_,l.length,fun i j=>if h:i<l.length then xQ l[i] j else 0,rfl,.inl ⟨Z HS,l,Z HLI,rfl,fun i j h _=>dif_pos h⟩,?_⟩,(Z HT).below⟩
   have hr:=eQ.of_owns (F:=fun i j=>if h:i<l.length then xQ l[i] j else 0) (Z HO) (fun i j hi hj=>by
    rw [dif_pos hi]
    obtain ⟨h0,h1,h2⟩:=kV l i hi
    rcases (show j=0∨j=1∨j=2 by omega) with rfl | rfl | rfl
    ·exact h0
    ·exact h1
    exact h2)
   exact hr.low (by omega)
end
section
open Go.RowKit Go.Maps
theorem ownsLow {w:World} {B B':Nat} {e:TypeId} {z:Nat} {v:Value} {n:Nat} {xs:List Value} (h:w.ownsRow B e z v n xs) (hB:B'<=B):w.ownsRow B' e z v n xs:=by
 refine ⟨h.1,?_⟩
 rcases h.2 with hn | ⟨g,cap,cur,hv,hb,rest⟩
 ·exact .inl hn
 exact .inr ⟨g,cap,cur,hv,by omega,rest⟩
theorem zX {w:World} {B:Nat} {e:TypeId} {z:Nat} {v:Value} {n:Nat} {xs:List Value} (h:w.ownsRow B e z v n xs):∀ g,v.ownBlock=some g->B<=g/\∃ cs fr,w.heap[g]?=some (.cells cs e fr):=by
 intro g hg
 rcases h.2 with ⟨e1,_⟩ | ⟨g',cap,cur,e1,hB,hh,_⟩
 ·rw [e1] at hg;cases hg
 rw [e1] at hg;cases hg;exact ⟨hB,cur,_,hh⟩
theorem optNe {a b:Option Nat} (h:∀ g,a=some g->b≠some g):a=none∨a≠b:=by
 cases a with
 | none=>exact .inl rfl
 | some g=>exact .inr (fun e=>h g rfl e.symm)
theorem laidOutN:laidOutB Tryz.prog=true:=by kernel_rfl
theorem rowN:(185:TypeId)<Tryz.prog.types.size:=of_decide_eq_true (by kernel_rfl)
theorem cellsN:Tryz.prog.cellsOf 185=2:=by kernel_rfl
theorem cellsNI:Tryz.prog.cellsOf 3=1:=by kernel_rfl
theorem deepN:Tryz.prog.keyType 185=true:=by kernel_rfl
theorem wideN:(match Tryz.prog.underlying 185 with | some (.array _ _) | some (.struct _)=>true | _=>false)=true:=by kernel_rfl
theorem klawN:Go.WideMaps.KeyLaw Tryz.prog 185:=deep_law_laid laidOutN (m:=3) (by omega) rowN (by kernel_rfl) wideN
theorem bJ8:Keyed Tryz.prog 185:=Keyed.of_law klawN
structure Lk where
 fn:Int
 line:Int
 deriving Inhabited
abbrev lkV (p:Lk):Value:=.agg #[.int .i64 p.fn,.int .i64 p.line]
theorem lkV_inj {p q:Lk} (h:lkV p=lkV q):p=q:=by
 cases p;cases q
 simpa [lkV] using h
def kL (p:Lk):Lit:=.string (keyBytes [.int .i64 p.fn,.int .i64 p.line])
theorem bR1:∃ m,Tryz.prog.types.size+1=m+1+1:=⟨Tryz.prog.types.size - 1,by
 have h:0<Tryz.prog.types.size:=Nat.lt_of_le_of_lt (Nat.zero_le _) rowN
 generalize Tryz.prog.types.size=z at h
 omega⟩
theorem rF (p:Lk) (ha:(Lit.int .i64 p.fn).wf=true) (hb:(Lit.int .i64 p.line).wf=true):keyOf Tryz.prog 185 (lkV p)=some (kL p):=by
 obtain ⟨m,hm⟩:=bR1
 unfold keyOf lkV
 rw [Tryz.underlying185]
 have hfo:(Value.agg #[.int .i64 p.fn,.int .i64 p.line]).formed Tryz.prog 185=true:=by simp [Value.formed,Tryz.underlying185,cellsN]
 have hk:Tryz.prog.keyLits (Tryz.prog.types.size+1) 185 (Value.agg #[.int .i64 p.fn,.int .i64 p.line]).cells.toList=some [.int .i64 p.fn,.int .i64 p.line]:=by
  rw [hm]
  simp [Program.keyLits,Tryz.underlying185,Tryz.underlying3,cellsN,cellsNI,Value.cells,ha,hb]
 simp only [deepN,hfo,hk]
 rfl
theorem bJ9 {m:Nat} {cs:List Value} {l:List Lit} (h:Tryz.prog.keyLits (m+1) 3 cs=some l):∃ x:Int,cs=[.int .i64 x]/\(Lit.int .i64 x).wf=true:=by
 cases cs with
 | nil=>simp [Program.keyLits,Tryz.underlying3] at h
 | cons c r =>
  cases r with
  | cons c' r'=>simp [Program.keyLits,Tryz.underlying3] at h
  | nil =>
   cases c with
   | int q x =>
    simp [Program.keyLits,Tryz.underlying3] at h
    obtain ⟨⟨rfl,h2⟩,-⟩:=h
    exact ⟨x,rfl,h2⟩
   | _=>simp [Program.keyLits,Tryz.underlying3] at h
theorem lk_inv {v:Value} {l:Lit} (h:keyOf Tryz.prog 185 v=some l):∃ p:Lk,v=lkV p/\(Lit.int .i64 p.fn).wf=true/\(Lit.int .i64 p.line).wf=true:=by
 obtain ⟨m,hm⟩:=bR1
 unfold keyOf at h
 rw [Tryz.underlying185] at h
 simp only at h
 split at h
 ·rename_i hf
  rw [Bool.and_eq_true] at hf
  obtain ⟨-,hf⟩:=hf
  cases v with
  | agg cs =>
   have hsz:cs.size=2:=by simpa [Value.formed,Tryz.underlying185,cellsN] using hf
   obtain ⟨c0,c1,rfl⟩:∃ c0 c1,cs=#[c0,c1]:=by
    obtain ⟨l0⟩:=cs
    match l0,hsz with
    | [c0,c1],_=>exact ⟨c0,c1,rfl⟩
   rw [hm] at h
   simp only [Value.cells] at h
   cases e:Tryz.prog.keyLits (m+1+1) 185 [c0,c1] with
   | none=>rw [e] at h;cases h
   | some ls =>
    clear h
    unfold Program.keyLits at e
    rw [Tryz.underlying185] at e
    simp [cellsN,cellsNI,Option.bind_eq_some_iff] at e
    obtain ⟨l1,h1,l2,⟨l3,h2,-⟩,-⟩:=e
    obtain ⟨x,e1,w1⟩:=bJ9 h1
    obtain ⟨y,e2,w2⟩:=bJ9 h2
    cases e1;cases e2
    exact ⟨⟨x,y⟩,rfl,w1,w2⟩
  | _=>simp [Value.formed,Tryz.underlying185] at hf
 cases h
theorem bR2 {p q:Lk} (ha:(Lit.int .i64 p.fn).wf=true) (hb:(Lit.int .i64 p.line).wf=true) (ha':(Lit.int .i64 q.fn).wf=true) (hb':(Lit.int .i64 q.line).wf=true) (h:kL p=kL q):p=q :=
 lkV_inj (bJ8.inj (rF p ha hb) (by rw [h];exact rF q ha' hb'))
abbrev cntDat (x:Int):DataW Unit:=.lit (.int .i64 x)
def dH (w:World) (b n:Nat) (D:DataW Unit) (g:Int->Int->Int):Prop :=
 w.ownsMap Tryz.prog 185 (plainElem Tryz.prog 3) b n D/\∀ p:Lk,(Lit.int .i64 p.fn).wf=true->(Lit.int .i64 p.line).wf=true->(has D (kL p)=true↔1<=g p.fn p.line)/\D.atKey (kL p) (cntDat 0)=cntDat (g p.fn p.line)
theorem dH.made (w:World):dH (w.alloc (.map #[] 0)) w.heap.size 0 (.map []) (fun _ _=>0) :=
 ⟨World.ownsMap_made _ _ _ _,fun _ _ _=>⟨⟨fun h=>(by cases h),fun h=>absurd (show (1:Int)<=0 from h) (by decide)⟩,rfl⟩⟩
theorem dH.lt {w:World} {b n:Nat} {D:DataW Unit} {g:Int->Int->Int} (h:dH w b n D g):b<w.heap.size:=h.1.lt
theorem dH.of_block {w w':World} {b n:Nat} {D:DataW Unit} {g:Int->Int->Int} (h:dH w b n D g) (hb:w'.heap[b]?=w.heap[b]?):dH w' b n D g:=by
 obtain ⟨⟨es,c,h1,h2⟩,h3⟩:=h
 exact ⟨⟨es,c,hb.trans h1,h2⟩,h3⟩
theorem dH.below {w w':World} {b n:Nat} {D:DataW Unit} {g:Int->Int->Int} (h:dH w b n D g) (hb:Below w.heap.size w w'):dH w' b n D g:=h.of_block (hb.block b h.lt)
theorem dH.mono {w:World} {b n n':Nat} {D:DataW Unit} {g:Int->Int->Int} (h:dH w b n D g) (hn:n<=n'):dH w b n' D g:=⟨h.1.mono hn,h.2⟩
theorem dH.congr {w:World} {b n:Nat} {D:DataW Unit} {g g':Int->Int->Int} (h:dH w b n D g) (e:∀ a c,g a c=g' a c):dH w b n D g':=⟨h.1,fun p h1 h2=>by rw [<- e];exact h.2 p h1 h2⟩
theorem vB (w:World):(zeroValue 3).run Tryz.prog w=.ok (.int .i64 0) w:=by kernel_rfl
theorem bK0 {v:Value} {x:Int} {ps:List MemPlace} (h:plainElem Tryz.prog 3 v=some (cntDat x,ps)):v=.int .i64 x:=by
 obtain ⟨a,rfl,e,_⟩:=plainElem_int_inv (H:=Unit) Tryz.underlying3 h
 injection e with e1 e2
 unfold cntDat at e1
 injection e1 with e1
 injection e1 with _ e1
 rw [e1]
theorem dH.look {w:World} {b n:Nat} {D:DataW Unit} {g:Int->Int->Int} (h:dH w b n D g) (p:Lk) (ha:(Lit.int .i64 p.fn).wf=true) (hb:(Lit.int .i64 p.line).wf=true) :
  (Instr.lookup 183 (.map (some b)) (.agg #[.int .i64 p.fn,.int .i64 p.line]) false).run Tryz.prog w=.ok (.int .i64 (g p.fn p.line)) w:=by
 obtain ⟨h1,h2⟩:=h
 obtain ⟨e1,e2⟩:=h2 p ha hb
 obtain ⟨v,ps,hr,hv⟩:=h1.lookup bJ8 Tryz.underlying183 (vB w) (plainElem_int (H:=Unit) Tryz.underlying3 (by decide:(Lit.int .i64 0).wf=true)) (rF p ha hb)
 rw [e2] at hv
 rw [bK0 hv] at hr
 exact hr
theorem dH.store {w:World} {b n:Nat} {D:DataW Unit} {g:Int->Int->Int} (h:dH w b n D g) (hn:n<maxLen) (p:Lk) (ha:(Lit.int .i64 p.fn).wf=true) (hb:(Lit.int .i64 p.line).wf=true) (x:Int) (hx:1<=x) (hw:(Lit.int .i64 x).wf=true) :
  ∃ w' D',(Instr.mapUpdate 183 (.map (some b)) (.agg #[.int .i64 p.fn,.int .i64 p.line]) (.int .i64 x)).run Tryz.prog w=.ok () w'/\dH w' b (n+1) D' (fun a c=>if a=p.fn/\c=p.line then x else g a c)/\w.grownBy w' (some b):=by
 obtain ⟨h1,h2⟩:=h
 have hm:IsMap D:=h1.isMap
 obtain ⟨w',hr,h3,h4⟩:=h1.update bJ8 Tryz.underlying183 hn (rF p ha hb) (plainElem_int (H:=Unit) Tryz.underlying3 hw)
 refine ⟨w',_,hr,⟨h3,fun q ha' hb'=>?_⟩,h4⟩
 dsimp only
 by_cases e:q.fn=p.fn/\q.line=p.line
 ·have e':q=p:=by cases p;cases q;simp only at e;rw [e.1,e.2]
  subst e'
  rw [if_pos e,has_put_same hm (bJ8.key (rF q ha hb)),atKey_put_same hm (bJ8.key (rF q ha hb))]
  exact ⟨⟨fun _=>hx,fun _=>rfl⟩,rfl⟩
 have hne:kL q≠kL p:=fun e2=>e (by rw [bR2 ha' hb' ha hb e2];exact ⟨rfl,rfl⟩)
 rw [if_neg e,has_put_other hne,atKey_put_other hne]
 exact h2 q ha' hb'
theorem okWorld {α:Type} {a b:α} {w w':World} (h:Result.ok a w=Result.ok b w'):w=w':=by injection h
theorem entry_world {H:Type} {P:Program} {w:World} {t k e:TypeId} {R:Value->Option (DataW H × List MemPlace)} {b:Nat} {es:Array MapEntry} {clock:Nat} (K:Go.WideMaps.KeyLaw P k) (ht:P.underlying t=some (.map k e)) {z:Value} (hz:∀ u:World,(zeroValue e).run P u=.ok z u)
  (hb:w.heap[b]?=some (.map es clock)) (F:WideElems.Fit P k R es clock) {key:Value} {kl:Lit} (hkey:keyOf P k key=some kl) {v:Value} {W1:World} (hr:(Instr.mapEntry t (.map (some b)) key).run P w=.ok v W1) :
  W1=w∨((Instr.mapUpdate t (.map (some b)) key z).run P w=.ok () W1/\∀ x∈es.toList,x.key≠key):=by
 rcases K.find w hkey es.toList F.keys with ⟨h1,h2⟩ | ⟨j,e0,h1,h2,h3⟩
 ·right
  have e1:(Instr.mapEntry t (.map (some b)) key).run P w=.ok (.tuple #[z,goInt clock]) (ChangeMaps.setBlock w b (.map (es.push ⟨key,z,clock⟩) (clock+1))):=by
   simp [Instr.mapEntry,run_underlying ht,MapKept.run_getObj_map hb,K.check w false hkey,h1,hz,MapKept.run_setObj_map _ hb,Result.andThen,ChangeMaps.setBlock]
  rw [hr] at e1
  injection e1 with e1 e2
  rw [e2]
  exact ⟨by simp [Instr.mapUpdate,run_underlying ht,MapKept.run_getObj_map hb,K.check w false hkey,h1,MapKept.run_setObj_map _ hb,Result.andThen,ChangeMaps.setBlock],h2⟩
 left
 have hj:es[j]?=some e0:=by simpa using h2
 have hsame:es.modify j (fun e=>{ e with key:=key })=es:=by
  apply Array.ext'
  rw [Array.toList_modify,ChangeMaps.modify_eq_set _ _ _ _ h2]
  have:({ e0 with key:=key }:MapEntry)=e0:=by rw [<- h3]
  rw [this]
  exact WideElems.set_self _ _ _ h2
 have e1:(Instr.mapEntry t (.map (some b)) key).run P w=.ok (.tuple #[e0.val,goInt e0.born]) (ChangeMaps.setBlock w b (.map es clock)):=by
  simp [Instr.mapEntry,run_underlying ht,MapKept.run_getObj_map hb,K.check w false hkey,h1,hj,h3,K.stays w hkey,hsame,MapKept.run_setObj_map _ hb,Result.andThen,ChangeMaps.setBlock]
 rw [hr] at e1
 injection e1 with e1 e2
 rw [e2]
 have:w.heap.setIfInBounds b (.map es clock)=w.heap:=by
  apply Array.ext_getElem?
  intro i
  rw [Array.getElem?_setIfInBounds]
  split
  ·rename_i h;subst h;rw [hb];split
   ·rfl
   rename_i h;exact absurd (Array.getElem?_eq_some_iff.1 hb).1 h
  rfl
 unfold ChangeMaps.setBlock
 rw [this]
theorem dH.entry {w:World} {b n:Nat} {D:DataW Unit} {g:Int->Int->Int} (h:dH w b n D g) (hn:n<maxLen) (p:Lk) (ha:(Lit.int .i64 p.fn).wf=true) (hb:(Lit.int .i64 p.line).wf=true) (x:Int) (hx:1<=x) (hw:(Lit.int .i64 x).wf=true) :
  ∃ v0 st W1,(Instr.mapEntry 183 (.map (some b)) (.agg #[.int .i64 p.fn,.int .i64 p.line])).run Tryz.prog w=.ok (.tuple #[v0,.int .i64 ((st:Nat):Int)]) W1/\w.grownBy W1 (some b) /\
   (Instr.lookup 183 (.map (some b)) (.agg #[.int .i64 p.fn,.int .i64 p.line]) false).run Tryz.prog W1=.ok (.int .i64 (g p.fn p.line)) W1 /\
   ∃ W2 D',(Instr.entryStore 183 (.map (some b)) (.int .i64 ((st:Nat):Int)) (.int .i64 x)).run Tryz.prog W1=.ok () W2/\dH W2 b (n+1) D' (fun a c=>if a=p.fn/\c=p.line then x else g a c)/\w.grownBy W2 (some b):=by
 have hlk:=h.look p ha hb
 obtain ⟨w',D',hr,h3,h4⟩:=h.store hn p ha hb x hx hw
 have hup:=h.1.update bJ8 Tryz.underlying183 hn (rF p ha hb) (plainElem_int (H:=Unit) Tryz.underlying3 (by decide:(Lit.int .i64 0).wf=true))
 have hm:IsMap D:=h.1.isMap
 obtain ⟨⟨es,clock,hblk,hF,-,-⟩,-⟩:=h
 obtain ⟨v0,st,es1,clock1,hen,-,hst⟩:=WideElems.entry_then_store klawN Tryz.underlying183 vB hblk hF (rF p ha hb)
 have hgr:∀ (o:Obj),w.grownBy (ChangeMaps.setBlock w b o) (some b):=fun o=>⟨rfl,rfl,rfl,by simp [ChangeMaps.setBlock],fun i _ hi=>ChangeMaps.heap_setBlock_other hblk _ (fun e=>hi (by rw [e]))⟩
 obtain ⟨es',clock',hs1,hs2⟩:=hst _ (.int .i64 x) (ChangeMaps.heap_setBlock_same hblk (.map es1 clock1))
 have e:w'=ChangeMaps.setBlock w b (.map es' clock'):=by
  rw [hr] at hs2
  injection hs2
 have e2:ChangeMaps.setBlock (ChangeMaps.setBlock w b (.map es1 clock1)) b (.map es' clock')=ChangeMaps.setBlock w b (.map es' clock'):=by
  simp [ChangeMaps.setBlock]
 refine ⟨v0,st,_,hen,hgr _,?_,_,D',hs1,?_,?_⟩
 ·rcases entry_world klawN Tryz.underlying183 vB hblk hF (rF p ha hb) hen with e3 | ⟨h5,h6⟩
  ·rw [e3];exact hlk
  have hg0:g p.fn p.line=0:=by
   rcases Maps.fit_look false bJ8 Tryz.underlying183 (vB w) hblk hF (rF p ha hb) with ⟨h7,-,-⟩ | ⟨e0,y,h7,h8,-⟩
   ·rw [hlk] at h7
    simp at h7
    exact h7
   exact absurd h8 (h6 e0 h7)
  obtain ⟨w6,h7,h8,-⟩:=hup
  rw [h5] at h7
  rw [<- okWorld h7] at h8
  obtain ⟨v,ps,hr2,hv⟩:=h8.lookup bJ8 Tryz.underlying183 (vB _) (plainElem_int (H:=Unit) Tryz.underlying3 (by decide:(Lit.int .i64 0).wf=true)) (rF p ha hb)
  rw [atKey_put_same hm (bJ8.key (rF p ha hb))] at hv
  rw [bK0 (x:=0) hv] at hr2
  rw [hg0]
  exact hr2
 ·rw [e2,<- e];exact h3
 rw [e2,<- e];exact h4
structure pS (D:DataW Unit) (left:Lit->Bool) (ss:List (Lk)):Prop where
 nodup:ss.Nodup
 wf:∀ p,p∈ss->(Lit.int .i64 p.fn).wf=true/\(Lit.int .i64 p.line).wf=true
 mem:∀ p:Lk,(Lit.int .i64 p.fn).wf=true->(Lit.int .i64 p.line).wf=true->(p∈ss↔(has D (kL p)=true/\left (kL p)=false))
theorem pS.start (D:DataW Unit):pS D (has D) []:=⟨List.nodup_nil,fun p h=>(by cases h),fun p _ _=>by cases has D (kL p)<;>simp⟩
theorem pS.step {D:DataW Unit} {left:Lit->Bool} {ss:List (Lk)} (h:pS D left ss) {p:Lk} {y:DataW Unit} (ha:(Lit.int .i64 p.fn).wf=true) (hb:(Lit.int .i64 p.line).wf=true) (hlk:left (kL p)=true) (hat:∀ zd,D.atKey (kL p) zd=y):pS D (fun z=>left z && !z.sameKey (kL p)) (ss ++ [p]):=by
 have hhas:has D (kL p)=true:=has_true_of_atKey hat
 have hnew:p ∉ ss:=fun hx=>by have:=((h.mem p ha hb).1 hx).2;rw [hlk] at this;cases this
 refine ⟨List.nodup_append.2 ⟨h.nodup,by simp,fun a h1 b h2 e=>by rw [List.mem_singleton.1 h2] at e;rw [e] at h1;exact hnew h1⟩,fun q hq=>?_,fun q ha' hb'=>?_⟩
 ·rcases List.mem_append.1 hq with hq | hq
  ·exact h.wf q hq
  rw [List.mem_singleton.1 hq];exact ⟨ha,hb⟩
 by_cases e:q=p
 ·subst e
  have hs:(kL q).sameKey (kL q)=true:=by simp [kL,Lit.sameKey]
  rw [hs]
  simp [hhas]
 have hne:kL q≠kL p:=fun e2=>e (bR2 ha' hb' ha hb e2)
 rw [sameKey_ne hne]
 simp [h.mem q ha' hb',e]
theorem pS.all {w:World} {b n:Nat} {D:DataW Unit} {g:Int->Int->Int} {left:Lit->Bool} {ss:List (Lk)} (h:pS D left ss) (hm:dH w b n D g) (hl:∀ kl,left kl=false) :
  ss.Nodup/\(∀ p,p∈ss->1<=g p.fn p.line)/\∀ p:Lk,(Lit.int .i64 p.fn).wf=true->(Lit.int .i64 p.line).wf=true->1<=g p.fn p.line->p∈ss:=by
 refine ⟨h.nodup,fun p hp=>?_,fun p ha hb hg=>?_⟩
 ·obtain ⟨ha,hb⟩:=h.wf p hp
  have:=((h.mem p ha hb).1 hp).1
  exact (hm.2 p ha hb).1.1 this
 exact (h.mem p ha hb).2 ⟨(hm.2 p ha hb).1.2 hg,hl _⟩
end
section
open Go.RowKit Go.Shelf Go.Maps
attribute [local go_sem] Oper.semAt_some
structure bE7 (g:Int->Int->Int) (nn:Nat) (ss:List (Lk)):Prop where
 nodup:ss.Nodup
 has:∀ p,p∈ss->1<=g p.fn p.line
 all:∀ p:Lk,(Lit.int .i64 p.fn).wf=true->(Lit.int .i64 p.line).wf=true->1<=g p.fn p.line->p∈ss
 len:ss.length<=nn
theorem keys1_in (m:Nat) (hm:1<=m) (l Bm b nn:Nat) (D:DataW Unit) (g:Int->Int->Int) (J Jx:List (Lk)->World->Prop)
  (hY:∀ pre x W,J pre W->pre.length<nn->YieldAt Fence.wide (m - 1) Tryz.prog l #[lkV x] W fun e W'=>(e=.returned (.bool true)/\J (pre ++ [x]) W'/\KeepsWalks W W')∨(e=.returned (.bool false)/\Jx (pre ++ [x]) W'))
  (W:World) (hJ:AbidesFrom W.heap.size J) (hc:W.cell? ⟨Bm,0,none⟩=some (.map (some b))) (hown:dH W b nn D g) (h0:J [] W) :
  CallsIn Fence.wide m Tryz.prog 165 #[.func (.yield l) #[] #[],.pointer (some ⟨Bm,0,none⟩)] W fun e W'=>(∃ v,e=.returned v)/\((∃ ss,bE7 g nn ss/\J ss W')∨(∃ pre,True/\Jx pre W')):=by
 refine callsIn_of_wp Tryz.func165 rfl trivial ?_ rfl
 simp only [Tryz.ntmps165,List.size_toArray,List.length_cons,List.length_nil,Nat.reduceAdd,Nat.reduceSub,Array.replicate_succ,Array.replicate_zero,List.push_toArray,List.append_toArray,List.nil_append,List.cons_append]
 gi_wp2_with (first
  | (gi_at_range;refine wpListIn_range_own _ rfl _ 183 rfl 185 3 bJ8 Tryz.underlying183 _ b nn _ rfl hown.1 ?_;intro w0 hrg0 hg0 hs0)
  | gi_in)
 go_frame
 gi_loopw [3] (fun _ wr=>∃ (left:Lit->Bool) (cnt:Nat) (ss:List (Lk)),wr.ranges Tryz.prog 185 (plainElem Tryz.prog 3) b W.heap.size nn D left cnt/\ss.length+cnt<=Maps.size D/\pS D left ss/\J ss wr)
  (fun _ wr=>wr.rangeLeft b W.heap.size)
 case atStart =>
  exact ⟨_,_,[],hrg0,by simp,pS.start D,hJ [] W w0 none h0 hg0 (fun r e=>by cases e)⟩
 case round =>
  obtain ⟨left,cnt,ss,hrg,hcs,hC,hJs⟩:=hrel
  have hsz:Maps.size D<=nn:=hown.1.size_le
  gi_wp2_with (first
   | (gi_at_next;refine wpListIn_next_ranges _ rfl _ rfl 185 bJ8 (plainElem Tryz.prog 3) lkV id (fun key kl hk=>by obtain ⟨x,hx,_⟩:=lk_inv hk;exact ⟨x,hx⟩) (fun v _ _=>⟨v,rfl⟩) b W.heap.size nn _ _ _ rfl hrg ?_ ?_)
   | gi_in)
  ·intro hc0 hl0
   gi_wp2
   go_end0
   obtain ⟨q1,q2,q3⟩:=hC.all hown hl0
   exact ⟨⟨_,rfl⟩,.inl ⟨ss,⟨q1,q2,q3,by omega⟩,hJs⟩⟩
  intro x c kl yd yp w2 cnt2 hkey hlk hv hat hrg2 hlt hg2 hs2 hen
  obtain ⟨x',ex,wa,wb⟩:=lk_inv hkey
  obtain rfl:x=x':=lkV_inj ex
  obtain rfl:kl=kL x:=by rw [rF x wa wb] at hkey;exact (Option.some.inj hkey).symm
  have hJ2:J ss w2:=hJ ss wr w2 (some W.heap.size) hJs hg2 (fun r e=>by cases e;exact ⟨Nat.le_refl _,hrg.iter_walk⟩)
  obtain ⟨w3,hw3⟩:∃ w3,w3=w2.alloc (.cells #[.int .i64 x.fn,.int .i64 x.line] 185):=⟨_,rfl⟩
  have hJ3:J ss w3:=by rw [hw3];exact hJ ss w2 _ none hJ2 (World.grownBy_alloc _ _ _) (fun r e=>by cases e)
  have hrg3:w3.ranges Tryz.prog 185 (plainElem Tryz.prog 3) b W.heap.size nn D (fun z=>left z && !z.sameKey (kL x)) cnt2:=by rw [hw3];exact hrg2.alloc _
  obtain ⟨fn,tmps,assign,body,hy,hR⟩:=hY ss x w3 hJ3 (by omega)
  rw [hw3] at hy hR
  have HW3:=O hw3
  clear hs2 hw3
  gi_wp2
  refine hR.mono ?_
  have hC2:=hC.step wa wb hlk hat
  rw [<- Z HW3]
  rintro e W3 (⟨rfl,hJ4,hk3⟩ | ⟨rfl,hJx3⟩)
  ·gi_wp2
   have hrg4:=hrg3.of_walks hk3
   go_roundw
   case rel=>exact ⟨_,cnt2,ss ++ [x],hrg4,by simp;omega,hC2,hJ4⟩
   case measure=>rw [hrg4.left_eq,hrg.left_eq];exact hlt
  gi_wp2
  refine bodyPost_ret (results_none rfl _ _ _) rfl ?_
  exact ⟨⟨_,rfl⟩,.inr ⟨ss ++ [x],trivial,hJx3⟩⟩
theorem keys_in (m:Nat) (mb:Option Nat) (w:World) :
  CallsIn Fence.wide m Tryz.prog 118 #[.map mb] w fun e w'=>e=.returned (.func (.func 165) #[] #[.pointer (some ⟨w.heap.size,0,none⟩)])/\w'=w.alloc (.cells #[.map mb] 183):=by
 refine callsIn_of_wp Tryz.func118 rfl trivial ?_ rfl
 simp only [Tryz.ntmps118,List.size_toArray,List.length_cons,List.length_nil,Nat.reduceAdd,Nat.reduceSub,Array.replicate_succ,Array.replicate_zero,List.push_toArray,List.append_toArray,List.nil_append,List.cons_append]
 gi_wp2
 go_ret
 exact ⟨rfl,rfl⟩
theorem keys_stops (m:Nat) (hm:1<=m) (Bm b nn:Nat) (D:DataW Unit) (g:Int->Int->Int) (w:World) (hBm:Bm<w.heap.size) (hc:w.cell? ⟨Bm,0,none⟩=some (.map (some b))) (hown:dH w b nn D g) :
  SeqStopsK Fence.wide m Tryz.prog 165 #[.pointer (some ⟨Bm,0,none⟩)] (fun x:Lk=>#[lkV x]) KeepsWalks (bE7 g nn) (fun _=>True) nn w:=fun l J Jx W hW hJ _ hY h0 =>
 keys1_in m hm l Bm b nn D g J Jx hY W hJ ((hW.cell (p:=⟨Bm,0,none⟩) hBm).trans hc) (hown.below hW) h0
end
section
open Go.RowKit Go.Shelf Go.Maps
attribute [local go_sem] Oper.semAt_some
theorem info_lk:(Tryz.prog.info? 185).map (fun i=>(i.zero,i.size,i.bytes))=some (some (.agg #[.int .i64 0,.int .i64 0]),2,16):=by kernel_rfl
def mC (ss:List Lk):List Value:=ss.flatMap fun p=>[.int .i64 p.fn,.int .i64 p.line]
theorem lkCells_app (a b:List Lk):mC (a ++ b)=mC a ++ mC b:=List.flatMap_append ..
theorem bN8 {W W':World} (h:KeepsOthers W W'):KeepsWalks W W':=⟨h.size,fun k o hk hw=>h.same k o hk (by cases o<;>first | rfl | cases hw)⟩
def LkI (w:World) (pre:List Lk) (W:World):Prop :=
 ∃ v,Boxed W w.heap.size 186 v/\W.ownsRow (w.heap.size+1) 185 2 v pre.length (mC pre)/\Below w.heap.size w W
theorem LkI.from (w:World) (B:Nat) (hB:w.heap.size<=B):OwnFrom B (LkI w):=fun s W W' row h hg hr=>by
 obtain ⟨v,h1,h2,h3⟩:=h
 refine ⟨v,(hg.block _ h1.lt (fun e=>?_)).trans h1,h2.kept hg (optNe (fun g e1 e2=>?_)),Below.grown h3 hg h3.size (fun k e=>?_)⟩
 ·obtain ⟨-,o,ho,hc⟩:=hr _ e.symm
  rw [show W.heap[w.heap.size]?=_ from h1] at ho
  cases ho;cases hc
 ·obtain ⟨-,o,ho,hc⟩:=hr g e2
  obtain ⟨-,cs,fr,e3⟩:=zX h2 g e1
  rw [e3] at ho
  cases ho;cases hc
 exact Nat.le_trans hB (hr k e).1
def LkX (w:World) (gf:Nat) (lb:Array Value) (x:Lk) (a:Act) (W:World):Prop :=
 ∃ p,w.heap.size+1<=p/\a={ tmps:=#[.slice none 0 0,.func (.func gf) #[] lb,.pointer (some ⟨w.heap.size,0,none⟩),undef,.slice none 0 0,.pointer (some ⟨p,0,none⟩),.func (.func gf) #[] lb,.agg #[.int .i64 x.fn,.int .i64 x.line],undef,undef,undef,undef,undef],defers:=[] }/\W.heap[p]?=some (.cells #[.int .i64 x.fn,.int .i64 x.line] 185 (0,0))
theorem LkX.from (w:World) (gf:Nat) (lb:Array Value) (x:Lk) (a:Act) (B:Nat):OwnFrom B (fun (_:Unit) W=>LkX w gf lb x a W):=fun s W W' row h hg hr=>by
 obtain ⟨p,h1,h2,h3⟩:=h
 refine ⟨p,h1,h2,(hg.block _ (Array.getElem?_eq_some_iff.1 h3).1 (fun e=>?_)).trans h3⟩
 obtain ⟨-,o,ho,hc⟩:=hr _ e.symm
 rw [h3] at ho
 cases ho;cases hc
theorem appendSeq_lk (gf:Nat) (lb:Array Value) (N:Nat) (S Sp:List Lk->Prop) (w w0:World) (eg:∀ args w,(callFunc gf args).run Tryz.prog w=.ok (.enter gf args) w) (hN:N<=1048576) (hb0:Below w0.heap.size w0 w)
  (hseq:SeqStopsK Fence.wide 5 Tryz.prog gf lb (fun x:Lk=>#[lkV x]) KeepsWalks S Sp N w0) :
  Calls Tryz.prog 196 #[.slice none 0 0,.func (.func gf) #[] lb] w fun e w'=>(∃ v ss,e=.returned v/\S ss/\w'.ownsRow w.heap.size 185 2 v ss.length (mC ss)/\∃ a m c,v=.slice a m c)/\Below w.heap.size w w':=by
 obtain ⟨i0,hi0,hz0,hz1,hz2⟩:=info_parts info_lk
 refine (callsIn_wide (n:=6)).1 ?_
 refine callsIn_of_wp_marks Tryz.func196 rfl trivial ?_ rfl
 simp only [Tryz.ntmps196,List.size_toArray,List.length_cons,List.length_nil,Nat.reduceAdd,Nat.reduceSub,Array.replicate_succ,Array.replicate_zero,List.push_toArray,List.append_toArray,List.nil_append,List.cons_append]
 gi_wp2_with fail
 obtain ⟨W0,hW0⟩:∃ W0,W0=w.alloc (.cells #[.slice none 0 0] 186):=⟨_,rfl⟩
 have s0:W0.heap.size=w.heap.size+1:=by rw [hW0];simp
 have k0:W0.heap[w.heap.size]?=some (.cells #[.slice none 0 0] 186 (0,0)):=by rw [hW0];exact heap_alloc_new w _
 have b0:Below w.heap.size w W0:=by rw [hW0];exact bH _ _
 have hb1:Below w0.heap.size w0 W0:=hb0.trans (b0.mono hb0.size)
 rw [<- hW0]
 clear hW0
 refine wpIn_rangeFunc_ownH rfl (by omega) (gf:=gf) (lb:=lb) rfl trivial eg hseq walksK_t walksK_b hb1 (fun _=>rfl)
  (LkI w) (fun _ _ _=>False) (LkI.from w _ (by omega)) (fun _ _ _ _ _ hs _ _=>hs)
  ⟨_,k0,World.ownsRow_nil _ _ _ _,b0⟩ (LkX w gf lb) (fun x a'=>LkX.from w gf lb x a' _) ?assign ?body ?done ?stop
 case assign =>
  intro l pre x W K hI hK
  obtain ⟨v,hv,hrow,hB⟩:=hI
  have hsz:w.heap.size+1<=W.heap.size:=hv.lt
  gi_wp2
  refine hK _ _ ((KeepsOthers.alloc W _).from _) (KeepsWalks.alloc W _) ⟨v,hv.alloc _,hrow.alloc _,hB.trans ((bH W _).mono hB.size)⟩ ⟨W.heap.size,hsz,rfl,heap_alloc_new W _⟩
 case body =>
  rintro l pre x a' W - - ⟨v,hv,hrow,hB⟩ ⟨p,hp,rfl,hbx⟩ hlen
  have hcell:=hv.cell
  have x0:W.cell? ⟨p,0,none⟩=some (.int .i64 x.fn):=by rw [cell_of_row W _ 0 _ _ _ hbx];rfl
  have x1:W.cell? ⟨p,1,none⟩=some (.int .i64 x.line):=by rw [cell_of_row W _ 1 _ _ _ hbx];rfl
  have hsz:w.heap.size+1<=W.heap.size:=hv.lt
  have hnw:∀ j u,([.int .i64 x.fn,.int .i64 x.line]:List Value)[j]?=some u->(W.alloc (.cells #[.int .i64 x.fn,.int .i64 x.line] 185)).cell? ((⟨W.heap.size,0,none⟩:Addr).add j)=some u:=World.news_of_block (cs:=#[.int .i64 x.fn,.int .i64 x.line]) (t:=185) (fr:=(0,0)) (heap_alloc_new W _)
  gi_wp2_with (gi_at_builtin;refine wpListIn_append_own _ (by rfl) _ _ _ (by rfl) (w.heap.size+1) 185 i0 _ 2 16 Tryz.underlying186 hi0 hz0 hz1 hz2 rfl (by decide) _ _ _ (by rfl) (hrow.alloc _) ⟨W.heap.size,0,none⟩ 1 1 [.int .i64 x.fn,.int .i64 x.line] (by rfl) (by rfl) hnw (by simp [Value.oneCell']) (by unfold maxLen;omega) (by omega) (by simp;omega) ?_;intro v' w1 hown' hgrow _;obtain ⟨g',cap',rfl⟩:=ownsRow_succ hown';obtain ⟨hv1,hv2,hr2,hk2,hb2⟩:=hv.appended (n₀:=w.heap.size) (by decide) (ownsLow hrow (Nat.le_succ _)) (by omega) (Nat.le_refl _) (ownsLow hown' (Nat.le_succ _)) hgrow;have hc1:=hv1.cell;have hf1:=hv1.frozen)
  have hown3:=hown'.kept (grownBy_setCell' w1 w.heap.size (.slice (some ⟨g',0,none⟩) (pre.length+1) cap')) (.inr (hv1.not_row (by decide) hown').symm)
  refine ⟨hk2.from _,bN8 hk2,_,hv2,?_,hB.trans hb2⟩
  rw [lkCells_app,List.length_append]
  exact hown3
 case done =>
  rintro D xs W hD hS ⟨v,hv,hrow,hB⟩ hK
  have hcell:=hv.cell
  obtain ⟨va,vm,vc,rfl⟩:∃ a m c,v=.slice a m c:=by
   rcases hrow.2 with ⟨rfl,_⟩ | ⟨g,cap,cur,rfl,_⟩
   ·exact ⟨_,_,_,rfl⟩
   exact ⟨_,_,_,rfl⟩
  gi_wp2
  refine ⟨by simp,.inl ⟨_,_,rfl,run_takeDeferred hK,?_⟩⟩
  refine ⟨_,results_tmp rfl _ _ _,⟨⟨_,xs,rfl,hS,ownsLow (ownsRow_putObj hrow _ hK rfl) (Nat.le_succ _),⟨_,_,_,rfl⟩⟩,hB.trans (belowK_b (w:=w) (Nat.le_refl _) W D _ _ (by omega) hK rfl rfl)⟩⟩
 case stop =>
  rintro D c pre W _ _ h _
  exact h.elim
theorem collect_lk (gf:Nat) (lb:Array Value) (N:Nat) (S Sp:List Lk->Prop) (w w0:World) (eg:∀ args w,(callFunc gf args).run Tryz.prog w=.ok (.enter gf args) w) (hN:N<=1048576) (hb0:Below w0.heap.size w0 w)
  (hseq:SeqStopsK Fence.wide 5 Tryz.prog gf lb (fun x:Lk=>#[lkV x]) KeepsWalks S Sp N w0) :
  Calls Tryz.prog 163 #[.func (.func gf) #[] lb] w fun e w'=>(∃ v ss,e=.returned v/\S ss/\w'.ownsRow w.heap.size 185 2 v ss.length (mC ss)/\∃ a m c,v=.slice a m c)/\Below w.heap.size w w':=by
 have HQ:=O hseq
 have HG:=O eg
 have HB0:=O hb0
 clear hseq eg hb0
 go_enter Tryz.func163,Tryz.ntmps163
 go_wp2_with fail
 refine (appendSeq_lk gf lb N S Sp _ w0 (Z HG) hN (Z HB0) (Z HQ)).mono ?_
 rintro e w1 ⟨⟨v,xs,rfl,hS,ho,va,vm,vc,rfl⟩,hb1⟩
 have HS:=O hS
 have HO:=O ho
 have HB:=O hb1
 clear hS ho hb1
 go_wp2
 go_ret
 exact ⟨⟨_,xs,rfl,Z HS,Z HO,⟨_,_,_,rfl⟩⟩,Z HB⟩
end
end Go.Proofs.YtmnmeaeicjhkhaaGreatDoor
