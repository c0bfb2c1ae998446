import Derived.Test.YtmnmeaeicjhkhaaGreatDoorGEdx
import Derived.Test.YtmnmeaeicjhkhaaGreatDoorGFx
import Derived.Test.YtmnmeaeicjhkhaaGreatDoorGTx
set_option maxRecDepth 100000
set_option maxHeartbeats 16000000
namespace Go.Proofs.YtmnmeaeicjhkhaaGreatDoor
open Go.RowKit
section
structure Ak where
 op:Int
 n:Int
 name:ByteArray
 stop:Sp
structure LS where
 at_:Int
 stops:List Sp
 past:List Int
structure Td where
 code:Int
 num:Int
 text:ByteArray
 fr:List Fr
 vs:List V
def Td.nul:Td:=⟨0,0,ByteArray.empty,[],[]⟩
def Td.bad (c:Int):Td:=⟨c,0,ByteArray.empty,[],[]⟩
def Sp.nul:Sp:=⟨0,0,0,ByteArray.empty⟩
def mS (s:Sp):Prop:=s.kind=0/\s.fn=0/\s.line=0/\s.name=ByteArray.empty
def cL (a:Ak):Prop :=
 (a.op=1/\a.n=0/\a.name=ByteArray.empty/\qN a.stop) ∨
 ((a.op=2∨a.op=13)/\(0<=a.n/\a.n<=49)/\a.name=ByteArray.empty/\mS a.stop) ∨
 (((3<=a.op/\a.op<=8)∨a.op=11)/\a.n=0/\a.name=ByteArray.empty/\mS a.stop) ∨
 (a.op=9/\(-1<=a.n/\a.n<=3000)/\a.name=ByteArray.empty/\mS a.stop) ∨
 (a.op=10/\(0<=a.n/\a.n<=100)/\a.name=ByteArray.empty/\mS a.stop) ∨
 (a.op=12/\a.n=0/\(1<=a.name.size/\a.name.size<=40)/\mS a.stop)
def jW (n:Nat) (f:Nat->M) (k:Int):Nat:=if 0<=k/\k<n then (f k.toNat).nv else 0
def gS (f:Nat->M) (k:Int):Nat->V:=(f k.toNat).vars
def eZ (n:Nat) (f:Nat->M) (k:Int):List V:=(List.range (jW n f k)).map (gS f k)
def LS.ss (s:LS) (i:Nat):Sp:=s.stops.getD i Sp.nul
def dK (P:Nat->Bool):Nat->Nat
 | 0=>0
 | k+1=>dK P k+if P k then 1 else 0
def gM (n:Nat) (f:Nat->M) (s:LS) (a:Ak) (z:Int):Prop :=
 if a.op=3 then tS n (dJ f s.stops.length s.ss) s.at_ z
 else if a.op=4 then rQ (dJ f s.stops.length s.ss) s.at_ z
 else if a.op=5 then jE n f s.at_ 0 z
 else if a.op=6 then jE n f s.at_ 1 z
 else if a.op=7 then jE n f s.at_ 2 z
 else z=a.n
theorem gM.uniq {n:Nat} {f:Nat->M} {s:LS} {a:Ak} {z z':Int} (h:gM n f s a z) (h':gM n f s a z'):z=z':=by
 unfold gM at h h'
 by_cases h3:a.op=3
 ·rw [if_pos h3] at h h';exact h.uniq h'
 rw [if_neg h3] at h h'
 by_cases h4:a.op=4
 ·rw [if_pos h4] at h h';exact h.uniq h'
 rw [if_neg h4] at h h'
 by_cases h5:a.op=5
 ·rw [if_pos h5] at h h';exact h.uniq h'
 rw [if_neg h5] at h h'
 by_cases h6:a.op=6
 ·rw [if_pos h6] at h h';exact h.uniq h'
 rw [if_neg h6] at h h'
 by_cases h7:a.op=7
 ·rw [if_pos h7] at h h';exact h.uniq h'
 rw [if_neg h7] at h h'
 rw [h,h']
open Classical in
def bU (n:Nat) (f:Nat->M) (s:LS) (a:Ak) (s':LS) (d:Td):Prop :=
 if cL a then
  if a.op=1 then
   if s.stops.length=50 then s'=s/\d=Td.bad 2
   else s'=⟨s.at_,s.stops ++ [a.stop],s.past⟩/\d=⟨0,s.stops.length,ByteArray.empty,[],[]⟩
  else if a.op=2 then
   if (s.stops.length:Int)<=a.n then s'=s/\d=Td.bad 2
   else s'=⟨s.at_,s.stops.eraseIdx a.n.toNat,s.past⟩/\d=Td.nul
  else if a.op=8 then
   match s.past.getLast? with
   | none=>s'=s/\d=Td.bad 4
   | some x=>s'=⟨x,s.stops,s.past.dropLast⟩/\d=Td.nul
  else if a.op=9/\(n:Int)<a.n then s'=s/\d=Td.bad 4
  else if a.op=10 then s'=s/\d=⟨0,(St.after f (cQ n s.at_)).cur,ByteArray.empty,(St.after f (cQ n s.at_)).tasks a.n.toNat,[]⟩
  else if a.op=11 then s'=s/\d=⟨0,0,ByteArray.empty,[],eZ n f s.at_⟩
  else if a.op=12 then
   match cP (gS f s.at_) a.name (jW n f s.at_) with
   | none=>s'=s/\d=Td.bad 3
   | some t=>s'=s/\d=⟨0,0,t,[],[]⟩
  else if a.op=13 then
   if (s.stops.length:Int)<=a.n then s'=s/\d=Td.bad 2
   else s'=s/\d=⟨0,dK (hit f (s.ss a.n.toNat)) (cQ n s.at_),ByteArray.empty,[],[]⟩
  else ∃ z,gM n f s a z/\s'=⟨z,s.stops,s.past ++ [s.at_]⟩/\d=Td.nul
 else s'=s/\d=Td.bad 1
theorem bU.uniq {n:Nat} {f:Nat->M} {s:LS} {a:Ak} {s1 s2:LS} {d1 d2:Td} (h1:bU n f s a s1 d1) (h2:bU n f s a s2 d2):s1=s2/\d1=d2:=by
 have join:∀ {x:LS} {y:Td},(s1=x/\d1=y)->(s2=x/\d2=y)->s1=s2/\d1=d2:=fun a b=>⟨a.1.trans b.1.symm,a.2.trans b.2.symm⟩
 unfold bU at h1 h2
 by_cases hok:¬ cL a
 ·rw [if_neg hok] at h1 h2;exact join h1 h2
 have hok:=Classical.not_not.1 hok
 rw [if_pos hok] at h1 h2
 by_cases e1:a.op=1
 ·rw [if_pos e1] at h1 h2
  by_cases q:s.stops.length=50
  ·rw [if_pos q] at h1 h2;exact join h1 h2
  rw [if_neg q] at h1 h2;exact join h1 h2
 rw [if_neg e1] at h1 h2
 by_cases e2:a.op=2
 ·rw [if_pos e2] at h1 h2
  by_cases q:(s.stops.length:Int)<=a.n
  ·rw [if_pos q] at h1 h2;exact join h1 h2
  rw [if_neg q] at h1 h2;exact join h1 h2
 rw [if_neg e2] at h1 h2
 by_cases e8:a.op=8
 ·rw [if_pos e8] at h1 h2
  cases hg:s.past.getLast? with
  | none=>rw [hg] at h1 h2;exact join h1 h2
  | some x=>rw [hg] at h1 h2;exact join h1 h2
 rw [if_neg e8] at h1 h2
 by_cases e9:a.op=9/\(n:Int)<a.n
 ·rw [if_pos e9] at h1 h2;exact join h1 h2
 rw [if_neg e9] at h1 h2
 by_cases e10:a.op=10
 ·rw [if_pos e10] at h1 h2;exact join h1 h2
 rw [if_neg e10] at h1 h2
 by_cases e11:a.op=11
 ·rw [if_pos e11] at h1 h2;exact join h1 h2
 rw [if_neg e11] at h1 h2
 by_cases e12:a.op=12
 ·rw [if_pos e12] at h1 h2
  cases hg:cP (gS f s.at_) a.name (jW n f s.at_) with
  | none=>rw [hg] at h1 h2;exact join h1 h2
  | some x=>rw [hg] at h1 h2;exact join h1 h2
 rw [if_neg e12] at h1 h2
 by_cases e13:a.op=13
 ·rw [if_pos e13] at h1 h2
  by_cases q:(s.stops.length:Int)<=a.n
  ·rw [if_pos q] at h1 h2;exact join h1 h2
  rw [if_neg q] at h1 h2;exact join h1 h2
 rw [if_neg e13] at h1 h2
 obtain ⟨z1,m1,r1⟩:=h1
 obtain ⟨z2,m2,r2⟩:=h2
 obtain rfl:=m1.uniq m2
 exact join r1 r2
section
variable {n:Nat} {f:Nat->M} {s:LS} {a:Ak}
theorem bU.notOk (h:¬ cL a):bU n f s a s (Td.bad 1):=by unfold bU;rw [if_neg h];exact ⟨rfl,rfl⟩
theorem bU.stop50 (h:cL a) (e:a.op=1) (q:s.stops.length=50):bU n f s a s (Td.bad 2):=by unfold bU;rw [if_pos h,if_pos e,if_pos q];exact ⟨rfl,rfl⟩
theorem bU.stop (h:cL a) (e:a.op=1) (q:s.stops.length≠50):bU n f s a ⟨s.at_,s.stops ++ [a.stop],s.past⟩ ⟨0,s.stops.length,ByteArray.empty,[],[]⟩:=by unfold bU;rw [if_pos h,if_pos e,if_neg q];exact ⟨rfl,rfl⟩
theorem bU.clear2 (h:cL a) (e:a.op=2) (q:(s.stops.length:Int)<=a.n):bU n f s a s (Td.bad 2):=by unfold bU;rw [if_pos h,if_neg (by omega),if_pos e,if_pos q];exact ⟨rfl,rfl⟩
theorem bU.clear (h:cL a) (e:a.op=2) (q:¬ (s.stops.length:Int)<=a.n):bU n f s a ⟨s.at_,s.stops.eraseIdx a.n.toNat,s.past⟩ Td.nul:=by unfold bU;rw [if_pos h,if_neg (by omega),if_pos e,if_neg q];exact ⟨rfl,rfl⟩
theorem bU.undo4 (h:cL a) (e:a.op=8) (q:s.past=[]):bU n f s a s (Td.bad 4):=by
 unfold bU;rw [if_pos h,if_neg (by omega),if_neg (by omega),if_pos e,q];exact ⟨rfl,rfl⟩
theorem bU.undo (h:cL a) (e:a.op=8) {x:Int} (q:s.past.getLast?=some x):bU n f s a ⟨x,s.stops,s.past.dropLast⟩ Td.nul:=by
 unfold bU;rw [if_pos h,if_neg (by omega),if_neg (by omega),if_pos e,q];exact ⟨rfl,rfl⟩
theorem bU.to4 (h:cL a) (e:a.op=9) (q:(n:Int)<a.n):bU n f s a s (Td.bad 4):=by
 unfold bU;rw [if_pos h,if_neg (by omega),if_neg (by omega),if_neg (by omega),if_pos ⟨e,q⟩];exact ⟨rfl,rfl⟩
theorem bU.where_ (h:cL a) (e:a.op=10):bU n f s a s ⟨0,(St.after f (cQ n s.at_)).cur,ByteArray.empty,(St.after f (cQ n s.at_)).tasks a.n.toNat,[]⟩:=by
 unfold bU;rw [if_pos h,if_neg (by omega),if_neg (by omega),if_neg (by omega),if_neg (by omega),if_pos e];exact ⟨rfl,rfl⟩
theorem bU.vars (h:cL a) (e:a.op=11):bU n f s a s ⟨0,0,ByteArray.empty,[],eZ n f s.at_⟩:=by
 unfold bU;rw [if_pos h,if_neg (by omega),if_neg (by omega),if_neg (by omega),if_neg (by omega),if_neg (by omega),if_pos e];exact ⟨rfl,rfl⟩
theorem bU.value3 (h:cL a) (e:a.op=12) (q:cP (gS f s.at_) a.name (jW n f s.at_)=none):bU n f s a s (Td.bad 3):=by
 unfold bU;rw [if_pos h,if_neg (by omega),if_neg (by omega),if_neg (by omega),if_neg (by omega),if_neg (by omega),if_neg (by omega),if_pos e,q];exact ⟨rfl,rfl⟩
theorem bU.value (h:cL a) (e:a.op=12) {t:ByteArray} (q:cP (gS f s.at_) a.name (jW n f s.at_)=some t):bU n f s a s ⟨0,0,t,[],[]⟩:=by
 unfold bU;rw [if_pos h,if_neg (by omega),if_neg (by omega),if_neg (by omega),if_neg (by omega),if_neg (by omega),if_neg (by omega),if_pos e,q];exact ⟨rfl,rfl⟩
theorem bU.count2 (h:cL a) (e:a.op=13) (q:(s.stops.length:Int)<=a.n):bU n f s a s (Td.bad 2):=by
 unfold bU;rw [if_pos h,if_neg (by omega),if_neg (by omega),if_neg (by omega),if_neg (by omega),if_neg (by omega),if_neg (by omega),if_neg (by omega),if_pos e,if_pos q];exact ⟨rfl,rfl⟩
theorem bU.count (h:cL a) (e:a.op=13) (q:¬ (s.stops.length:Int)<=a.n):bU n f s a s ⟨0,dK (hit f (s.ss a.n.toNat)) (cQ n s.at_),ByteArray.empty,[],[]⟩:=by
 unfold bU;rw [if_pos h,if_neg (by omega),if_neg (by omega),if_neg (by omega),if_neg (by omega),if_neg (by omega),if_neg (by omega),if_neg (by omega),if_pos e,if_neg q];exact ⟨rfl,rfl⟩
theorem bU.move (h:cL a) (e:(3<=a.op/\a.op<=7)∨(a.op=9/\a.n<=(n:Int))) {z:Int} (q:gM n f s a z):bU n f s a ⟨z,s.stops,s.past ++ [s.at_]⟩ Td.nul:=by
 unfold bU
 rw [if_pos h,if_neg (by omega),if_neg (by omega),if_neg (by omega),if_neg (by omega),if_neg (by omega),if_neg (by omega),if_neg (by omega),if_neg (by omega)]
 exact ⟨z,q,rfl,rfl⟩
end
structure gF (n:Nat) (s:LS):Prop where
 lo:-1<=s.at_
 hi:s.at_<=n
 st:s.stops.length<=50
 ok:∀ x,x∈s.stops->qN x
 past:∀ x,x∈s.past->-1<=x/\x<=(n:Int)
theorem gF.start (n:Nat):gF n ⟨-1,[],[]⟩:=⟨by show (-1:Int)<=-1;omega,by show (-1:Int)<=n;omega,by simp,(fun x h=>by cases h),(fun x h=>by cases h)⟩
theorem tS.range {n:Nat} {P:Nat->Bool} {k z:Int} (h:tS n P k z):-1<=z/\z<=n:=by
 rcases h with ⟨j,rfl,_,h,_⟩ | ⟨rfl,_⟩<;>omega
theorem rQ.range {n:Nat} {P:Nat->Bool} {k z:Int} (h:rQ P k z) (hk:k<=n):-1<=z/\z<=n:=by
 rcases h with ⟨j,rfl,h,_⟩ | ⟨rfl,_⟩<;>omega
theorem jE.range {n:Nat} {f:Nat->M} {k z:Int} {kd:Nat} (h:jE n f k kd z) (hk:k<=n):-1<=z/\z<=n:=by
 rcases h with ⟨_,⟨j,rfl,_,h,_⟩ | ⟨rfl,_⟩⟩ | ⟨_,⟨j,rfl,h,_⟩ | ⟨rfl,_⟩⟩<;>omega
theorem gF.next {n:Nat} {f:Nat->M} {s:LS} {a:Ak} {s':LS} {d:Td} (h:gF n s) (hi:bU n f s a s' d):gF n s':=by
 unfold bU at hi
 by_cases hok:¬ cL a
 ·rw [if_neg hok] at hi;rw [hi.1];exact h
 have hok:=Classical.not_not.1 hok
 rw [if_pos hok] at hi
 by_cases e1:a.op=1
 ·rw [if_pos e1] at hi
  by_cases q:s.stops.length=50
  ·rw [if_pos q] at hi;rw [hi.1];exact h
  rw [if_neg q] at hi
  rw [hi.1]
  have hs:qN a.stop:=by
   rcases hok with x | x | x | x | x | x
   ·exact x.2.2.2
   all_goals omega
  refine ⟨h.lo,h.hi,?_,fun x hx=>?_,h.past⟩
  ·have:=h.st
   simp only [List.length_append,List.length_singleton];omega
  rcases List.mem_append.1 hx with hx | hx
  ·exact h.ok x hx
  rw [List.mem_singleton.1 hx];exact hs
 rw [if_neg e1] at hi
 by_cases e2:a.op=2
 ·rw [if_pos e2] at hi
  by_cases q:(s.stops.length:Int)<=a.n
  ·rw [if_pos q] at hi;rw [hi.1];exact h
  rw [if_neg q] at hi
  rw [hi.1]
  exact ⟨h.lo,h.hi,Nat.le_trans (List.length_eraseIdx_le _ _) h.st,fun x hx=>h.ok x (List.mem_of_mem_eraseIdx hx),h.past⟩
 rw [if_neg e2] at hi
 by_cases e8:a.op=8
 ·rw [if_pos e8] at hi
  cases hg:s.past.getLast? with
  | none=>rw [hg] at hi;rw [hi.1];exact h
  | some x =>
   rw [hg] at hi
   rw [hi.1]
   have hx:=h.past x (List.mem_of_getLast? hg)
   exact ⟨hx.1,hx.2,h.st,h.ok,fun y hy=>h.past y (List.dropLast_subset _ hy)⟩
 rw [if_neg e8] at hi
 by_cases e9:a.op=9/\(n:Int)<a.n
 ·rw [if_pos e9] at hi;rw [hi.1];exact h
 rw [if_neg e9] at hi
 by_cases e10:a.op=10
 ·rw [if_pos e10] at hi;rw [hi.1];exact h
 rw [if_neg e10] at hi
 by_cases e11:a.op=11
 ·rw [if_pos e11] at hi;rw [hi.1];exact h
 rw [if_neg e11] at hi
 by_cases e12:a.op=12
 ·rw [if_pos e12] at hi
  cases hg:cP (gS f s.at_) a.name (jW n f s.at_) with
  | none=>rw [hg] at hi;rw [hi.1];exact h
  | some x=>rw [hg] at hi;rw [hi.1];exact h
 rw [if_neg e12] at hi
 by_cases e13:a.op=13
 ·rw [if_pos e13] at hi
  by_cases q:(s.stops.length:Int)<=a.n
  ·rw [if_pos q] at hi;rw [hi.1];exact h
  rw [if_neg q] at hi;rw [hi.1];exact h
 rw [if_neg e13] at hi
 obtain ⟨z,m,rfl,-⟩:=hi
 have hz:-1<=z/\z<=(n:Int):=by
  unfold gM at m
  by_cases h3:a.op=3
  ·rw [if_pos h3] at m;exact m.range
  rw [if_neg h3] at m
  by_cases h4:a.op=4
  ·rw [if_pos h4] at m;exact m.range h.hi
  rw [if_neg h4] at m
  by_cases h5:a.op=5
  ·rw [if_pos h5] at m;exact m.range h.hi
  rw [if_neg h5] at m
  by_cases h6:a.op=6
  ·rw [if_pos h6] at m;exact m.range h.hi
  rw [if_neg h6] at m
  by_cases h7:a.op=7
  ·rw [if_pos h7] at m;exact m.range h.hi
  rw [if_neg h7] at m
  rcases hok with x | x | x | x | x | x
  ·omega
  ·omega
  ·omega
  ·omega
  ·omega
  omega
 refine ⟨hz.1,hz.2,h.st,h.ok,fun x hx=>?_⟩
 rcases List.mem_append.1 hx with hx | hx
 ·exact h.past x hx
 rw [List.mem_singleton.1 hx];exact ⟨h.lo,h.hi⟩
inductive pD (n:Nat) (f:Nat->M):LS->List Ak->LS->List (Int × Td)->Prop
 | nil (s:LS):pD n f s [] s []
 | snoc {s s1 s2:LS} {aq:List Ak} {a:Ak} {ds:List (Int × Td)} {d:Td} (h:pD n f s aq s1 ds) (k:bU n f s1 a s2 d):pD n f s (aq ++ [a]) s2 (ds ++ [(s2.at_,d)])
theorem pD.len {n:Nat} {f:Nat->M} {s s':LS} {aq:List Ak} {ds:List (Int × Td)} (h:pD n f s aq s' ds):ds.length=aq.length:=by
 induction h with
 | nil=>rfl
 | snoc _ _ ih=>simp [ih]
theorem pD.uniq {n:Nat} {f:Nat->M} {s s1:LS} {aq:List Ak} {ds:List (Int × Td)} (h:pD n f s aq s1 ds):∀ {s2:LS} {es:List (Int × Td)},pD n f s aq s2 es->s1=s2/\ds=es:=by
 induction h with
 | nil =>
  intro s2 es h2
  generalize hq:([]:List Ak)=q at h2
  cases h2 with
  | nil=>exact ⟨rfl,rfl⟩
  | snoc _ _=>simp at hq
 | @snoc s1 s2 aq a ds d h k ih =>
  intro s3 es h2
  generalize hq:aq ++ [a]=q at h2
  cases h2 with
  | nil=>simp at hq
  | @snoc t1 t2 aq' a' ds' d' h' k' =>
   obtain ⟨e1,e2⟩:=List.append_inj' hq rfl
   obtain rfl:a=a':=by simpa using e2
   subst e1
   obtain ⟨rfl,rfl⟩:=ih h'
   obtain ⟨rfl,rfl⟩:=k.uniq k'
   exact ⟨rfl,rfl⟩
end
theorem tW {n:Int} {nm:ByteArray} {st:Sp}:cL ⟨1,n,nm,st⟩↔n=0/\nm=ByteArray.empty/\qN st:=by
 unfold cL
 constructor
 ·rintro (h | h | h | h | h | h)<;>first | exact h.2 | (exfalso;have:=h.1;dsimp only at this;omega)
 exact fun h=>.inl ⟨rfl,h⟩
theorem gN {op n:Int} {nm:ByteArray} {st:Sp} (ho:op=2∨op=13):cL ⟨op,n,nm,st⟩↔(0<=n/\n<=49)/\nm=ByteArray.empty/\mS st:=by
 unfold cL
 constructor
 ·rintro (h | h | h | h | h | h)<;>first | exact h.2 | (exfalso;have:=h.1;dsimp only at this;omega)
 exact fun h=>.inr (.inl ⟨ho,h⟩)
theorem dC {op n:Int} {nm:ByteArray} {st:Sp} (ho:(3<=op/\op<=8)∨op=11):cL ⟨op,n,nm,st⟩↔n=0/\nm=ByteArray.empty/\mS st:=by
 unfold cL
 constructor
 ·rintro (h | h | h | h | h | h)<;>first | (exfalso;have:=h.1;dsimp only at this;omega) | exact h.2
 exact fun h=>.inr (.inr (.inl ⟨ho,h⟩))
theorem zP {n:Int} {nm:ByteArray} {st:Sp}:cL ⟨9,n,nm,st⟩↔(-1<=n/\n<=3000)/\nm=ByteArray.empty/\mS st:=by
 unfold cL
 constructor
 ·rintro (h | h | h | h | h | h)<;>first | (exfalso;have:=h.1;dsimp only at this;omega) | exact h.2
 exact fun h=>.inr (.inr (.inr (.inl ⟨rfl,h⟩)))
theorem mX {n:Int} {nm:ByteArray} {st:Sp}:cL ⟨10,n,nm,st⟩↔(0<=n/\n<=100)/\nm=ByteArray.empty/\mS st:=by
 unfold cL
 constructor
 ·rintro (h | h | h | h | h | h)<;>first | (exfalso;have:=h.1;dsimp only at this;omega) | exact h.2
 exact fun h=>.inr (.inr (.inr (.inr (.inl ⟨rfl,h⟩))))
theorem rR {n:Int} {nm:ByteArray} {st:Sp}:cL ⟨12,n,nm,st⟩↔n=0/\(1<=nm.size/\nm.size<=40)/\mS st:=by
 unfold cL
 constructor
 ·rintro (h | h | h | h | h | h)<;>first | (exfalso;have:=h.1;dsimp only at this;omega) | exact h.2
 exact fun h=>.inr (.inr (.inr (.inr (.inr ⟨rfl,h⟩))))
theorem okAskNo {op n:Int} {nm:ByteArray} {st:Sp} (ho:op<1∨13<op):¬ cL ⟨op,n,nm,st⟩:=by
 unfold cL
 rintro (h | h | h | h | h | h)<;>(have:=h.1;dsimp only at this;omega)
theorem fA (kd fn line:Int) (name:ByteArray) (w:World) :
  Calls Tryz.prog 137 #[.agg #[.int .i64 kd,.int .i64 fn,.int .i64 line,.string name]] w fun e w'=>bS (mS ⟨kd,fn,line,name⟩) e/\Below w.heap.size w w':=by
 have B0:=O ((Below.refl w.heap.size w).alloc (Nat.le_refl _) (.cells #[.int .i64 kd,.int .i64 fn,.int .i64 line,.string name] 45))
 by_cases k:(kd == 0)=false
 ·as_aux_lemma =>
   go_enter Tryz.func137,Tryz.ntmps137
   go_wp2
   go_ret
   exact ⟨bS.no (fun h=>by have:=h.1;simp_all),Z B0⟩
 have k:(kd == 0)=true:=Bool.of_not_eq_false k
 by_cases f:(fn == 0)=false
 ·as_aux_lemma =>
   go_enter Tryz.func137,Tryz.ntmps137
   go_wp2
   go_ret
   exact ⟨bS.no (fun h=>by have:=h.2.1;simp_all),Z B0⟩
 have f:(fn == 0)=true:=Bool.of_not_eq_false f
 by_cases l:(line == 0)=false
 ·as_aux_lemma =>
   go_enter Tryz.func137,Tryz.ntmps137
   go_wp2
   go_ret
   exact ⟨bS.no (fun h=>by have:=h.2.2.1;simp_all),Z B0⟩
 have l:(line == 0)=true:=Bool.of_not_eq_false l
 by_cases e:name=ByteArray.empty
 ·subst e
  as_aux_lemma =>
   go_enter Tryz.func137,Tryz.ntmps137
   go_wp2
   go_ret
   exact ⟨bS.yes ⟨eq_of_beq k,eq_of_beq f,eq_of_beq l,rfl⟩,Z B0⟩
 have n1:¬ name.toList=[]:=fun q=>e ((toList_nil_iff_emptyBytes name).1 q)
 have n3:(name.toList == [])=false:=by simpa using n1
 have HE:=O e
 clear e
 as_aux_lemma =>
  go_enter Tryz.func137,Tryz.ntmps137
  go_wp2
  go_ret
  exact ⟨bS.no (fun (h:mS ⟨kd,fn,line,name⟩)=>Z HE h.2.2.2),Z B0⟩
theorem dT (op n:Int) (name:ByteArray) (kd fn line:Int) (sn:ByteArray) (w:World) (hz:name.size<=maxLen) (hs:sn.size<=maxLen) :
  Calls Tryz.prog 90 #[.agg #[.int .i64 op,.int .i64 n,.string name,.int .i64 kd,.int .i64 fn,.int .i64 line,.string sn]] w fun e w'=>bS (cL ⟨op,n,name,⟨kd,fn,line,sn⟩⟩) e/\Below w.heap.size w w':=by
 have B0:=O (bH w (.cells #[.int .i64 op,.int .i64 n,.string name,.int .i64 kd,.int .i64 fn,.int .i64 line,.string sn] 47))
 by_cases o1:op=1
 ·subst o1
  by_cases c:(n == 0)=false
  ·as_aux_lemma =>
    go_enter Tryz.func90,Tryz.ntmps90
    go_wp2
    go_ret
    exact ⟨bS.no (fun h=>by have:=(tW.1 h).1;simp_all<;>omega),Z B0⟩
  have c:(n == 0)=true:=Bool.of_not_eq_false c
  by_cases e:name=ByteArray.empty
  ·subst e
   as_aux_lemma =>
    go_enter Tryz.func90,Tryz.ntmps90
    go_wp2_with (go_at_call 136;refine (bG8 kd fn line sn _ hs).mono ?_;rintro e w2 ⟨⟨b,rfl,hb⟩,hbl⟩;have HBL:=hT B0 hbl;have HBB:=O hb;clear hbl hb)
    go_ret
    exact ⟨⟨b,rfl,(Z HBB).trans ⟨fun h=>tW.2 ⟨by simp_all<;>omega,rfl,h⟩,fun h=>(tW.1 h).2.2⟩⟩,Z HBL⟩
  have n1:¬ name.toList=[]:=fun q=>e ((toList_nil_iff_emptyBytes name).1 q)
  have n3:(name.toList == [])=false:=by simpa using n1
  have HE:=O e
  clear e
  as_aux_lemma =>
   go_enter Tryz.func90,Tryz.ntmps90
   go_wp2
   go_ret
   exact ⟨bS.no (fun h=>Z HE (tW.1 h).2.1),Z B0⟩
 by_cases o2:op=2
 ·subst o2
  by_cases c:(decide (0<=n/\n<=49))=false
  ·as_aux_lemma =>
    go_enter Tryz.func90,Tryz.ntmps90
    go_wp2_with (go_at_call 124;refine (bZ _ _ _ _).mono ?_;rintro e w1 ⟨rfl,rfl⟩)
    go_ret
    exact ⟨bS.no (fun h=>by have:=((gN (.inl rfl)).1 h).1;simp_all<;>omega),Z B0⟩
  have c:(decide (0<=n/\n<=49))=true:=Bool.of_not_eq_false c
  by_cases e:name=ByteArray.empty
  ·subst e
   as_aux_lemma =>
    go_enter Tryz.func90,Tryz.ntmps90
    go_wp2_with (first | (go_at_call 124;refine (bZ _ _ _ _).mono ?_;rintro e w1 ⟨rfl,rfl⟩) | (go_at_call 137;refine (fA kd fn line sn _).mono ?_;rintro e w2 ⟨⟨b,rfl,hb⟩,hbl⟩;have HBL:=hT B0 hbl;have HBB:=O hb;clear hbl hb))
    go_ret
    exact ⟨⟨b,rfl,(Z HBB).trans ⟨fun h=>(gN (.inl rfl)).2 ⟨by simp_all<;>omega,rfl,h⟩,fun h=>((gN (.inl rfl)).1 h).2.2⟩⟩,Z HBL⟩
  have n1:¬ name.toList=[]:=fun q=>e ((toList_nil_iff_emptyBytes name).1 q)
  have n3:(name.toList == [])=false:=by simpa using n1
  have HE:=O e
  clear e
  as_aux_lemma =>
   go_enter Tryz.func90,Tryz.ntmps90
   go_wp2_with (go_at_call 124;refine (bZ _ _ _ _).mono ?_;rintro e w1 ⟨rfl,rfl⟩)
   go_ret
   exact ⟨bS.no (fun h=>Z HE ((gN (.inl rfl)).1 h).2.1),Z B0⟩
 by_cases o13:op=13
 ·subst o13
  by_cases c:(decide (0<=n/\n<=49))=false
  ·as_aux_lemma =>
    go_enter Tryz.func90,Tryz.ntmps90
    go_wp2_with (go_at_call 124;refine (bZ _ _ _ _).mono ?_;rintro e w1 ⟨rfl,rfl⟩)
    go_ret
    exact ⟨bS.no (fun h=>by have:=((gN (.inr rfl)).1 h).1;simp_all<;>omega),Z B0⟩
  have c:(decide (0<=n/\n<=49))=true:=Bool.of_not_eq_false c
  by_cases e:name=ByteArray.empty
  ·subst e
   as_aux_lemma =>
    go_enter Tryz.func90,Tryz.ntmps90
    go_wp2_with (first | (go_at_call 124;refine (bZ _ _ _ _).mono ?_;rintro e w1 ⟨rfl,rfl⟩) | (go_at_call 137;refine (fA kd fn line sn _).mono ?_;rintro e w2 ⟨⟨b,rfl,hb⟩,hbl⟩;have HBL:=hT B0 hbl;have HBB:=O hb;clear hbl hb))
    go_ret
    exact ⟨⟨b,rfl,(Z HBB).trans ⟨fun h=>(gN (.inr rfl)).2 ⟨by simp_all<;>omega,rfl,h⟩,fun h=>((gN (.inr rfl)).1 h).2.2⟩⟩,Z HBL⟩
  have n1:¬ name.toList=[]:=fun q=>e ((toList_nil_iff_emptyBytes name).1 q)
  have n3:(name.toList == [])=false:=by simpa using n1
  have HE:=O e
  clear e
  as_aux_lemma =>
   go_enter Tryz.func90,Tryz.ntmps90
   go_wp2_with (go_at_call 124;refine (bZ _ _ _ _).mono ?_;rintro e w1 ⟨rfl,rfl⟩)
   go_ret
   exact ⟨bS.no (fun h=>Z HE ((gN (.inr rfl)).1 h).2.1),Z B0⟩
 by_cases o3:op=3
 ·subst o3
  by_cases c:(n == 0)=false
  ·as_aux_lemma =>
    go_enter Tryz.func90,Tryz.ntmps90
    go_wp2
    go_ret
    exact ⟨bS.no (fun h=>by have:=((dC (.inl ⟨by omega,by omega⟩)).1 h).1;simp_all<;>omega),Z B0⟩
  have c:(n == 0)=true:=Bool.of_not_eq_false c
  by_cases e:name=ByteArray.empty
  ·subst e
   as_aux_lemma =>
    go_enter Tryz.func90,Tryz.ntmps90
    go_wp2_with (go_at_call 137;refine (fA kd fn line sn _).mono ?_;rintro e w2 ⟨⟨b,rfl,hb⟩,hbl⟩;have HBL:=hT B0 hbl;have HBB:=O hb;clear hbl hb)
    go_ret
    exact ⟨⟨b,rfl,(Z HBB).trans ⟨fun h=>(dC (.inl ⟨by omega,by omega⟩)).2 ⟨by simp_all<;>omega,rfl,h⟩,fun h=>((dC (.inl ⟨by omega,by omega⟩)).1 h).2.2⟩⟩,Z HBL⟩
  have n1:¬ name.toList=[]:=fun q=>e ((toList_nil_iff_emptyBytes name).1 q)
  have n3:(name.toList == [])=false:=by simpa using n1
  have HE:=O e
  clear e
  as_aux_lemma =>
   go_enter Tryz.func90,Tryz.ntmps90
   go_wp2
   go_ret
   exact ⟨bS.no (fun h=>Z HE ((dC (.inl ⟨by omega,by omega⟩)).1 h).2.1),Z B0⟩
 by_cases o4:op=4
 ·subst o4
  by_cases c:(n == 0)=false
  ·as_aux_lemma =>
    go_enter Tryz.func90,Tryz.ntmps90
    go_wp2
    go_ret
    exact ⟨bS.no (fun h=>by have:=((dC (.inl ⟨by omega,by omega⟩)).1 h).1;simp_all<;>omega),Z B0⟩
  have c:(n == 0)=true:=Bool.of_not_eq_false c
  by_cases e:name=ByteArray.empty
  ·subst e
   as_aux_lemma =>
    go_enter Tryz.func90,Tryz.ntmps90
    go_wp2_with (go_at_call 137;refine (fA kd fn line sn _).mono ?_;rintro e w2 ⟨⟨b,rfl,hb⟩,hbl⟩;have HBL:=hT B0 hbl;have HBB:=O hb;clear hbl hb)
    go_ret
    exact ⟨⟨b,rfl,(Z HBB).trans ⟨fun h=>(dC (.inl ⟨by omega,by omega⟩)).2 ⟨by simp_all<;>omega,rfl,h⟩,fun h=>((dC (.inl ⟨by omega,by omega⟩)).1 h).2.2⟩⟩,Z HBL⟩
  have n1:¬ name.toList=[]:=fun q=>e ((toList_nil_iff_emptyBytes name).1 q)
  have n3:(name.toList == [])=false:=by simpa using n1
  have HE:=O e
  clear e
  as_aux_lemma =>
   go_enter Tryz.func90,Tryz.ntmps90
   go_wp2
   go_ret
   exact ⟨bS.no (fun h=>Z HE ((dC (.inl ⟨by omega,by omega⟩)).1 h).2.1),Z B0⟩
 by_cases o5:op=5
 ·subst o5
  by_cases c:(n == 0)=false
  ·as_aux_lemma =>
    go_enter Tryz.func90,Tryz.ntmps90
    go_wp2
    go_ret
    exact ⟨bS.no (fun h=>by have:=((dC (.inl ⟨by omega,by omega⟩)).1 h).1;simp_all<;>omega),Z B0⟩
  have c:(n == 0)=true:=Bool.of_not_eq_false c
  by_cases e:name=ByteArray.empty
  ·subst e
   as_aux_lemma =>
    go_enter Tryz.func90,Tryz.ntmps90
    go_wp2_with (go_at_call 137;refine (fA kd fn line sn _).mono ?_;rintro e w2 ⟨⟨b,rfl,hb⟩,hbl⟩;have HBL:=hT B0 hbl;have HBB:=O hb;clear hbl hb)
    go_ret
    exact ⟨⟨b,rfl,(Z HBB).trans ⟨fun h=>(dC (.inl ⟨by omega,by omega⟩)).2 ⟨by simp_all<;>omega,rfl,h⟩,fun h=>((dC (.inl ⟨by omega,by omega⟩)).1 h).2.2⟩⟩,Z HBL⟩
  have n1:¬ name.toList=[]:=fun q=>e ((toList_nil_iff_emptyBytes name).1 q)
  have n3:(name.toList == [])=false:=by simpa using n1
  have HE:=O e
  clear e
  as_aux_lemma =>
   go_enter Tryz.func90,Tryz.ntmps90
   go_wp2
   go_ret
   exact ⟨bS.no (fun h=>Z HE ((dC (.inl ⟨by omega,by omega⟩)).1 h).2.1),Z B0⟩
 by_cases o6:op=6
 ·subst o6
  by_cases c:(n == 0)=false
  ·as_aux_lemma =>
    go_enter Tryz.func90,Tryz.ntmps90
    go_wp2
    go_ret
    exact ⟨bS.no (fun h=>by have:=((dC (.inl ⟨by omega,by omega⟩)).1 h).1;simp_all<;>omega),Z B0⟩
  have c:(n == 0)=true:=Bool.of_not_eq_false c
  by_cases e:name=ByteArray.empty
  ·subst e
   as_aux_lemma =>
    go_enter Tryz.func90,Tryz.ntmps90
    go_wp2_with (go_at_call 137;refine (fA kd fn line sn _).mono ?_;rintro e w2 ⟨⟨b,rfl,hb⟩,hbl⟩;have HBL:=hT B0 hbl;have HBB:=O hb;clear hbl hb)
    go_ret
    exact ⟨⟨b,rfl,(Z HBB).trans ⟨fun h=>(dC (.inl ⟨by omega,by omega⟩)).2 ⟨by simp_all<;>omega,rfl,h⟩,fun h=>((dC (.inl ⟨by omega,by omega⟩)).1 h).2.2⟩⟩,Z HBL⟩
  have n1:¬ name.toList=[]:=fun q=>e ((toList_nil_iff_emptyBytes name).1 q)
  have n3:(name.toList == [])=false:=by simpa using n1
  have HE:=O e
  clear e
  as_aux_lemma =>
   go_enter Tryz.func90,Tryz.ntmps90
   go_wp2
   go_ret
   exact ⟨bS.no (fun h=>Z HE ((dC (.inl ⟨by omega,by omega⟩)).1 h).2.1),Z B0⟩
 by_cases o7:op=7
 ·subst o7
  by_cases c:(n == 0)=false
  ·as_aux_lemma =>
    go_enter Tryz.func90,Tryz.ntmps90
    go_wp2
    go_ret
    exact ⟨bS.no (fun h=>by have:=((dC (.inl ⟨by omega,by omega⟩)).1 h).1;simp_all<;>omega),Z B0⟩
  have c:(n == 0)=true:=Bool.of_not_eq_false c
  by_cases e:name=ByteArray.empty
  ·subst e
   as_aux_lemma =>
    go_enter Tryz.func90,Tryz.ntmps90
    go_wp2_with (go_at_call 137;refine (fA kd fn line sn _).mono ?_;rintro e w2 ⟨⟨b,rfl,hb⟩,hbl⟩;have HBL:=hT B0 hbl;have HBB:=O hb;clear hbl hb)
    go_ret
    exact ⟨⟨b,rfl,(Z HBB).trans ⟨fun h=>(dC (.inl ⟨by omega,by omega⟩)).2 ⟨by simp_all<;>omega,rfl,h⟩,fun h=>((dC (.inl ⟨by omega,by omega⟩)).1 h).2.2⟩⟩,Z HBL⟩
  have n1:¬ name.toList=[]:=fun q=>e ((toList_nil_iff_emptyBytes name).1 q)
  have n3:(name.toList == [])=false:=by simpa using n1
  have HE:=O e
  clear e
  as_aux_lemma =>
   go_enter Tryz.func90,Tryz.ntmps90
   go_wp2
   go_ret
   exact ⟨bS.no (fun h=>Z HE ((dC (.inl ⟨by omega,by omega⟩)).1 h).2.1),Z B0⟩
 by_cases o8:op=8
 ·subst o8
  by_cases c:(n == 0)=false
  ·as_aux_lemma =>
    go_enter Tryz.func90,Tryz.ntmps90
    go_wp2
    go_ret
    exact ⟨bS.no (fun h=>by have:=((dC (.inl ⟨by omega,by omega⟩)).1 h).1;simp_all<;>omega),Z B0⟩
  have c:(n == 0)=true:=Bool.of_not_eq_false c
  by_cases e:name=ByteArray.empty
  ·subst e
   as_aux_lemma =>
    go_enter Tryz.func90,Tryz.ntmps90
    go_wp2_with (go_at_call 137;refine (fA kd fn line sn _).mono ?_;rintro e w2 ⟨⟨b,rfl,hb⟩,hbl⟩;have HBL:=hT B0 hbl;have HBB:=O hb;clear hbl hb)
    go_ret
    exact ⟨⟨b,rfl,(Z HBB).trans ⟨fun h=>(dC (.inl ⟨by omega,by omega⟩)).2 ⟨by simp_all<;>omega,rfl,h⟩,fun h=>((dC (.inl ⟨by omega,by omega⟩)).1 h).2.2⟩⟩,Z HBL⟩
  have n1:¬ name.toList=[]:=fun q=>e ((toList_nil_iff_emptyBytes name).1 q)
  have n3:(name.toList == [])=false:=by simpa using n1
  have HE:=O e
  clear e
  as_aux_lemma =>
   go_enter Tryz.func90,Tryz.ntmps90
   go_wp2
   go_ret
   exact ⟨bS.no (fun h=>Z HE ((dC (.inl ⟨by omega,by omega⟩)).1 h).2.1),Z B0⟩
 by_cases o11:op=11
 ·subst o11
  by_cases c:(n == 0)=false
  ·as_aux_lemma =>
    go_enter Tryz.func90,Tryz.ntmps90
    go_wp2
    go_ret
    exact ⟨bS.no (fun h=>by have:=((dC (.inr rfl)).1 h).1;simp_all<;>omega),Z B0⟩
  have c:(n == 0)=true:=Bool.of_not_eq_false c
  by_cases e:name=ByteArray.empty
  ·subst e
   as_aux_lemma =>
    go_enter Tryz.func90,Tryz.ntmps90
    go_wp2_with (go_at_call 137;refine (fA kd fn line sn _).mono ?_;rintro e w2 ⟨⟨b,rfl,hb⟩,hbl⟩;have HBL:=hT B0 hbl;have HBB:=O hb;clear hbl hb)
    go_ret
    exact ⟨⟨b,rfl,(Z HBB).trans ⟨fun h=>(dC (.inr rfl)).2 ⟨by simp_all<;>omega,rfl,h⟩,fun h=>((dC (.inr rfl)).1 h).2.2⟩⟩,Z HBL⟩
  have n1:¬ name.toList=[]:=fun q=>e ((toList_nil_iff_emptyBytes name).1 q)
  have n3:(name.toList == [])=false:=by simpa using n1
  have HE:=O e
  clear e
  as_aux_lemma =>
   go_enter Tryz.func90,Tryz.ntmps90
   go_wp2
   go_ret
   exact ⟨bS.no (fun h=>Z HE ((dC (.inr rfl)).1 h).2.1),Z B0⟩
 by_cases o9:op=9
 ·subst o9
  by_cases c:(decide (-1<=n/\n<=3000))=false
  ·as_aux_lemma =>
    go_enter Tryz.func90,Tryz.ntmps90
    go_wp2_with (go_at_call 124;refine (bZ _ _ _ _).mono ?_;rintro e w1 ⟨rfl,rfl⟩)
    go_ret
    exact ⟨bS.no (fun h=>by have:=(zP.1 h).1;simp_all<;>omega),Z B0⟩
  have c:(decide (-1<=n/\n<=3000))=true:=Bool.of_not_eq_false c
  by_cases e:name=ByteArray.empty
  ·subst e
   as_aux_lemma =>
    go_enter Tryz.func90,Tryz.ntmps90
    go_wp2_with (first | (go_at_call 124;refine (bZ _ _ _ _).mono ?_;rintro e w1 ⟨rfl,rfl⟩) | (go_at_call 137;refine (fA kd fn line sn _).mono ?_;rintro e w2 ⟨⟨b,rfl,hb⟩,hbl⟩;have HBL:=hT B0 hbl;have HBB:=O hb;clear hbl hb))
    go_ret
    exact ⟨⟨b,rfl,(Z HBB).trans ⟨fun h=>zP.2 ⟨by simp_all<;>omega,rfl,h⟩,fun h=>(zP.1 h).2.2⟩⟩,Z HBL⟩
  have n1:¬ name.toList=[]:=fun q=>e ((toList_nil_iff_emptyBytes name).1 q)
  have n3:(name.toList == [])=false:=by simpa using n1
  have HE:=O e
  clear e
  as_aux_lemma =>
   go_enter Tryz.func90,Tryz.ntmps90
   go_wp2_with (go_at_call 124;refine (bZ _ _ _ _).mono ?_;rintro e w1 ⟨rfl,rfl⟩)
   go_ret
   exact ⟨bS.no (fun h=>Z HE (zP.1 h).2.1),Z B0⟩
 by_cases o10:op=10
 ·subst o10
  by_cases c:(decide (0<=n/\n<=100))=false
  ·as_aux_lemma =>
    go_enter Tryz.func90,Tryz.ntmps90
    go_wp2_with (go_at_call 124;refine (bZ _ _ _ _).mono ?_;rintro e w1 ⟨rfl,rfl⟩)
    go_ret
    exact ⟨bS.no (fun h=>by have:=(mX.1 h).1;simp_all<;>omega),Z B0⟩
  have c:(decide (0<=n/\n<=100))=true:=Bool.of_not_eq_false c
  by_cases e:name=ByteArray.empty
  ·subst e
   as_aux_lemma =>
    go_enter Tryz.func90,Tryz.ntmps90
    go_wp2_with (first | (go_at_call 124;refine (bZ _ _ _ _).mono ?_;rintro e w1 ⟨rfl,rfl⟩) | (go_at_call 137;refine (fA kd fn line sn _).mono ?_;rintro e w2 ⟨⟨b,rfl,hb⟩,hbl⟩;have HBL:=hT B0 hbl;have HBB:=O hb;clear hbl hb))
    go_ret
    exact ⟨⟨b,rfl,(Z HBB).trans ⟨fun h=>mX.2 ⟨by simp_all<;>omega,rfl,h⟩,fun h=>(mX.1 h).2.2⟩⟩,Z HBL⟩
  have n1:¬ name.toList=[]:=fun q=>e ((toList_nil_iff_emptyBytes name).1 q)
  have n3:(name.toList == [])=false:=by simpa using n1
  have HE:=O e
  clear e
  as_aux_lemma =>
   go_enter Tryz.func90,Tryz.ntmps90
   go_wp2_with (go_at_call 124;refine (bZ _ _ _ _).mono ?_;rintro e w1 ⟨rfl,rfl⟩)
   go_ret
   exact ⟨bS.no (fun h=>Z HE (mX.1 h).2.1),Z B0⟩
 by_cases o12:op=12
 ·subst o12
  by_cases c:(n == 0)=false
  ·as_aux_lemma =>
    go_enter Tryz.func90,Tryz.ntmps90
    go_wp2
    go_ret
    exact ⟨bS.no (fun h=>by have:=(rR.1 h).1;simp_all),Z B0⟩
  have c:(n == 0)=true:=Bool.of_not_eq_false c
  by_cases s1:(decide (0<name.size))=false
  ·as_aux_lemma =>
    go_enter Tryz.func90,Tryz.ntmps90
    go_wp2
    go_ret
    exact ⟨bS.no (fun h=>by have:=(rR.1 h).2.1.1;have:=of_decide_eq_false s1;omega),Z B0⟩
  have s1:(decide (0<name.size))=true:=Bool.of_not_eq_false s1
  by_cases s2:(decide ((name.size:Int)<=40))=false
  ·as_aux_lemma =>
    go_enter Tryz.func90,Tryz.ntmps90
    go_wp2
    go_ret
    exact ⟨bS.no (fun h=>by have:=(rR.1 h).2.1.2;have:=of_decide_eq_false s2;omega),Z B0⟩
  have s2:(decide ((name.size:Int)<=40))=true:=Bool.of_not_eq_false s2
  as_aux_lemma =>
   go_enter Tryz.func90,Tryz.ntmps90
   go_wp2_with (go_at_call 137;refine (fA kd fn line sn _).mono ?_;rintro e w2 ⟨⟨b,rfl,hb⟩,hbl⟩;have HBL:=hT B0 hbl;have HBB:=O hb;clear hbl hb)
   go_ret
   exact ⟨⟨b,rfl,(Z HBB).trans ⟨fun h=>rR.2 ⟨eq_of_beq c,⟨by have:=of_decide_eq_true s1;omega,by have:=of_decide_eq_true s2;omega⟩,h⟩,fun h=>(rR.1 h).2.2⟩⟩,Z HBL⟩
 have q1:(op == 1)=false:=by simpa using o1
 have q2:(op == 2)=false:=by simpa using o2
 have q3:(op == 3)=false:=by simpa using o3
 have q4:(op == 4)=false:=by simpa using o4
 have q5:(op == 5)=false:=by simpa using o5
 have q6:(op == 6)=false:=by simpa using o6
 have q7:(op == 7)=false:=by simpa using o7
 have q8:(op == 8)=false:=by simpa using o8
 have q9:(op == 9)=false:=by simpa using o9
 have q10:(op == 10)=false:=by simpa using o10
 have q11:(op == 11)=false:=by simpa using o11
 have q12:(op == 12)=false:=by simpa using o12
 have q13:(op == 13)=false:=by simpa using o13
 have hno:op<1∨13<op:=by omega
 as_aux_lemma =>
  go_enter Tryz.func90,Tryz.ntmps90
  go_wp2
  go_ret
  exact ⟨bS.no (okAskNo hno),Z B0⟩
section
theorem cJ {w:World} {b:Nat} {o:Obj} (h:w.heap[b]?=some o):b<w.heap.size:=(Array.getElem?_eq_some_iff.1 h).1
theorem info_intx:(Tryz.prog.info? 3).map (fun i=>(i.zero,i.size,i.bytes))=some (some (.int .i64 0),1,8):=by kernel_rfl
def bM (P:TypeId->Prop) (w w':World):Prop:=∀ (b:Nat) (cs:Array Value) (t:TypeId) (fr:Nat × Nat),w.heap[b]?=some (.cells cs t fr)->P t->w'.heap[b]?=some (.cells cs t fr)
theorem bM.trans {P:TypeId->Prop} {a b c:World} (h:bM P a b) (k:bM P b c):bM P a c:=fun i cs t fr hh hp=>k i cs t fr (h i cs t fr hh hp) hp
theorem bM.mono {P Q:TypeId->Prop} {a b:World} (h:bM P a b) (hq:∀ t,Q t->P t):bM Q a b:=fun i cs t fr hh hp=>h i cs t fr hh (hq t hp)
theorem bM.of_below {P:TypeId->Prop} {w w':World} (h:Below w.heap.size w w'):bM P w w':=fun b _ _ _ hh _=>(h.block b (cJ hh)).trans hh
theorem bM.set {P:TypeId->Prop} {w:World} {q i:Nat} {u:Value} {cs:Array Value} {t:TypeId} {fr:Nat × Nat} (hq:w.heap[q]?=some (.cells cs t fr)) (hp:¬ P t):bM P w (w.setCell ⟨q,i,none⟩ u):=fun b cs' t' fr' hh hp'=>by
 rw [heap_setCell_other _ _ _ _ (fun e=>by
  have e':b=q:=e
  subst e'
  rw [hh] at hq
  cases hq
  exact hp hp')]
 exact hh
theorem eM {w:World} {B:Nat} {e:TypeId} {z:Nat} {v:Value} {n:Nat} {xs:List Value} (h:w.ownsRow B e z v n xs):∀ g,v.ownBlock=some g->B<=g/\∃ cs,w.heap[g]?=some (.cells cs e (0,0)):=by
 intro g hg
 rcases h.2 with ⟨hv,_⟩ | ⟨g',cap,cur,hv,hB,hh,_⟩
 ·rw [hv] at hg;cases hg
 rw [hv] at hg
 cases hg
 exact ⟨hB,cur,hh⟩
theorem bM.grown {P:TypeId->Prop} {w w':World} {B:Nat} {e:TypeId} {z:Nat} {v:Value} {n:Nat} {xs:List Value} (h:w.ownsRow B e z v n xs) (hg:w.grownBy w' v.ownBlock) (hp:¬ P e):bM P w w':=fun b cs t fr hh hp'=>by
 rw [hg.block b (cJ hh) (fun q=>by
  obtain ⟨_,cs',h'⟩:=eM h b q.symm
  rw [hh] at h'
  cases h'
  exact hp hp')]
 exact hh
theorem cK {P:TypeId->Prop} {w w':World} {B:Nat} {e:TypeId} {z:Nat} {v:Value} {n:Nat} {xs:List Value} (h:w.ownsRow B e z v n xs) (hs:bM P w w') (hp:P e):w'.ownsRow B e z v n xs:=by
 refine ⟨h.1,?_⟩
 rcases h.2 with hn | ⟨g,cap,cur,hv,hB,hg,rest⟩
 ·exact .inl hn
 exact .inr ⟨g,cap,cur,hv,hB,hs g cur e _ hg hp,rest⟩
theorem fR.same {P:TypeId->Prop} {B:Nat} {w w':World} {hv:Value} {ns n:Nat} {f:Nat->M} {ss:Nat->Sp} (h:fR B w hv ns n f ss) (hs:bM P w w') (h1:P 157) (h2:P 4):fR B w' hv ns n f ss:=by
 obtain ⟨bs,r,k⟩:=h
 refine ⟨bs,cK r hs h1,fun i hi=>?_⟩
 obtain ⟨⟨cs,hb⟩,hc⟩:=k i hi
 exact eX.of_block ⟨⟨cs,hb⟩,hc⟩ ((hs _ _ _ _ hb h2).trans hb.symm)
def dX (t:TypeId):Prop:=t≠82/\t≠157/\t≠3
structure SL (B:Nat) (W:World) (lb:Nat) (v1 v2:Value) (n:Nat) (f:Nat->M) (s:LS) (hv pv:Value):Prop where
 box:W.heap[lb]?=some (.cells #[v1,v2,.int .i64 s.at_,hv,pv] 82 (0,0))
 hits:fR B W hv s.stops.length n f s.ss
 past:W.ownsRow B 3 1 pv s.past.length (s.past.map (Value.int .i64))
 lbB:B<=lb
section
variable {B lb n:Nat} {W W':World} {v1 v2 hv pv:Value} {f:Nat->M} {s:LS}
theorem SL.lt (h:SL B W lb v1 v2 n f s hv pv):lb<W.heap.size:=cJ h.box
theorem SL.c0 (h:SL B W lb v1 v2 n f s hv pv):W.cell? ⟨lb,0,none⟩=some v1:=by rw [cell_of_row W _ 0 _ _ _ h.box];rfl
theorem SL.c1 (h:SL B W lb v1 v2 n f s hv pv):W.cell? ⟨lb,1,none⟩=some v2:=by rw [cell_of_row W _ 1 _ _ _ h.box];rfl
theorem SL.c2 (h:SL B W lb v1 v2 n f s hv pv):W.cell? ⟨lb,2,none⟩=some (.int .i64 s.at_):=by rw [cell_of_row W _ 2 _ _ _ h.box];rfl
theorem SL.c3 (h:SL B W lb v1 v2 n f s hv pv):W.cell? ⟨lb,3,none⟩=some hv:=by rw [cell_of_row W _ 3 _ _ _ h.box];rfl
theorem SL.c4 (h:SL B W lb v1 v2 n f s hv pv):W.cell? ⟨lb,4,none⟩=some pv:=by rw [cell_of_row W _ 4 _ _ _ h.box];rfl
theorem SL.fz (h:SL B W lb v1 v2 n f s hv pv) (i:Nat):W.frozen? ⟨lb,i,none⟩=false:=frozen_of_row _ _ _ _ _ h.box
theorem SL.below (h:SL B W lb v1 v2 n f s hv pv) (hb:Below W.heap.size W W'):SL B W' lb v1 v2 n f s hv pv :=
 ⟨(hb.block _ h.lt).trans h.box,h.hits.below hb,bN h.past hb,h.lbB⟩
theorem SL.hslice (h:SL B W lb v1 v2 n f s hv pv):∃ a cap,hv=.slice a s.stops.length cap:=by obtain ⟨bs,r,_⟩:=h.hits;exact bR r
theorem SL.pslice (h:SL B W lb v1 v2 n f s hv pv):∃ a cap,pv=.slice a s.past.length cap:=bR h.past
theorem SL.setAt (h:SL B W lb v1 v2 n f s hv pv) (z:Int):SL B (W.setCell ⟨lb,2,none⟩ (.int .i64 z)) lb v1 v2 n f ⟨z,s.stops,s.past⟩ hv pv:=by
 have hs:bM (fun t=>t≠82) W (W.setCell ⟨lb,2,none⟩ (.int .i64 z)):=bM.set h.box (fun q=>q rfl)
 exact ⟨by simp [World.setCell,Array.getElem?_modify,h.box],h.hits.same hs (by decide) (by decide),cK h.past hs (by decide),h.lbB⟩
theorem SL.setPast (h:SL B W lb v1 v2 n f s hv pv) {pv':Value} {p:List Int} (ho:W.ownsRow B 3 1 pv' p.length (p.map (Value.int .i64))):SL B (W.setCell ⟨lb,4,none⟩ pv') lb v1 v2 n f ⟨s.at_,s.stops,p⟩ hv pv':=by
 have hs:bM (fun t=>t≠82) W (W.setCell ⟨lb,4,none⟩ pv'):=bM.set h.box (fun q=>q rfl)
 exact ⟨by simp [World.setCell,Array.getElem?_modify,h.box],h.hits.same hs (by decide) (by decide),cK ho hs (by decide),h.lbB⟩
theorem SL.setHits (h:SL B W lb v1 v2 n f s hv pv) {hv':Value} {q:List Sp} (ho:fR B W hv' q.length n f (LS.ss ⟨s.at_,q,s.past⟩)):SL B (W.setCell ⟨lb,3,none⟩ hv') lb v1 v2 n f ⟨s.at_,q,s.past⟩ hv' pv:=by
 have hs:bM (fun t=>t≠82) W (W.setCell ⟨lb,3,none⟩ hv'):=bM.set h.box (fun q=>q rfl)
 exact ⟨by simp [World.setCell,Array.getElem?_modify,h.box],fR.same ho hs (by decide) (by decide),cK h.past hs (by decide),h.lbB⟩
theorem SL.grownPast {W1:World} (h:SL B W lb v1 v2 n f s hv pv) (hb:Below W.heap.size W W1) (hg:W1.grownBy W' pv.ownBlock) (hB:B<=W.heap.size) :
  W'.heap[lb]?=some (.cells #[v1,v2,.int .i64 s.at_,hv,pv] 82 (0,0))/\fR B W' hv s.stops.length n f s.ss/\bM dX W W'/\Below B W W':=by
 have ha:=bN h.past hb
 have h1:bM (fun t=>t≠3) W1 W':=bM.grown ha hg (fun q=>q rfl)
 have h0:∀ P,bM P W W1:=fun P=>bM.of_below hb
 exact ⟨h1 _ _ _ _ (h0 (fun _=>True) _ _ _ _ h.box trivial) (by decide),(h.hits.below hb).same h1 (by decide) (by decide),(h0 _).trans (h1.mono (fun t q=>q.2.2)),(hb.mono hB).grown hg (Nat.le_trans hB hb.size) (fun b e=>(eM ha b e).1)⟩
end
theorem dX.no:¬ dX 82:=fun h=>h.1 rfl
theorem mT (B lb:Nat) (v1 v2 hv pv:Value) (n:Nat) (f:Nat->M) (s:LS) (z:Int) (w:World) (h:SL B w lb v1 v2 n f s hv pv) (hp:s.past.length<=100000) (hB:B<=w.heap.size) :
  Calls Tryz.prog 92 #[.pointer (some ⟨lb,0,none⟩),.int .i64 z] w fun e w'=>e=.returned (.tuple #[])/\(∃ pv',SL B w' lb v1 v2 n f ⟨z,s.stops,s.past ++ [s.at_]⟩ hv pv')/\Below B w w'/\bM dX w w':=by
 have H:=O h
 obtain ⟨pa,pc,rfl⟩:=h.pslice
 obtain ⟨m,hm⟩:∃ m,m=s.past.length:=⟨_,rfl⟩
 rw [<- hm] at H hp
 have HM:=O hm
 obtain ⟨i0,hi0,hz0,hz1,hz2⟩:=info_parts info_intx
 have II:=O (And.intro hi0 (And.intro hz0 (And.intro hz1 hz2)));clear hi0 hz0 hz1 hz2
 have HSS:Hid (∀ W,Below w.heap.size w W->W.cell? ⟨lb,2,none⟩=some (.int .i64 s.at_)):=O (fun W hb=>bG hb (Z H).c2)
 have HC4:Hid (∀ W,Below w.heap.size w W->W.cell? ⟨lb,4,none⟩=some (.slice pa m pc)):=O (fun W hb=>bG hb (Z H).c4)
 clear h hm
 obtain ⟨k,hk⟩:∃ k,k=s.at_:=⟨_,rfl⟩
 rw [<- hk] at HSS
 have HK:=O hk
 clear hk
 go_enter Tryz.func92,Tryz.ntmps92
 go_upto_region 0 with fail
 refine wp_region_held_drew (S:=fun W=>W.cell? ⟨lb,2,none⟩=some (.int .i64 k)) (by kernel_rfl) (Z HSS _ (Below.refl _ _).drew) (fun hHeld=>?_)
 refine tka 0 4 hHeld ?_
 refine tka 1 5 hHeld ?_
 refine tka 2 6 hHeld ?_
 refine tka 3 7 hHeld ?_
 refine tka 5 9 hHeld ?_
 refine tka 6 10 hHeld ?_
 refine tka 7 11 hHeld ?_
 refine tka 8 12 hHeld ?_
 have HB0:=O ((Below.refl w.heap.size w).drew)
 have HB1:Hid (Below w.heap.size w (w.alloc (.cells #[.int .i64 k] 3)).drew):=O (bH w (.cells #[.int .i64 k] 3)).drew
 refine wpAnyH_ready (rs:=[4,9]) (by kernel_rfl) (by simp) ?_
 refine AllReadyH.cons rfl (fun KK hK=>?_) (AllReadyH.cons rfl (fun KK hK=>?_) AllReadyH.nil)
 ·have q4:=Z HC4 _ (Z HB0)
  go_simp
  refine hK.out _ _ (Z HSS _ (Z HB0)) (fun hHeld=>?_)
  clear hK KK q4
  try simp only [Act.put,sy]
  refine rdy 9 fun KK hK=>?_
  go_simp
  refine hK.out _ _ (Z HSS _ (Z HB1)) (fun hHeld=>?_)
  clear hK KK
  try simp only [Act.put,sy]
  have hrw:=bN (Z H).past (Z HB1)
  rw [<- Z HM] at hrw
  refine rdy 10 fun KK hK=>?_
  refine step_append_lies _ (by rfl) _ _ _ (by rfl) B 3 i0 _ 1 8 Tryz.underlying80 (Z II).1 (Z II).2.1 (Z II).2.2.1 (Z II).2.2.2 rfl (by omega) (.slice pa m pc) m (s.past.map (Value.int .i64)) (by rfl) hrw
   ⟨w.heap.size,0,none⟩ 1 1 [.int .i64 k] (by rfl) (by rfl) (World.news_of_block (cs:=#[.int .i64 k]) (t:=3) (fr:=(0,0)) (heap_alloc_new w _)) (by simp [Value.oneCell'])
   (by omega) (by unfold maxLen;omega) (by omega) (by have:=(Z HB1).size;omega) _ rfl ?_
  intro g2 cp2 w7 hown hgrow _ _
  obtain ⟨hq,hh,hs,hbl⟩:=(Z H).grownPast (Z HB1) hgrow hB
  have HL:Hid (SL B (w7.setCell ⟨lb,4,none⟩ (.slice (some ⟨g2,0,none⟩) (m+1) cp2)) lb v1 v2 n f ⟨s.at_,s.stops,s.past ++ [s.at_]⟩ hv (.slice (some ⟨g2,0,none⟩) (m+1) cp2)):=O (by
   have e:(s.past ++ [s.at_]).length=m+1:=by rw [List.length_append,<- Z HM];rfl
   have hs7:bM (fun t=>t≠82) w7 (w7.setCell ⟨lb,4,none⟩ (.slice (some ⟨g2,0,none⟩) (m+1) cp2)):=bM.set hq (fun q=>q rfl)
   refine ⟨by simp [World.setCell,Array.getElem?_modify,hq],fR.same hh hs7 (by decide) (by decide),cK (P:=fun t=>t≠82) ?_ hs7 (by decide),(Z H).lbB⟩
   show w7.ownsRow B 3 1 (.slice (some ⟨g2,0,none⟩) (m+1) cp2) (s.past ++ [s.at_]).length ((s.past ++ [s.at_]).map (Value.int .i64))
   rw [e,List.map_append,<- Z HK]
   exact hown)
  have HQ:=O hq
  have HSA:Hid (bM dX w (w7.setCell ⟨lb,4,none⟩ (.slice (some ⟨g2,0,none⟩) (m+1) cp2))):=O (hs.trans (bM.set hq dX.no))
  have HBL:Hid (Below B w (w7.setCell ⟨lb,4,none⟩ (.slice (some ⟨g2,0,none⟩) (m+1) cp2))):=O (hbl.setCell (p:=⟨lb,4,none⟩) (Z H).lbB _)
  clear hown hgrow hq hh hs hbl hrw
  have c2:w7.cell? ⟨lb,2,none⟩=some (.int .i64 k):=by rw [cell_of_row w7 _ 2 _ _ _ (Z HQ),Z HK];rfl
  have c4:w7.cell? ⟨lb,4,none⟩=some (.slice pa m pc):=by rw [cell_of_row w7 _ 4 _ _ _ (Z HQ)];rfl
  have f4:w7.frozen? ⟨lb,4,none⟩=false:=frozen_of_row _ _ _ _ _ (Z HQ)
  refine hK.out _ _ c2 (fun hHeld=>?_)
  clear hK KK
  try simp only [Act.put,sy]
  refine tka 11 15 hHeld ?_
  refine tka 12 16 hHeld ?_
  refine rdy 13 fun KK hK=>?_
  go_simp
  have d2:=(Z HL).c2
  have g2':=(Z HL).fz 2
  refine hK.out _ _ (d2.trans (by rw [Z HK])) (fun hHeld=>?_)
  clear hK KK hHeld c2 c4 f4
  try simp only [Act.put,sy]
  refine wpAnyH_done (by kernel_rfl) ?_ _
  go_wp2
  go_end0
  exact ⟨rfl,⟨_,(Z HL).setAt z⟩,(Z HBL).setCell (p:=⟨lb,2,none⟩) (Z H).lbB _,(Z HSA).trans (bM.set (Z HL).box dX.no)⟩
 go_simp
 refine hK.out _ _ (Z HSS _ (Z HB1)) (fun hHeld=>?_)
 clear hK KK
 try simp only [Act.put,sy]
 refine rdy 4 fun KK hK=>?_
 have q4:=Z HC4 _ (Z HB1)
 go_simp
 refine hK.out _ _ (Z HSS _ (Z HB1)) (fun hHeld=>?_)
 clear hK KK q4
 try simp only [Act.put,sy]
 have hrw:=bN (Z H).past (Z HB1)
 rw [<- Z HM] at hrw
 refine rdy 10 fun KK hK=>?_
 refine step_append_lies _ (by rfl) _ _ _ (by rfl) B 3 i0 _ 1 8 Tryz.underlying80 (Z II).1 (Z II).2.1 (Z II).2.2.1 (Z II).2.2.2 rfl (by omega) (.slice pa m pc) m (s.past.map (Value.int .i64)) (by rfl) hrw
  ⟨w.heap.size,0,none⟩ 1 1 [.int .i64 k] (by rfl) (by rfl) (World.news_of_block (cs:=#[.int .i64 k]) (t:=3) (fr:=(0,0)) (heap_alloc_new w _)) (by simp [Value.oneCell'])
  (by omega) (by unfold maxLen;omega) (by omega) (by have:=(Z HB1).size;omega) _ rfl ?_
 intro g2 cp2 w7 hown hgrow _ _
 obtain ⟨hq,hh,hs,hbl⟩:=(Z H).grownPast (Z HB1) hgrow hB
 have HL:Hid (SL B (w7.setCell ⟨lb,4,none⟩ (.slice (some ⟨g2,0,none⟩) (m+1) cp2)) lb v1 v2 n f ⟨s.at_,s.stops,s.past ++ [s.at_]⟩ hv (.slice (some ⟨g2,0,none⟩) (m+1) cp2)):=O (by
  have e:(s.past ++ [s.at_]).length=m+1:=by rw [List.length_append,<- Z HM];rfl
  have hs7:bM (fun t=>t≠82) w7 (w7.setCell ⟨lb,4,none⟩ (.slice (some ⟨g2,0,none⟩) (m+1) cp2)):=bM.set hq (fun q=>q rfl)
  refine ⟨by simp [World.setCell,Array.getElem?_modify,hq],fR.same hh hs7 (by decide) (by decide),cK (P:=fun t=>t≠82) ?_ hs7 (by decide),(Z H).lbB⟩
  show w7.ownsRow B 3 1 (.slice (some ⟨g2,0,none⟩) (m+1) cp2) (s.past ++ [s.at_]).length ((s.past ++ [s.at_]).map (Value.int .i64))
  rw [e,List.map_append,<- Z HK]
  exact hown)
 have HQ:=O hq
 have HSA:Hid (bM dX w (w7.setCell ⟨lb,4,none⟩ (.slice (some ⟨g2,0,none⟩) (m+1) cp2))):=O (hs.trans (bM.set hq dX.no))
 have HBL:Hid (Below B w (w7.setCell ⟨lb,4,none⟩ (.slice (some ⟨g2,0,none⟩) (m+1) cp2))):=O (hbl.setCell (p:=⟨lb,4,none⟩) (Z H).lbB _)
 clear hown hgrow hq hh hs hbl hrw
 have c2:w7.cell? ⟨lb,2,none⟩=some (.int .i64 k):=by rw [cell_of_row w7 _ 2 _ _ _ (Z HQ),Z HK];rfl
 have c4:w7.cell? ⟨lb,4,none⟩=some (.slice pa m pc):=by rw [cell_of_row w7 _ 4 _ _ _ (Z HQ)];rfl
 have f4:w7.frozen? ⟨lb,4,none⟩=false:=frozen_of_row _ _ _ _ _ (Z HQ)
 refine hK.out _ _ c2 (fun hHeld=>?_)
 clear hK KK
 try simp only [Act.put,sy]
 refine tka 11 15 hHeld ?_
 refine tka 12 16 hHeld ?_
 refine rdy 13 fun KK hK=>?_
 go_simp
 have d2:=(Z HL).c2
 have g2':=(Z HL).fz 2
 refine hK.out _ _ (d2.trans (by rw [Z HK])) (fun hHeld=>?_)
 clear hK KK hHeld c2 c4 f4
 try simp only [Act.put,sy]
 refine wpAnyH_done (by kernel_rfl) ?_ _
 go_wp2
 go_end0
 exact ⟨rfl,⟨_,(Z HL).setAt z⟩,(Z HBL).setCell (p:=⟨lb,2,none⟩) (Z H).lbB _,(Z HSA).trans (bM.set (Z HL).box dX.no)⟩
end
def fJ (l:List V):List Value:=l.flatMap fun x=>[.string x.name,.string x.text]
theorem vCells_app (l:List V) (x:V):fJ (l ++ [x])=fJ l ++ [.string x.name,.string x.text]:=by simp [fJ]
theorem bH2 (l:List V):(fJ l).length=l.length*2:=by
 induction l with
 | nil=>rfl
 | cons x l ih =>
  show ([Value.string x.name,.string x.text] ++ fJ l).length=(l.length+1)*2
  rw [List.length_append,ih]
  show 2+_=_
  omega
theorem rS:∀ (l:List V) (i:Nat) (h:i<l.length),(fJ l)[i*2]?=some (.string l[i].name)/\(fJ l)[i*2+1]?=some (.string l[i].text)
 | x :: r,0,_=>⟨rfl,rfl⟩
 | x :: r,i+1,h=>by
  have ih:=rS r i (by simpa using h)
  have e:fJ (x :: r)=.string x.name :: .string x.text :: fJ r:=rfl
  rw [e,show (i+1)*2=i*2+1+1 by omega]
  simpa only [List.getElem?_cons_succ,sx5] using ih
structure dD (B:Nat) (w:World) (v:Value) (l:List V):Prop where
 row:w.ownsRow B 40 2 v l.length (fJ l)
 sz:∀ x,x∈l->x.name.size<=maxLen/\x.text.size<=maxLen
theorem dD.nil (B:Nat) (w:World):dD B w (.slice none 0 0) []:=⟨World.ownsRow_nil _ _ _ _,fun x h=>by cases h⟩
theorem dD.below {B:Nat} {w w':World} {v:Value} {l:List V} (h:dD B w v l) (hb:Below w.heap.size w w'):dD B w' v l:=⟨bN h.row hb,h.sz⟩
theorem dD.low {B B':Nat} {w:World} {v:Value} {l:List V} (h:dD B w v l) (hb:B'<=B):dD B' w v l:=⟨eD h.row hb,h.sz⟩
theorem dD.same {P:TypeId->Prop} {B:Nat} {w w':World} {v:Value} {l:List V} (h:dD B w v l) (hs:bM P w w') (hp:P 40):dD B w' v l:=⟨cK h.row hs hp,h.sz⟩
theorem pE {w:World} {B:Nat} {e:TypeId} {z:Nat} {v:Value} {n:Nat} {xs:List Value} (h:w.ownsRow B e z v n xs) (hn:n≠0):∃ g cap,v=.slice (some ⟨g,0,none⟩) n cap/\B<=g/\cap<=maxLen/\n<=cap:=by
 rcases h.2 with ⟨_,h0⟩ | ⟨g,cap,cur,hv,hB,_,h1,h2,_⟩
 ·exact absurd h0 hn
 exact ⟨g,cap,hv,hB,h2,h1⟩
theorem dD.vars {B:Nat} {w:World} {v:Value} {l:List V} (h:dD B w v l):fN B w v l.length (fun i=>l.getD i ⟨ByteArray.empty,ByteArray.empty⟩):=by
 obtain ⟨a,cap,rfl⟩:=bR h.row
 refine ⟨a,cap,rfl,?_,fun i hi=>?_⟩
 ·by_cases h0:l.length=0
  ·omega
  obtain ⟨g,cap',e,_,h1,h2⟩:=pE h.row h0
  omega
 obtain ⟨g,cap',e,hB,_⟩:=pE h.row (by omega)
 cases e
 obtain ⟨e0,e1⟩:=rS l i hi
 obtain ⟨c0,f0⟩:=bL h.row _ _ e0
 obtain ⟨c1,f1⟩:=bL h.row _ _ e1
 obtain ⟨z0,z1⟩:=h.sz l[i] (List.getElem_mem hi)
 have eg:l.getD i ⟨ByteArray.empty,ByteArray.empty⟩=l[i]:=by rw [List.getD_eq_getElem?_getD,List.getElem?_eq_getElem hi];rfl
 refine ⟨g,0,rfl,?_,?_,?_,?_,⟨hB,fun _=>?_⟩,⟨hB,fun _=>?_⟩⟩
 ·dsimp only;rw [Nat.zero_add,eg];exact c0
 ·dsimp only;rw [Nat.zero_add,eg];exact c1
 ·dsimp only;rw [eg];exact z0
 ·dsimp only;rw [eg];exact z1
 ·rw [Nat.zero_add];exact f0
 rw [Nat.zero_add];exact f1
def qR (f:Nat->M) (k:Int) (q:Nat):List V:=(List.range q).map (gS f k)
theorem upVars_len (f:Nat->M) (k:Int) (q:Nat):(qR f k q).length=q:=by simp [qR]
theorem upVars_succ (f:Nat->M) (k:Int) (q:Nat):qR f k (q+1)=qR f k q ++ [gS f k q]:=by simp [qR,List.range_succ]
theorem bH3 (B lb lo:Nat) (v1 v2 hv pv:Value) (n:Nat) (f:Nat->M) (s:LS) (w:World) (h:SL B w lb v1 v2 n f s hv pv) (h2:bQ lo w v2 n f) (hnv:∀ i,i<n->(f i).nv<=1000) (h0:-1<=s.at_) (h1:s.at_<=n) :
  Calls Tryz.prog 99 #[.pointer (some ⟨lb,0,none⟩)] w fun e w'=>(∃ v,e=.returned v/\dD w.heap.size w' v (eZ n f s.at_))/\Below w.heap.size w w':=by
 have HNV:=O hnv
 clear hnv
 obtain ⟨a2,cap2,rfl,hn2,hmo⟩:=h2
 unfold maxLen at hn2
 have HMO:=O hmo
 have c1:=h.c1
 have c2:=h.c2
 clear h hmo
 obtain ⟨k,hk⟩:∃ k,k=s.at_:=⟨_,rfl⟩
 rw [<- hk] at c2 h0 h1
 have HK:=O hk
 clear hk
 by_cases hneg:k<0
 ·have g0:decide (0<=k)=false:=by simpa using hneg
  have g0':¬ (0<=k):=by omega
  have ev:eZ n f s.at_=[]:=by
   have:jW n f s.at_=0:=by unfold jW;rw [if_neg (by rw [<- Z HK];omega)]
   unfold eZ;rw [this];rfl
  have EV:=O ev
  clear ev
  go_enter Tryz.func99,Tryz.ntmps99
  go_upto_region 2 with fail
  go_quiet (fail)
  go_wp2
  go_ret
  exact ⟨⟨_,rfl,by rw [Z EV];exact dD.nil _ _⟩,below_drewN (Below.refl _ _) _⟩
 by_cases hbig:(n:Int)<=k
 ·have g0:(0:Int)<=k:=by omega
  have g1:decide (k<(n:Int))=false:=by simpa using hbig
  have g1':¬ (k<(n:Int)):=by omega
  have ev:eZ n f s.at_=[]:=by
   have:jW n f s.at_=0:=by unfold jW;rw [if_neg (by rw [<- Z HK];omega)]
   unfold eZ;rw [this];rfl
  have EV:=O ev
  clear ev
  go_enter Tryz.func99,Tryz.ntmps99
  go_upto_region 2 with fail
  go_quiet (fail)
  go_wp2
  go_ret
  exact ⟨⟨_,rfl,by rw [Z EV];exact dD.nil _ _⟩,below_drewN (Below.refl _ _) _⟩
 obtain ⟨j,hj⟩:∃ j:Nat,k=(j:Int):=⟨k.toNat,by omega⟩
 subst hj
 have hjn:j<n:=by omega
 have g0:(0:Int)<=(j:Int):=by omega
 have g1:(j:Int)<(n:Int):=by omega
 obtain ⟨b,o,vv,rfl,-,-,-,-,-,c5,-,hva,-⟩:=Z HMO j hjn
 obtain ⟨nv,hnv⟩:∃ nv,nv=(f j).nv:=⟨_,rfl⟩
 rw [<- hnv] at hva
 have HVA:=O hva
 obtain ⟨va,vc,rfl,hvn,-⟩:=hva
 clear hvn
 have hvn:nv<=1000:=by rw [hnv];exact Z HNV j hjn
 have ev:eZ n f s.at_=qR f (j:Int) nv:=by
  unfold eZ qR jW
  rw [<- Z HK,if_pos ⟨g0,g1⟩,Int.toNat_natCast,hnv]
 have EV:=O ev
 clear ev hnv hneg hbig
 obtain ⟨i1,hi0,hz0,hz1,hz2⟩:=info_parts bE8
 have IV:=O (And.intro hi0 (And.intro hz0 (And.intro hz1 hz2)));clear hi0 hz0 hz1 hz2
 go_enter Tryz.func99,Tryz.ntmps99
 go_upto_region 2 with fail
 go_quiet (fail)
 go_upto_region 3 with fail
 go_quiet (fail)
 go_wp2_with fail
 go_loopg [3,37] nv (fun g0 ov i W=>∃ (q:Nat) (oa:Option Addr) (oc:Nat),q+g0=nv/\ov=.slice oa q oc/\i=.int .i64 q/\W.ownsRow w.heap.size 40 2 (.slice oa q oc) q (fJ (qR f (j:Int) q))/\Below w.heap.size w W)
 case atStart=>exact ⟨0,none,0,by omega,rfl,rfl,World.ownsRow_nil _ _ _ _,below_drewN (below_drewN (Below.refl _ _) _) _⟩
 case round =>
  obtain ⟨q,oa,oc,hq,rfl,rfl,hrow,hb⟩:=hrel
  have HR:=O hrow
  have HB:=O hb
  have hws:w.heap.size<=wr.heap.size:=hb.size
  clear hrow
  by_cases hlt:q<nv
  ·have hq1:(q:Int)<(nv:Int):=by omega
   have hq0:(0:Int)<=(q:Int):=by omega
   have wq:IntKind.i64.wrap ((q:Int)+1)=((q+1:Nat):Int):=by rw [IntKind.wrap_i64];omega
   obtain ⟨_,_,e,_,hvv⟩:=(Z HVA).below hb
   cases e
   obtain ⟨vb,vo,rfl,d0,d1,-,-,-,-⟩:=hvv q hlt
   clear hvv hb
   obtain ⟨x,hx⟩:∃ x,x=gS f (j:Int) q:=⟨_,rfl⟩
   have hx':(f j).vars q=x:=by rw [hx];unfold gS;rw [Int.toNat_natCast]
   rw [hx'] at d0 d1
   have HX:=O hx
   clear hx hx'
   have BA:=O (bH wr (.cells #[.string x.name,.string x.text] 40))
   have BB:=O ((Z BA).trans ((bH (wr.alloc (.cells #[.string x.name,.string x.text] 40)) (.cells #[.string x.name,.string x.text] 40)).mono (by simp)))
   have HRW:=O (bN (Z HR) (Z BB))
   have HNW:Hid (∀ j u,([.string x.name,.string x.text]:List Value)[j]?=some u->((wr.alloc (.cells #[.string x.name,.string x.text] 40)).alloc (.cells #[.string x.name,.string x.text] 40)).cell? ((⟨wr.heap.size+1,0,none⟩:Addr).add j)=some u):=O (World.news_of_block (cs:=#[.string x.name,.string x.text]) (t:=40) (fr:=(0,0)) (by have:=heap_alloc_new (wr.alloc (.cells #[.string x.name,.string x.text] 40)) (.cells #[.string x.name,.string x.text] 40);rw [World.size_alloc] at this;exact this))
   have HLW:Hid (Below w.heap.size w ((wr.alloc (.cells #[.string x.name,.string x.text] 40)).alloc (.cells #[.string x.name,.string x.text] 40))):=O ((Z HB).trans ((Z BB).mono hws))
   go_wp2_with (at_builtin;refine wpList_append_lies _ (by rfl) _ _ _ (by rfl) w.heap.size 40 i1 _ 2 32 Tryz.underlying36 (Z IV).1 (Z IV).2.1 (Z IV).2.2.1 (Z IV).2.2.2 rfl (by omega) (.slice oa q oc) q (fJ (qR f (j:Int) q)) (by rfl) (Z HRW) ⟨wr.heap.size+1,0,none⟩ 1 1 [.string x.name,.string x.text] (by rfl) (by rfl) (Z HNW) (by simp [Value.oneCell']) (by omega) (by unfold maxLen;omega) (by omega) (by simp;omega) (wr.heap.size+1+1) (by simp) ?_;intro g2 cp2 w7 hown hgrow _ _;have HO7:=O hown;have hb7:Below w.heap.size w w7:=(Z HLW).grown hgrow (by simp;omega) (fun b e=>(eM (Z HRW) b e).1);have HB7:=O hb7;clear hown hgrow hb7)
   go_roundg (nv - (q+1))
   case measure=>omega
   case rel=>exact ⟨q+1,some ⟨g2,0,none⟩,cp2,by omega,rfl,by go_num,by rw [upVars_succ,vCells_app,<- Z HX];exact Z HO7,Z HB7⟩
  have hq1:¬ (q:Int)<(nv:Int):=by omega
  obtain rfl:q=nv:=by omega
  go_wp2_with fail
  go_ret
  refine ⟨⟨_,rfl,?_⟩,Z HB⟩
  rw [Z EV]
  refine ⟨?_,fun x hx=>?_⟩
  ·rw [upVars_len];exact Z HR
  unfold qR at hx
  obtain ⟨i,hi,rfl⟩:=List.mem_map.1 hx
  obtain ⟨_,_,e,_,hvv⟩:=Z HVA
  obtain ⟨_,_,_,_,_,z0,z1,_⟩:=hvv i (List.mem_range.1 hi)
  unfold gS
  rw [Int.toNat_natCast]
  exact ⟨z0,z1⟩
section
def tX (B lb:Nat) (v1 v2:Value) (n:Nat) (f:Nat->M) (s:LS) (a:Ak) (w:World) (e:Ending) (w':World):Prop :=
 ∃ s' d v5 v6,e=.returned (.agg #[.int .i64 0,.int .i64 d.code,.int .i64 d.num,.string d.text,v5,v6])/\bU n f s a s' d/\(∃ hv' pv',SL B w' lb v1 v2 n f s' hv' pv')/\eA w.heap.size w' v5 d.fr/\dD w.heap.size w' v6 d.vs/\Below B w w'/\bM dX w w'
theorem bM.far {P:TypeId->Prop} {w W:World} {q i:Nat} {u:Value} (h:bM P w W) (hq:w.heap.size<=q):bM P w (W.setCell ⟨q,i,none⟩ u):=fun b cs t fr hh hp =>
 (heap_setCell_other W ⟨q,i,none⟩ b u (by have:=cJ hh;show b≠q;omega)).trans (h b cs t fr hh hp)
theorem SL.same {P:TypeId->Prop} {B lb n:Nat} {W W':World} {v1 v2 hv pv:Value} {f:Nat->M} {s:LS} (h:SL B W lb v1 v2 n f s hv pv) (hs:bM P W W') (p1:P 82) (p2:P 157) (p3:P 4) (p4:P 3):SL B W' lb v1 v2 n f s hv pv :=
 ⟨hs _ _ _ _ h.box p1,h.hits.same hs p2 p3,cK h.past hs p4,h.lbB⟩
structure AB (w:World) (a:Ak) (c m:Int) (t:ByteArray) (v5 v6:Value) (W:World):Prop where
 ak:W.heap[w.heap.size]?=some (.cells #[.int .i64 a.op,.int .i64 a.n,.string a.name,.int .i64 a.stop.kind,.int .i64 a.stop.fn,.int .i64 a.stop.line,.string a.stop.name] 47 (0,0))
 rb:W.heap[w.heap.size+1]?=some (.cells #[.int .i64 0,.int .i64 0,.int .i64 0,.string ⟨#[]⟩,.slice none 0 0,.slice none 0 0] 38 (0,0))
 ob:W.heap[w.heap.size+2]?=some (.cells #[.int .i64 0,.int .i64 c,.int .i64 m,.string t,v5,v6] 38 (0,0))
section
variable {w W W':World} {a:Ak} {c m:Int} {t:ByteArray} {v5 v6:Value}
theorem AB.new (w:World) (a:Ak):AB w a 0 0 ⟨#[]⟩ (.slice none 0 0) (.slice none 0 0) (((w.alloc (.cells #[.int .i64 a.op,.int .i64 a.n,.string a.name,.int .i64 a.stop.kind,.int .i64 a.stop.fn,.int .i64 a.stop.line,.string a.stop.name] 47)).alloc tz0).alloc tz0):=by
 have n1:=heap_alloc_new w (.cells #[.int .i64 a.op,.int .i64 a.n,.string a.name,.int .i64 a.stop.kind,.int .i64 a.stop.fn,.int .i64 a.stop.line,.string a.stop.name] 47)
 have n2:=heap_alloc_new (w.alloc (.cells #[.int .i64 a.op,.int .i64 a.n,.string a.name,.int .i64 a.stop.kind,.int .i64 a.stop.fn,.int .i64 a.stop.line,.string a.stop.name] 47)) tz0
 have n3:=heap_alloc_new ((w.alloc (.cells #[.int .i64 a.op,.int .i64 a.n,.string a.name,.int .i64 a.stop.kind,.int .i64 a.stop.fn,.int .i64 a.stop.line,.string a.stop.name] 47)).alloc tz0) tz0
 rw [World.size_alloc] at n2
 rw [World.size_alloc,World.size_alloc] at n3
 refine ⟨?_,?_,n3⟩
 ·rw [Below.heap_alloc _ _ _ (by simp;omega),Below.heap_alloc _ _ _ (by simp)];exact n1
 rw [Below.heap_alloc _ _ _ (by simp)];exact n2
theorem AB.size (h:AB w a c m t v5 v6 W):w.heap.size+3<=W.heap.size:=cJ h.ob
theorem AB.go (h:AB w a c m t v5 v6 W) (hb:Below W.heap.size W W'):AB w a c m t v5 v6 W' :=
 ⟨(hb.block _ (cJ h.ak)).trans h.ak,(hb.block _ (cJ h.rb)).trans h.rb,(hb.block _ (cJ h.ob)).trans h.ob⟩
theorem AB.same (h:AB w a c m t v5 v6 W) (hs:bM dX W W'):AB w a c m t v5 v6 W' :=
 ⟨hs _ _ _ _ h.ak (by unfold dX;decide),hs _ _ _ _ h.rb (by unfold dX;decide),hs _ _ _ _ h.ob (by unfold dX;decide)⟩
theorem AB.a0 (h:AB w a c m t v5 v6 W):W.cell? ⟨w.heap.size,0,none⟩=some (.int .i64 a.op):=by rw [cell_of_row W _ 0 _ _ _ h.ak];rfl
theorem AB.a1 (h:AB w a c m t v5 v6 W):W.cell? ⟨w.heap.size,1,none⟩=some (.int .i64 a.n):=by rw [cell_of_row W _ 1 _ _ _ h.ak];rfl
theorem AB.a2 (h:AB w a c m t v5 v6 W):W.cell? ⟨w.heap.size,2,none⟩=some (.string a.name):=by rw [cell_of_row W _ 2 _ _ _ h.ak];rfl
theorem AB.a3 (h:AB w a c m t v5 v6 W):W.cell? ⟨w.heap.size,3,none⟩=some (.int .i64 a.stop.kind):=by rw [cell_of_row W _ 3 _ _ _ h.ak];rfl
theorem AB.a4 (h:AB w a c m t v5 v6 W):W.cell? ⟨w.heap.size,4,none⟩=some (.int .i64 a.stop.fn):=by rw [cell_of_row W _ 4 _ _ _ h.ak];rfl
theorem AB.a5 (h:AB w a c m t v5 v6 W):W.cell? ⟨w.heap.size,5,none⟩=some (.int .i64 a.stop.line):=by rw [cell_of_row W _ 5 _ _ _ h.ak];rfl
theorem AB.a6 (h:AB w a c m t v5 v6 W):W.cell? ⟨w.heap.size,6,none⟩=some (.string a.stop.name):=by rw [cell_of_row W _ 6 _ _ _ h.ak];rfl
theorem AB.rc (h:AB w a c m t v5 v6 W):(W.cell? ⟨w.heap.size+1,0,none⟩=some (.int .i64 0)/\W.cell? ⟨w.heap.size+1,1,none⟩=some (.int .i64 0)/\W.cell? ⟨w.heap.size+1,2,none⟩=some (.int .i64 0)/\W.cell? ⟨w.heap.size+1,3,none⟩=some (.string ⟨#[]⟩)/\W.cell? ⟨w.heap.size+1,4,none⟩=some (.slice none 0 0)/\W.cell? ⟨w.heap.size+1,5,none⟩=some (.slice none 0 0)) /\
  (W.frozen? ⟨w.heap.size+1,0,none⟩=false/\W.frozen? ⟨w.heap.size+1,1,none⟩=false/\W.frozen? ⟨w.heap.size+1,2,none⟩=false/\W.frozen? ⟨w.heap.size+1,3,none⟩=false/\W.frozen? ⟨w.heap.size+1,4,none⟩=false/\W.frozen? ⟨w.heap.size+1,5,none⟩=false):=by
 refine ⟨⟨?_,?_,?_,?_,?_,?_⟩,?_,?_,?_,?_,?_,?_⟩
 all_goals first | (rw [cell_of_row W _ _ _ _ _ h.rb];rfl) | exact frozen_of_row _ _ _ _ _ h.rb
theorem AB.oc (h:AB w a c m t v5 v6 W):(W.cell? ⟨w.heap.size+1+1,0,none⟩=some (.int .i64 0)/\W.cell? ⟨w.heap.size+1+1,1,none⟩=some (.int .i64 c)/\W.cell? ⟨w.heap.size+1+1,2,none⟩=some (.int .i64 m)/\W.cell? ⟨w.heap.size+1+1,3,none⟩=some (.string t)/\W.cell? ⟨w.heap.size+1+1,4,none⟩=some v5/\W.cell? ⟨w.heap.size+1+1,5,none⟩=some v6)/\∀ i,W.frozen? ⟨w.heap.size+1+1,i,none⟩=false:=by
 refine ⟨⟨?_,?_,?_,?_,?_,?_⟩,fun i=>frozen_of_row _ _ _ _ _ h.ob⟩
 all_goals (rw [cell_of_row W (w.heap.size+2) _ _ _ _ h.ob];rfl)
theorem AB.set1 (h:AB w a c m t v5 v6 W) (c':Int):AB w a c' m t v5 v6 (W.setCell ⟨w.heap.size+1+1,1,none⟩ (.int .i64 c')):=by
 refine ⟨?_,?_,by simp [World.setCell,Array.getElem?_modify,h.ob]⟩
 ·rw [heap_setCell_other _ _ _ _ (by show w.heap.size≠w.heap.size+1+1;omega)];exact h.ak
 rw [heap_setCell_other _ _ _ _ (by show w.heap.size+1≠w.heap.size+1+1;omega)];exact h.rb
theorem AB.set2 (h:AB w a c m t v5 v6 W) (m':Int):AB w a c m' t v5 v6 (W.setCell ⟨w.heap.size+1+1,2,none⟩ (.int .i64 m')):=by
 refine ⟨?_,?_,by simp [World.setCell,Array.getElem?_modify,h.ob]⟩
 ·rw [heap_setCell_other _ _ _ _ (by show w.heap.size≠w.heap.size+1+1;omega)];exact h.ak
 rw [heap_setCell_other _ _ _ _ (by show w.heap.size+1≠w.heap.size+1+1;omega)];exact h.rb
theorem AB.set3 (h:AB w a c m t v5 v6 W) (t':ByteArray):AB w a c m t' v5 v6 (W.setCell ⟨w.heap.size+1+1,3,none⟩ (.string t')):=by
 refine ⟨?_,?_,by simp [World.setCell,Array.getElem?_modify,h.ob]⟩
 ·rw [heap_setCell_other _ _ _ _ (by show w.heap.size≠w.heap.size+1+1;omega)];exact h.ak
 rw [heap_setCell_other _ _ _ _ (by show w.heap.size+1≠w.heap.size+1+1;omega)];exact h.rb
theorem AB.set4 (h:AB w a c m t v5 v6 W) (v5':Value):AB w a c m t v5' v6 (W.setCell ⟨w.heap.size+1+1,4,none⟩ (v5')):=by
 refine ⟨?_,?_,by simp [World.setCell,Array.getElem?_modify,h.ob]⟩
 ·rw [heap_setCell_other _ _ _ _ (by show w.heap.size≠w.heap.size+1+1;omega)];exact h.ak
 rw [heap_setCell_other _ _ _ _ (by show w.heap.size+1≠w.heap.size+1+1;omega)];exact h.rb
theorem AB.set5 (h:AB w a c m t v5 v6 W) (v6':Value):AB w a c m t v5 v6' (W.setCell ⟨w.heap.size+1+1,5,none⟩ (v6')):=by
 refine ⟨?_,?_,by simp [World.setCell,Array.getElem?_modify,h.ob]⟩
 ·rw [heap_setCell_other _ _ _ _ (by show w.heap.size≠w.heap.size+1+1;omega)];exact h.ak
 rw [heap_setCell_other _ _ _ _ (by show w.heap.size+1≠w.heap.size+1+1;omega)];exact h.rb
end
def dA (W:World) (b:Nat) (c m:Int) (t:ByteArray) (v5 v6:Value):World :=
 (((((W.setCell ⟨b,0,none⟩ (.int .i64 0)).setCell ⟨b,1,none⟩ (.int .i64 c)).setCell ⟨b,2,none⟩ (.int .i64 m)).setCell ⟨b,3,none⟩ (.string t)).setCell ⟨b,4,none⟩ v5).setCell ⟨b,5,none⟩ v6
theorem qS (W:World) (q:Nat) (c m:Int) (t:ByteArray) (v5 v6:Value) (b:Nat) (h:b≠q):(dA W q c m t v5 v6).heap[b]?=W.heap[b]?:=by
 unfold dA
 rw [heap_setCell_other _ _ _ _ h,heap_setCell_other _ _ _ _ h,heap_setCell_other _ _ _ _ h,heap_setCell_other _ _ _ _ h,heap_setCell_other _ _ _ _ h,heap_setCell_other _ _ _ _ h]
theorem fK {P:TypeId->Prop} {W:World} {q:Nat} {c m:Int} {t:ByteArray} {v5 v6:Value} {cs:Array Value} {ty:TypeId} {fr:Nat × Nat} (hq:W.heap[q]?=some (.cells cs ty fr)) (hp:¬ P ty):bM P W (dA W q c m t v5 v6):=fun b cs' t' fr' hh hp'=>by
 rw [qS _ _ _ _ _ _ _ _ (fun e=>by subst e;rw [hh] at hq;cases hq;exact hp hp')]
 exact hh
theorem qL {P:TypeId->Prop} {w W:World} {q:Nat} {c m:Int} {t:ByteArray} {v5 v6:Value} (h:bM P w W) (hq:w.heap.size<=q):bM P w (dA W q c m t v5 v6):=fun b cs ty fr hh hp =>
 (qS _ _ _ _ _ _ _ _ (by have:=cJ hh;omega)).trans (h b cs ty fr hh hp)
theorem mY {B:Nat} {w W:World} {q:Nat} {c m:Int} {t:ByteArray} {v5 v6:Value} (h:Below B w W) (hq:B<=q):Below B w (dA W q c m t v5 v6):=by
 unfold dA
 exact (((((h.setCell (p:=⟨q,0,none⟩) hq _).setCell (p:=⟨q,1,none⟩) hq _).setCell (p:=⟨q,2,none⟩) hq _).setCell (p:=⟨q,3,none⟩) hq _).setCell (p:=⟨q,4,none⟩) hq _).setCell (p:=⟨q,5,none⟩) hq _
theorem dR {B lb:Nat} {v1 v2 hv' pv' v5 v6:Value} {n:Nat} {f:Nat->M} {s s':LS} {a:Ak} {d:Td} {c m:Int} {t:ByteArray} {w W:World} (hI:bU n f s a s' d) (hc:c=d.code) (hm:m=d.num) (ht:t=d.text) (hL:SL B W lb v1 v2 n f s' hv' pv') (hA:AB w a c m t v5 v6 W)
  (h5:eA w.heap.size W v5 d.fr) (h6:dD w.heap.size W v6 d.vs) (hb:Below B w W) (hk:bM dX w W) (hB:B<=w.heap.size) :
  tX B lb v1 v2 n f s a w (.returned (.agg #[.int .i64 0,.int .i64 c,.int .i64 m,.string t,v5,v6])) (dA W (w.heap.size+1) c m t v5 v6):=by
 subst hc
 subst hm
 subst ht
 have hs:bM (fun q=>q≠38) W (dA W (w.heap.size+1) d.code d.num d.text v5 v6):=fK hA.rb (fun q=>q rfl)
 exact ⟨s',d,v5,v6,rfl,hI,⟨hv',pv',hL.same hs (by decide) (by decide) (by decide) (by decide)⟩,cK h5 hs (by decide),h6.same hs (by decide),mY hb (by omega),qL hk (by omega)⟩
theorem SL.told {B lb n:Nat} {w W:World} {v1 v2 hv pv v5 v6:Value} {f:Nat->M} {s:LS} {a:Ak} {c m:Int} {t:ByteArray} (h:SL B W lb v1 v2 n f s hv pv) (hA:AB w a c m t v5 v6 W) (i:Nat) (u:Value):SL B (W.setCell ⟨w.heap.size+1+1,i,none⟩ u) lb v1 v2 n f s hv pv :=
 h.same (P:=fun q=>q≠38) (bM.set hA.ob (fun q=>q rfl)) (by decide) (by decide) (by decide) (by decide)
theorem cD (lo:Nat) (w:World):eA lo w (.slice none 0 0) []:=World.ownsRow_nil _ _ _ _
theorem specAsk_bad (B lb lo:Nat) (v1 v2 hv pv:Value) (nf:Nat) (fns:Nat->ByteArray) (n:Nat) (f:Nat->M) (s:LS) (op nn:Int) (name:ByteArray) (kd fn line:Int) (sn:ByteArray) (w:World) (h:SL B w lb v1 v2 n f s hv pv) (h2:∀ W,Below B w W->bQ lo W v2 n f) (hs:cB nf fns n f) (hok:gF n s) (hp:s.past.length<=10000) (hB:B<=w.heap.size) (hz:name.size<=maxLen) (hz2:sn.size<=maxLen) (ho:¬ cL (⟨op,nn,name,⟨kd,fn,line,sn⟩⟩:Ak)) :
  Calls Tryz.prog 38 #[.pointer (some ⟨lb,0,none⟩),.agg #[.int .i64 op,.int .i64 nn,.string name,.int .i64 kd,.int .i64 fn,.int .i64 line,.string sn]] w fun e w'=>tX B lb v1 v2 n f s (⟨op,nn,name,⟨kd,fn,line,sn⟩⟩:Ak) w e w':=by
 have H:=O h
 have H2:=O h2
 have HS:=O hs
 have HOK:=O hok
 have HP:=O hp
 clear hp
 have A0:=O (AB.new w (⟨op,nn,name,⟨kd,fn,line,sn⟩⟩:Ak))
 have HBW:=O (((bH w (.cells #[.int .i64 op,.int .i64 nn,.string name,.int .i64 kd,.int .i64 fn,.int .i64 line,.string sn] 47)).alloc (by simp) tz0).alloc (by simp;omega) tz0)
 clear h h2 hs hok
 go_enter Tryz.func38,Tryz.ntmps38
 go_wp2_with fail
 refine (dT op nn name kd fn line sn _ hz hz2).mono ?_
 rintro e w1 ⟨⟨b,rfl,hbb⟩,hbl⟩
 have A1:=O ((Z A0).go hbl)
 have HB1:=hT HBW hbl
 have H1:=O ((Z H).below (Z HB1))
 obtain rfl:b=false:=by
  cases b with
  | false=>rfl
  | true=>exact absurd (hbb.1 rfl) ho
 clear hbb hbl
 have HO:=O ho
 clear ho
 obtain ⟨⟨r0,r1,r2,r3,r4,r5⟩,x0,x1,x2,x3,x4,x5⟩:=(Z A1).rc
 obtain ⟨⟨o0,o1,o2,o3,o4,o5⟩,ofz⟩:=(Z A1).oc
 have y1:=ofz 1
 have y2:=ofz 2
 have y3:=ofz 3
 have y4:=ofz 4
 have y5:=ofz 5
 clear ofz
 have hne:w.heap.size+1+1≠w.heap.size+1:=by omega
 have hne':w.heap.size+1≠w.heap.size+1+1:=by omega
 go_wp2
 refine bodyPost_ret (v:=.agg #[.int .i64 0,.int .i64 1,.int .i64 0,.string ⟨#[]⟩,.slice none 0 0,.slice none 0 0]) (by simp [results,Tryz.results38,go_sem,r0,r1,r2,r3,r4,r5]) rfl ?_
 exact dR (bU.notOk (Z HO)) rfl rfl rfl ((Z H1).told (Z A1) 1 (.int .i64 1)) ((Z A1).set1 1) (cD _ _) (dD.nil _ _) (((Z HB1).mono hB).setCell (p:=⟨w.heap.size+1+1,1,none⟩) (show B<=w.heap.size+1+1 by omega) _) ((bM.of_below (Z HB1)).far (by omega)) hB
end
end Go.Proofs.YtmnmeaeicjhkhaaGreatDoor
