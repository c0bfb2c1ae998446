import Derived.Test.YtmnmeaeicjhkhaaGreatDoorGBy
import Derived.Test.YtmnmeaeicjhkhaaGreatDoorGCay
namespace Go.Proofs.YtmnmeaeicjhkhaaGreatDoor
structure Sp where
 kind:Int
 fn:Int
 line:Int
 name:ByteArray
def StopIs (s:Sp):Prop :=
 0≤s.fn∧s.fn < 300∧((s.kind=1∧1≤s.line∧s.line≤100000∧s.name=ByteArray.empty)∨(s.kind=2∧s.line=0∧s.name=ByteArray.empty) ∨
  (s.kind=3∧s.line=0∧1≤s.name.size∧s.name.size≤40)∨(s.kind=4∧s.fn=0∧s.line=0∧s.name=ByteArray.empty))
end Go.Proofs.YtmnmeaeicjhkhaaGreatDoor
namespace Go.Proofs.YtmnmeaeicjhkhaaGreatDoor
open Go.RowKit
def ownOf (f:Nat→M) (k:Nat):Option Fr:=(runs f (if (f k).kind=3 then k else k + 1)).head?
def lastText (vars:Nat→V) (nm:ByteArray):Nat→Option ByteArray
 | 0=>none
 | i + 1=>if (vars i).name=nm then some (vars i).text else lastText vars nm i
def shows (f:Nat→M) (nm:ByteArray) (k:Nat):Option ByteArray:=lastText (f k).vars nm (f k).nv
def prevText (f:Nat→M) (nm:ByteArray) (frm:Int):Nat→Option ByteArray
 | 0=>none
 | i + 1=>match ownOf f i,shows f nm i with
  | some fr,some t=>if fr.frm=frm then some t else prevText f nm frm i
  | _,_=>prevText f nm frm i
def watchHit (f:Nat→M) (s:Sp) (k:Nat):Bool :=
 match ownOf f k,shows f s.name k with
 | some fr,some t=>decide (fr.fn=s.fn) && decide (prevText f s.name fr.frm k ≠ some t)
 | _,_=>false
def hit (f:Nat→M) (s:Sp) (k:Nat):Bool :=
 if s.kind=1 then decide ((f k).kind=1∧(f k).fn=s.fn∧(f k).line=s.line)
 else if s.kind=2 then decide ((f k).kind=2∧(f k).fn=s.fn)
 else if s.kind=3 then watchHit f s k
 else decide ((f k).kind=4)
def Opened (f:Nat→M) (k:Nat) (t:Nat) (fr:Fr):Prop :=
 (fr.frm=-1∧t=0∧fr.fn=0)∨∃ j:Nat,j < k∧fr.frm=j∧t=(St.after f j).cur∧fr.fn=(f j).fn
theorem Opened.mono {f:Nat→M} {k k' t:Nat} {fr:Fr} (h:Opened f k t fr) (hk:k≤k'):Opened f k' t fr:=by
 rcases h with h | ⟨j,h1,h2⟩
 ·exact .inl h
 ·exact .inr ⟨j,by omega,h2⟩
theorem after_opened (f:Nat→M):∀ k t fr,fr ∈ (St.after f k).tasks t→Opened f k t fr
 | 0=>by
  intro t fr hf
  simp only [St.after,St.init] at hf
  split at hf
  ·rename_i ht
   rw [List.mem_singleton.1 hf]
   exact .inl ⟨rfl,ht,rfl⟩
  ·cases hf
 | k + 1=>by
  have ih:=after_opened f k
  have hput:∀ l:List Fr,(∀ fr,fr ∈ l→Opened f (k + 1) (St.after f k).cur fr)→∀ t fr,fr ∈ ((St.after f k).put l).tasks t→Opened f (k + 1) t fr:=by
   intro l hl t fr hf
   simp only [St.put] at hf
   split at hf
   ·rename_i e;rw [e];exact hl fr hf
   ·exact (ih t fr hf).mono (by omega)
  show ∀ t fr,fr ∈ ((St.after f k).step _ _ _ _ _).tasks t→_
  unfold St.step
  split
  ·intro t fr hf;exact (ih t fr hf).mono (by omega)
  ·split
   ·refine hput _ (fun fr hf=>?_)
    rcases List.mem_cons.1 hf with e | e
    ·rw [e];exact .inr ⟨k,by omega,rfl,rfl,rfl⟩
    ·exact (ih _ _ e).mono (by omega)
   ·split
    ·refine hput _ (fun fr hf=>?_)
     cases e2:(St.after f k).tasks (St.after f k).cur with
     | nil=>rw [e2] at hf;cases hf
     | cons f0 r =>
      rw [e2] at hf
      rcases List.mem_cons.1 hf with e | e
      ·have h0:=(ih (St.after f k).cur f0 (by rw [e2];exact List.mem_cons_self ..)).mono (show k≤k + 1 by omega)
       rw [e];exact h0
      ·exact (ih (St.after f k).cur fr (by rw [e2];exact List.mem_cons_of_mem _ e)).mono (by omega)
    ·split
     ·exact hput _ (fun fr hf=>(ih _ _ (List.mem_of_mem_tail hf)).mono (by omega))
     ·intro t fr hf;exact (ih t fr hf).mono (by omega)
def ownTask (f:Nat→M) (k:Nat):Nat:=(St.after f (if (f k).kind=3 then k else k + 1)).cur
theorem ownOf_opened {f:Nat→M} {k:Nat} {fr:Fr} (h:ownOf f k=some fr):Opened f (k + 1) (ownTask f k) fr:=by
 have hm:fr ∈ runs f (if (f k).kind=3 then k else k + 1):=List.mem_of_head? h
 refine (after_opened f _ _ _ hm).mono ?_
 split<;>omega
theorem opened_same {f:Nat→M} {k k' t t':Nat} {fr fr':Fr} (h:Opened f k t fr) (h':Opened f k' t' fr') (e:fr.frm=fr'.frm):t=t'∧fr.fn=fr'.fn:=by
 rcases h with ⟨a1,a2,a3⟩ | ⟨j,a1,a2,a3,a4⟩<;>rcases h' with ⟨b1,b2,b3⟩ | ⟨j',b1,b2,b3,b4⟩
 ·exact ⟨a2.trans b2.symm,a3.trans b3.symm⟩
 ·omega
 ·omega
 ·have:j=j':=by omega
  subst this
  exact ⟨a3.trans b3.symm,a4.trans b4.symm⟩
theorem ownOf_frm {f:Nat→M} {k:Nat} {fr:Fr} (h:ownOf f k=some fr):-1≤fr.frm∧fr.frm≤k:=by
 rcases ownOf_opened h with ⟨h1,_⟩ | ⟨j,h1,h2,_⟩<;>omega
def prevFn (f:Nat→M) (nm:ByteArray) (fn frm:Int):Nat→Option ByteArray
 | 0=>none
 | i + 1=>match ownOf f i,shows f nm i with
  | some fr,some t=>if fr.fn=fn∧fr.frm=frm then some t else prevFn f nm fn frm i
  | _,_=>prevFn f nm fn frm i
theorem prevFn_eq {f:Nat→M} (nm:ByteArray) {k:Nat} {fr:Fr} (h:ownOf f k=some fr):∀ i,prevFn f nm fr.fn fr.frm i=prevText f nm fr.frm i
 | 0=>rfl
 | i + 1=>by
  have ih:=prevFn_eq nm h i
  unfold prevFn prevText
  rw [ih]
  cases e1:ownOf f i with
  | none=>rfl
  | some fi =>
   cases e2:shows f nm i with
   | none=>rfl
   | some t =>
    dsimp only
    by_cases e:fi.frm=fr.frm
    ·rw [if_pos e,if_pos ⟨(opened_same (ownOf_opened e1) (ownOf_opened h) e).2,e⟩]
    ·rw [if_neg e,if_neg (fun hh=>e hh.2)]
theorem prevText_step {f:Nat→M} {nm:ByteArray} {frm:Int} {i:Nat}:prevText f nm frm (i + 1)=match ownOf f i,shows f nm i with
  | some fr,some t=>if fr.frm=frm then some t else prevText f nm frm i
  | _,_=>prevText f nm frm i:=rfl
end Go.Proofs.YtmnmeaeicjhkhaaGreatDoor
