import Derived.Test.YtmnmeaeicjhkhaaGreatDoorGCax
namespace Go.Proofs.YtmnmeaeicjhkhaaGreatDoor
structure Sp where
 kind:Int
 fn:Int
 line:Int
 name:ByteArray
def qN (s:Sp):Prop :=
 0<=s.fn/\s.fn<300/\((s.kind=1/\1<=s.line/\s.line<=100000/\s.name=ByteArray.empty)∨(s.kind=2/\s.line=0/\s.name=ByteArray.empty) ∨
  (s.kind=3/\s.line=0/\1<=s.name.size/\s.name.size<=40)∨(s.kind=4/\s.fn=0/\s.line=0/\s.name=ByteArray.empty))
section
open Go.RowKit
def eL (f:Nat->M) (k:Nat):Option Fr:=(tJ f (if (f k).kind=3 then k else k+1)).head?
def cP (vars:Nat->V) (nm:ByteArray):Nat->Option ByteArray
 | 0=>none
 | i+1=>if (vars i).name=nm then some (vars i).text else cP vars nm i
def gR (f:Nat->M) (nm:ByteArray) (k:Nat):Option ByteArray:=cP (f k).vars nm (f k).nv
def fE (f:Nat->M) (nm:ByteArray) (frm:Int):Nat->Option ByteArray
 | 0=>none
 | i+1=>match eL f i,gR f nm i with
  | some fr,some t=>if fr.frm=frm then some t else fE f nm frm i
  | _,_=>fE f nm frm i
def dF (f:Nat->M) (s:Sp) (k:Nat):Bool :=
 match eL f k,gR f s.name k with
 | some fr,some t=>decide (fr.fn=s.fn) && decide (fE f s.name fr.frm k≠some t)
 | _,_=>false
def hit (f:Nat->M) (s:Sp) (k:Nat):Bool :=
 if s.kind=1 then decide ((f k).kind=1/\(f k).fn=s.fn/\(f k).line=s.line)
 else if s.kind=2 then decide ((f k).kind=2/\(f k).fn=s.fn)
 else if s.kind=3 then dF f s k
 else decide ((f k).kind=4)
def rP (f:Nat->M) (k:Nat) (t:Nat) (fr:Fr):Prop :=
 (fr.frm=-1/\t=0/\fr.fn=0)∨∃ j:Nat,j<k/\fr.frm=j/\t=(St.after f j).cur/\fr.fn=(f j).fn
theorem rP.mono {f:Nat->M} {k k' t:Nat} {fr:Fr} (h:rP f k t fr) (hk:k<=k'):rP f k' t fr:=by
 rcases h with h | ⟨j,h1,h2⟩
 ·exact .inl h
 exact .inr ⟨j,by omega,h2⟩
theorem yG (f:Nat->M):∀ k t fr,fr∈(St.after f k).tasks t->rP f k t fr
 | 0=>by
  intro t fr hf
  simp only [St.after,St.init] at hf
  split at hf
  ·rename_i ht
   rw [List.mem_singleton.1 hf]
   exact .inl ⟨rfl,ht,rfl⟩
  cases hf
 | k+1=>by
  have ih:=yG f k
  have hput:∀ l:List Fr,(∀ fr,fr∈l->rP f (k+1) (St.after f k).cur fr)->∀ t fr,fr∈((St.after f k).put l).tasks t->rP f (k+1) t fr:=by
   intro l hl t fr hf
   simp only [St.put] at hf
   split at hf
   ·rename_i e;rw [e];exact hl fr hf
   exact (ih t fr hf).mono (by omega)
  show ∀ t fr,fr∈((St.after f k).step _ _ _ _ _).tasks t->_
  unfold St.step
  split
  ·intro t fr hf;exact (ih t fr hf).mono (by omega)
  split
  ·refine hput _ (fun fr hf=>?_)
   rcases List.mem_cons.1 hf with e | e
   ·rw [e];exact .inr ⟨k,by omega,rfl,rfl,rfl⟩
   exact (ih _ _ e).mono (by omega)
  split
  ·refine hput _ (fun fr hf=>?_)
   cases e2:(St.after f k).tasks (St.after f k).cur with
   | nil=>rw [e2] at hf;cases hf
   | cons f0 r =>
    rw [e2] at hf
    rcases List.mem_cons.1 hf with e | e
    ·have h0:=(ih (St.after f k).cur f0 (by rw [e2];exact List.mem_cons_self ..)).mono (show k<=k+1 by omega)
     rw [e];exact h0
    exact (ih (St.after f k).cur fr (by rw [e2];exact List.mem_cons_of_mem _ e)).mono (by omega)
  split
  ·exact hput _ (fun fr hf=>(ih _ _ (List.mem_of_mem_tail hf)).mono (by omega))
  intro t fr hf;exact (ih t fr hf).mono (by omega)
def gH (f:Nat->M) (k:Nat):Nat:=(St.after f (if (f k).kind=3 then k else k+1)).cur
theorem kZ {f:Nat->M} {k:Nat} {fr:Fr} (h:eL f k=some fr):rP f (k+1) (gH f k) fr:=by
 have hm:fr∈tJ f (if (f k).kind=3 then k else k+1):=List.mem_of_head? h
 refine (yG f _ _ _ hm).mono ?_
 split<;>omega
theorem bB2 {f:Nat->M} {k k' t t':Nat} {fr fr':Fr} (h:rP f k t fr) (h':rP f k' t' fr') (e:fr.frm=fr'.frm):t=t'/\fr.fn=fr'.fn:=by
 rcases h with ⟨a1,a2,a3⟩ | ⟨j,a1,a2,a3,a4⟩<;>rcases h' with ⟨b1,b2,b3⟩ | ⟨j',b1,b2,b3,b4⟩
 ·exact ⟨a2.trans b2.symm,a3.trans b3.symm⟩
 ·omega
 ·omega
 have:j=j':=by omega
 subst this
 exact ⟨a3.trans b3.symm,a4.trans b4.symm⟩
theorem bP9 {f:Nat->M} {k:Nat} {fr:Fr} (h:eL f k=some fr):-1<=fr.frm/\fr.frm<=k:=by
 rcases kZ h with ⟨h1,_⟩ | ⟨j,h1,h2,_⟩<;>omega
def eR (f:Nat->M) (nm:ByteArray) (fn frm:Int):Nat->Option ByteArray
 | 0=>none
 | i+1=>match eL f i,gR f nm i with
  | some fr,some t=>if fr.fn=fn/\fr.frm=frm then some t else eR f nm fn frm i
  | _,_=>eR f nm fn frm i
theorem zL {f:Nat->M} (nm:ByteArray) {k:Nat} {fr:Fr} (h:eL f k=some fr):∀ i,eR f nm fr.fn fr.frm i=fE f nm fr.frm i
 | 0=>rfl
 | i+1=>by
  have ih:=zL nm h i
  unfold eR fE
  rw [ih]
  cases e1:eL f i with
  | none=>rfl
  | some fi =>
   cases e2:gR f nm i with
   | none=>rfl
   | some t =>
    dsimp only
    by_cases e:fi.frm=fr.frm
    ·rw [if_pos e,if_pos ⟨(bB2 (kZ e1) (kZ h) e).2,e⟩]
    rw [if_neg e,if_neg (fun hh=>e hh.2)]
theorem qP {f:Nat->M} {nm:ByteArray} {frm:Int} {i:Nat}:fE f nm frm (i+1)=match eL f i,gR f nm i with
  | some fr,some t=>if fr.frm=frm then some t else fE f nm frm i
  | _,_=>fE f nm frm i:=rfl
end
end Go.Proofs.YtmnmeaeicjhkhaaGreatDoor
