import Derived.Test.YtmnmeaeicjhkhaaGreatDoorGEex
import Derived.Test.YtmnmeaeicjhkhaaGreatDoorGZax
namespace Go.Proofs.YtmnmeaeicjhkhaaGreatDoor
open Go.RowKit
theorem info_Ask:(Tryz.prog.info? 47).map (fun i=>(i.zero,i.size,i.bytes))=some (some (.agg #[.int .i64 0,.int .i64 0,.string ByteArray.empty,.int .i64 0,.int .i64 0,.int .i64 0,.string ByteArray.empty]),7,72):=by kernel_rfl
section
theorem setLine_len (x:Int):∀ l:List Fr,(qG x l).length=l.length
 | []=>rfl
 | _ :: _=>rfl
theorem depth_le {f:Nat->M}:∀ (k:Nat),(∀ j,j<k->eB f j=0)->∀ t,((St.after f k).tasks t).length<=200
 | 0,_,t=>by
  show (if t=0 then [(⟨0,0,-1⟩:Fr)] else []).length<=200
  split<;>simp
 | k+1,h,t=>by
  have ih:=depth_le k (fun j hj=>h j (by omega))
  have hc:=h k (by omega)
  unfold eB code at hc
  show (((St.after f k).step (f k).kind (f k).task (f k).fn (f k).line k).tasks t).length<=200
  unfold St.step
  by_cases h7:(f k).kind=7
  ·rw [if_pos h7];exact ih t
  rw [if_neg h7] at hc ⊢
  by_cases h2:(f k).kind=2
  ·rw [if_pos h2] at hc ⊢
   show (if t=(St.after f k).cur then _ else _:List Fr).length<=200
   by_cases hq:(f k).task≠(St.after f k).cur
   ·rw [if_pos hq] at hc;cases hc
   rw [if_neg hq] at hc
   by_cases hl:((St.after f k).tasks (St.after f k).cur).length=200
   ·rw [if_pos hl] at hc;cases hc
   split
   ·rw [List.length_cons];have:=ih (St.after f k).cur;omega
   exact ih t
  rw [if_neg h2]
  by_cases h1:(f k).kind=1
  ·rw [if_pos h1]
   show (if t=(St.after f k).cur then _ else _:List Fr).length<=200
   split
   ·rw [setLine_len];exact ih _
   exact ih t
  rw [if_neg h1]
  by_cases h3:(f k).kind=3
  ·rw [if_pos h3]
   show (if t=(St.after f k).cur then _ else _:List Fr).length<=200
   split
   ·rw [List.length_tail];have:=ih (St.after f k).cur;omega
   exact ih t
  rw [if_neg h3]
  exact ih t
theorem bU.short {nf:Nat} {fns:Nat->ByteArray} {n:Nat} {f:Nat->M} {s s':LS} {a:Ak} {d:Td} (hs:cB nf fns n f) (hi:bU n f s a s' d):d.fr.length<=200/\d.vs.length<=200:=by
 have z:(([]:List Fr).length<=200/\([]:List V).length<=200):=by simp
 unfold bU at hi
 by_cases hok:¬ cL a
 ·rw [if_neg hok] at hi;rw [hi.2];exact z
 have hok:=Classical.not_not.1 hok
 rw [if_pos hok] at hi
 by_cases e1:a.op=1
 ·rw [if_pos e1] at hi
  by_cases q:s.stops.length=50
  ·rw [if_pos q] at hi;rw [hi.2];exact z
  rw [if_neg q] at hi;rw [hi.2];exact z
 rw [if_neg e1] at hi
 by_cases e2:a.op=2
 ·rw [if_pos e2] at hi
  by_cases q:(s.stops.length:Int)<=a.n
  ·rw [if_pos q] at hi;rw [hi.2];exact z
  rw [if_neg q] at hi;rw [hi.2];exact z
 rw [if_neg e2] at hi
 by_cases e8:a.op=8
 ·rw [if_pos e8] at hi
  cases hg:s.past.getLast? with
  | none=>rw [hg] at hi;rw [hi.2];exact z
  | some x=>rw [hg] at hi;rw [hi.2];exact z
 rw [if_neg e8] at hi
 by_cases e9:a.op=9/\(n:Int)<a.n
 ·rw [if_pos e9] at hi;rw [hi.2];exact z
 rw [if_neg e9] at hi
 by_cases e10:a.op=10
 ·rw [if_pos e10] at hi;rw [hi.2]
  exact ⟨depth_le _ (fun j hj=>hs.2.2 j (by unfold cQ at hj;omega)) _,by simp⟩
 rw [if_neg e10] at hi
 by_cases e11:a.op=11
 ·rw [if_pos e11] at hi;rw [hi.2]
  refine ⟨by simp,?_⟩
  show (eZ n f s.at_).length<=200
  unfold eZ jW
  rw [List.length_map,List.length_range]
  split
  ·rename_i h;exact (hs.2.1 _ (by omega)).2.1
  omega
 rw [if_neg e11] at hi
 by_cases e12:a.op=12
 ·rw [if_pos e12] at hi
  cases hg:cP (gS f s.at_) a.name (jW n f s.at_) with
  | none=>rw [hg] at hi;rw [hi.2];exact z
  | some x=>rw [hg] at hi;rw [hi.2];exact z
 rw [if_neg e12] at hi
 by_cases e13:a.op=13
 ·rw [if_pos e13] at hi
  by_cases q:(s.stops.length:Int)<=a.n
  ·rw [if_pos q] at hi;rw [hi.2];exact z
  rw [if_neg q] at hi;rw [hi.2];exact z
 rw [if_neg e13] at hi
 obtain ⟨y,m,-,rfl⟩:=hi
 exact z
theorem pD.short {nf:Nat} {fns:Nat->ByteArray} {n:Nat} {f:Nat->M} {s s':LS} {aq:List Ak} {ds:List (Int × Td)} (hs:cB nf fns n f) (h:pD n f s aq s' ds):∀ x,x∈ds->x.2.fr.length<=200/\x.2.vs.length<=200:=by
 induction h with
 | nil=>intro x hx;cases hx
 | snoc _ k ih =>
  intro x hx
  rcases List.mem_append.1 hx with hx | hx
  ·exact ih x hx
  rw [List.mem_singleton.1 hx];exact bU.short hs k
section
variable {nf:Nat} {fns:Nat->ByteArray} {n:Nat} {f:Nat->M} {na:Nat} {A:Nat->Ak} {ts us:List Tl}
theorem pR.uniq (h:pR nf fns n f na A ts) (h':pR nf fns n f na A us):ts.map (fun x=>(x.at_,x.d))=us.map (fun x=>(x.at_,x.d)):=by
 rcases h with ⟨a,s',h⟩ | ⟨a,rfl⟩<;>rcases h' with ⟨a',s'',h'⟩ | ⟨a',rfl⟩
 ·exact (h.uniq h').2
 ·exact absurd a a'
 ·exact absurd a' a
 rfl
theorem pR.short (h:pR nf fns n f na A ts):Short ts:=by
 rcases h with ⟨a,s',h⟩ | ⟨a,rfl⟩
 ·intro x hx
  exact h.short a.1 (x.at_,x.d) (List.mem_map.2 ⟨x,hx,rfl⟩)
 intro x hx;cases hx
theorem pR.le (h:pR nf fns n f na A ts):ts.length<=500:=by
 rcases h with ⟨a,s',h⟩ | ⟨a,rfl⟩
 ·have:=h.len
  rw [List.length_map,List.length_map,List.length_range] at this
  omega
 simp
end
end
end Go.Proofs.YtmnmeaeicjhkhaaGreatDoor
