import Derived.Test.YtmnmeaeicjhkhaaGreatDoorGDbx
namespace Go.Proofs.YtmnmeaeicjhkhaaGreatDoor
open Go.RowKit
structure OwnW (B:Nat) (w:World) (v:Value) (ms:List Mo):Prop where
 row:w.ownsRow B 108 6 v ms.length (fD ms)
 vars:∀ x,x∈ms->w.ownsRow B 40 2 x.vv x.l.length (gW x.l)/\x.l.length<=3/\x.text.size<=1/\∀ y,y∈x.l->y.name.size<=1/\y.text.size<=1
structure vS (B:Nat) (w:World) (v1 v2:Value) (nf:Nat) (ms:List Mo):Prop where
 fns:∃ xs:List ByteArray,xs.length=nf/\(∀ x,x∈xs->x.size<=40)/\w.ownsRow B 9 1 v1 nf (xs.map Value.string)
 mom:OwnW B w v2 ms
theorem bD6.wide {B:Nat} {w:World} {v:Value} {ms:List Mo} (h:bD6 B w v ms):OwnW B w v ms :=
 ⟨h.row,fun x hx=>⟨(h.vars x hx).1.1,(h.vars x hx).2.1,(h.vars x hx).2.2,fun y hy=>⟨by rw [((h.vars x hx).1.2 y hy).1];exact Nat.le_refl 1,by rw [((h.vars x hx).1.2 y hy).2];exact Nat.le_refl 1⟩⟩⟩
theorem OwnW.low {B B':Nat} {w:World} {v:Value} {ms:List Mo} (h:OwnW B w v ms) (hB:B'<=B):OwnW B' w v ms :=
 ⟨eD h.row hB,fun x hx=>⟨eD (h.vars x hx).1 hB,(h.vars x hx).2⟩⟩
theorem zH {w w':World} {B:Nat} {e:TypeId} {z:Nat} {v:Value} {n:Nat} {xs:List Value} (h:w.ownsRow B e z v n xs) (hk:∀ b,B<=b->b<w.heap.size->w'.heap[b]?=w.heap[b]?):w'.ownsRow B e z v n xs:=by
 obtain ⟨h1,h2⟩:=h
 refine ⟨h1,?_⟩
 rcases h2 with h2 | ⟨g,cap,cur,hv,hg,hh,r⟩
 ·exact .inl h2
 exact .inr ⟨g,cap,cur,hv,hg,by rw [hk g hg (Array.getElem?_eq_some_iff.1 hh).1];exact hh,r⟩
theorem OwnW.from {B:Nat} {w w':World} {v:Value} {ms:List Mo} (h:OwnW B w v ms) (hk:∀ b,B<=b->b<w.heap.size->w'.heap[b]?=w.heap[b]?):OwnW B w' v ms :=
 ⟨zH h.row hk,fun x hx=>⟨zH (h.vars x hx).1 hk,(h.vars x hx).2⟩⟩
theorem vS.from {B:Nat} {w w':World} {v1 v2:Value} {nf:Nat} {ms:List Mo} (h:vS B w v1 v2 nf ms) (hk:∀ b,B<=b->b<w.heap.size->w'.heap[b]?=w.heap[b]?):vS B w' v1 v2 nf ms:=by
 obtain ⟨xs,h1,h2,h3⟩:=h.fns
 exact ⟨⟨xs,h1,h2,zH h3 hk⟩,h.mom.from hk⟩
theorem vS.low {B B':Nat} {w:World} {v1 v2:Value} {nf:Nat} {ms:List Mo} (h:vS B w v1 v2 nf ms) (hB:B'<=B):vS B' w v1 v2 nf ms:=by
 obtain ⟨xs,h1,h2,h3⟩:=h.fns
 exact ⟨⟨xs,h1,h2,eD h3 hB⟩,h.mom.low hB⟩
theorem vS.drawn {N B2:Nat} {w:World} {mv:Value} {ms:List Mo} (hf:w.heap[N+1]?=some (.cells qJ 9 (0,0))) (hm:bD6 B2 w mv ms) (hB:N+1<=B2):vS (N+1) w (.slice (some ⟨N+1,0,none⟩) 4 4) mv 4 ms:=by
 refine ⟨⟨[⟨#[109,97,105,110]⟩,⟨#[102]⟩,⟨#[]⟩,⟨#[103]⟩],rfl,?_,rfl,.inr ⟨N+1,4,_,rfl,Nat.le_refl _,hf,Nat.le_refl _,by unfold maxLen;omega,rfl,rfl⟩⟩,hm.wide.low hB⟩
 intro x hx
 simp only [List.mem_cons,List.not_mem_nil,or_false] at hx
 rcases hx with rfl | rfl | rfl | rfl
 all_goals decide
end Go.Proofs.YtmnmeaeicjhkhaaGreatDoor
