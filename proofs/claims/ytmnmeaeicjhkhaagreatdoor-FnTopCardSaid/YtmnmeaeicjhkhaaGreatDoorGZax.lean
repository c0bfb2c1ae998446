import Derived.Test.YtmnmeaeicjhkhaaGreatDoorGXcx
namespace Go.Proofs.YtmnmeaeicjhkhaaGreatDoor
open Go.RowKit
def pM (v:Value) (w w':World):Prop:=∀ b,b<w.heap.size->v.ownBlock≠some b->w'.heap[b]?=w.heap[b]?
theorem pM.refl (v:Value) (w:World):pM v w w:=fun _ _ _=>rfl
theorem pM.set {v:Value} {w W:World} (h:pM v w W) {g i:Nat} {u:Value} (hv:v.ownBlock=some g):pM v w (W.setCell ⟨g,i,none⟩ u):=fun b hb hn=>by
 rw [heap_setCell_other _ _ _ _ (fun e=>hn (by rw [hv];exact congrArg some e.symm))]
 exact h b hb hn
theorem pM.same {P:TypeId->Prop} {w w':World} {B:Nat} {e:TypeId} {z:Nat} {v:Value} {n:Nat} {xs:List Value} (h:pM v w w') (ho:w.ownsRow B e z v n xs) (hp:¬ P e):bM P w w':=fun b cs t fr hh hp'=>by
 rw [h b (cJ hh) (fun q=>by
  obtain ⟨_,cs',h'⟩:=eM ho b q
  rw [hh] at h'
  cases h'
  exact hp hp')]
 exact hh
theorem bQ4 {w w':World} {B:Nat} {e:TypeId} {z:Nat} {v u:Value} {n:Nat} {xs:List Value} (h:w.ownsRow B e z v n xs) (ho:pM u w w') (hd:∀ b,v.ownBlock=some b->u.ownBlock≠some b):w'.ownsRow B e z v n xs:=by
 refine ⟨h.1,?_⟩
 rcases h.2 with hn | ⟨g,cap,cur,hv,hB,hg,rest⟩
 ·exact .inl hn
 exact .inr ⟨g,cap,cur,hv,hB,(ho g (cJ hg) (hd g (by rw [hv];rfl))).trans hg,rest⟩
theorem bH8:∀ (l:List V) (j:Nat) (f:V),fJ (l.set j f)=if j<l.length then ((fJ l).set (j*2) (.string f.name)).set (j*2+1) (.string f.text) else fJ l
 | [],j,f=>by simp
 | x :: r,0,f=>by simp [List.set];rfl
 | x :: r,j+1,f=>by
  have ih:=bH8 r j f
  have e:∀ (x:V) (r:List V),fJ (x :: r)=.string x.name :: .string x.text :: fJ r:=fun _ _=>rfl
  rw [sx3,e,e,ih]
  by_cases h:j<r.length
  ·rw [if_pos h,if_pos (by simpa using h),show (j+1)*2=j*2+1+1 by omega]
   simp only [sx3]
  rw [if_neg h,if_neg (by simpa using h)]
section
def Short (l:List Tl):Prop:=∀ x,x∈l->x.d.fr.length<=200/\x.d.vs.length<=200
theorem pH:∀ (l:List Tl) (i:Nat) (x:Tl),l[i]?=some x->(dP l)[i*6]?=some (.int .i64 x.at_)/\(dP l)[i*6+1]?=some (.int .i64 x.d.code)/\(dP l)[i*6+2]?=some (.int .i64 x.d.num)/\(dP l)[i*6+3]?=some (.string x.d.text)/\(dP l)[i*6+4]?=some x.v5/\(dP l)[i*6+5]?=some x.v6
 | x :: r,0,y,h=>by cases h;exact ⟨rfl,rfl,rfl,rfl,rfl,rfl⟩
 | x :: r,i+1,y,h=>by
  have ih:=pH r i y h
  have e:dP (x :: r)=.int .i64 x.at_ :: .int .i64 x.d.code :: .int .i64 x.d.num :: .string x.d.text :: x.v5 :: x.v6 :: dP r:=rfl
  rw [e,show (i+1)*6=i*6+1+1+1+1+1+1 by omega]
  simpa only [List.getElem?_cons_succ] using ih
theorem bC1:∀ (l:List Tl) (j:Nat) (x y:Tl),l[j]?=some x->y.v5=x.v5->y.v6=x.v6->dP (l.set j y)=((((dP l).set (j*6) (.int .i64 y.at_)).set (j*6+1) (.int .i64 y.d.code)).set (j*6+2) (.int .i64 y.d.num)).set (j*6+3) (.string y.d.text)
 | z :: r,0,x,y,h,h5,h6=>by
  cases h
  show [Value.int .i64 y.at_,.int .i64 y.d.code,.int .i64 y.d.num,.string y.d.text,y.v5,y.v6] ++ dP r=_
  rw [h5,h6];rfl
 | z :: r,j+1,x,y,h,h5,h6=>by
  have ih:=bC1 r j x y h h5 h6
  have e:∀ (x:Tl) (r:List Tl),dP (x :: r)=.int .i64 x.at_ :: .int .i64 x.d.code :: .int .i64 x.d.num :: .string x.d.text :: x.v5 :: x.v6 :: dP r:=fun _ _=>rfl
  rw [sx3,e,e,ih,show (j+1)*6=j*6+1+1+1+1+1+1 by omega]
  simp only [sx3]
theorem yQ (l:List Tl) (j:Nat) (x y:Tl) (h:l[j]?=some x) (h1:y.at_=x.at_) (h2:y.d.code=x.d.code) (h3:y.d.num=x.d.num) (h4:y.d.text=x.d.text) (h5:y.v5=x.v5) (h6:y.v6=x.v6):dP (l.set j y)=dP l:=by
 obtain ⟨g0,g1,g2,g3,-⟩:=pH l j x h
 rw [bC1 l j x y h h5 h6,h1,h2,h3,h4]
 have s:∀ (m:List Value) (i:Nat) (u:Value),m[i]?=some u->m.set i u=m:=fun m i u hu=>by
  apply List.ext_getElem?
  intro q
  by_cases e:i=q
  ·subst e;rw [List.getElem?_set_self (List.getElem?_eq_some_iff.1 hu).1,hu]
  rw [List.getElem?_set_ne e]
 rw [s _ _ _ g0,s _ _ _ g1,s _ _ _ g2,s _ _ _ g3]
theorem dis_set {l:List Tl} {j:Nat} {x y:Tl} (h:l.Pairwise (fun x y=>(∀ b,x.v5.ownBlock=some b->y.v5.ownBlock≠some b)/\∀ b,x.v6.ownBlock=some b->y.v6.ownBlock≠some b)) (hx:l[j]?=some x) (h5:y.v5=x.v5) (h6:y.v6=x.v6):(l.set j y).Pairwise (fun x y=>(∀ b,x.v5.ownBlock=some b->y.v5.ownBlock≠some b)/\∀ b,x.v6.ownBlock=some b->y.v6.ownBlock≠some b):=by
 have e:(l.set j y).map (fun z:Tl=>(z.v5,z.v6))=l.map (fun z:Tl=>(z.v5,z.v6)):=by
  apply List.ext_getElem?
  intro i
  rw [List.getElem?_map,List.getElem?_map]
  by_cases c:j=i
  ·subst c
   rw [List.getElem?_set_self (List.getElem?_eq_some_iff.1 hx).1,hx]
   show some (y.v5,y.v6)=some (x.v5,x.v6)
   rw [h5,h6]
  rw [List.getElem?_set_ne c]
 have h':(l.map (fun z:Tl=>(z.v5,z.v6))).Pairwise (fun (p q:Value × Value)=>(∀ b,p.1.ownBlock=some b->q.1.ownBlock≠some b)/\∀ b,p.2.ownBlock=some b->q.2.ownBlock≠some b):=List.pairwise_map.2 h
 rw [<- e] at h'
 exact List.pairwise_map.1 h'
theorem dis_at {l:List Tl} (h:l.Pairwise (fun x y=>(∀ b,x.v5.ownBlock=some b->y.v5.ownBlock≠some b)/\∀ b,x.v6.ownBlock=some b->y.v6.ownBlock≠some b)) {i j:Nat} {x y:Tl} (hx:l[j]?=some x) (hy:l[i]?=some y) (hn:i≠j):(∀ b,y.v5.ownBlock=some b->x.v5.ownBlock≠some b)/\∀ b,y.v6.ownBlock=some b->x.v6.ownBlock≠some b:=by
 obtain ⟨lj,ej⟩:=List.getElem?_eq_some_iff.1 hx
 obtain ⟨li,ei⟩:=List.getElem?_eq_some_iff.1 hy
 have hp:=List.pairwise_iff_getElem.1 h
 rcases Nat.lt_or_gt_of_ne hn with c | c
 ·have q:=hp i j li lj c
  rw [ei,ej] at q
  exact q
 have q:=hp j i lj li c
 rw [ei,ej] at q
 exact ⟨fun b e e'=>q.1 b e' e,fun b e e'=>q.2 b e' e⟩
theorem bE5 {l:List Tl} {j:Nat} {y z:Tl} (h:z∈l.set j y):z=y∨∃ i,i≠j/\l[i]?=some z:=by
 obtain ⟨i,hi⟩:=List.mem_iff_getElem?.1 h
 by_cases c:j=i
 ·subst c
  have:j<(l.set j y).length:=(List.getElem?_eq_some_iff.1 hi).1
  rw [List.length_set] at this
  rw [List.getElem?_set_self this] at hi
  cases hi
  exact .inl rfl
 rw [List.getElem?_set_ne c] at hi
 exact .inr ⟨i,fun e=>c e.symm,hi⟩
section
variable {B:Nat} {w w':World} {v:Value} {l:List Tl} {j:Nat} {x y:Tl}
theorem dM.fr_put (h:dM B w v l) (hx:l[j]?=some x) (hy:dP (l.set j y)=dP l) (ho:pM x.v5 w w') (h5:y.v5=x.v5) (h6:y.v6=x.v6) (hf:eA B w' x.v5 y.d.fr) (hv:y.d.vs=x.d.vs):dM B w' v (l.set j y):=by
 have hm:x∈l:=List.mem_iff_getElem?.2 ⟨j,hx⟩
 have hs:bM (fun t=>t≠42) w w':=ho.same (h.fr x hm) (fun q=>q rfl)
 refine ⟨by rw [List.length_set,hy];exact cK h.row hs (by decide),fun z hz=>?_,fun z hz=>?_,dis_set h.dis hx h5 h6⟩
 ·rcases bE5 hz with rfl | ⟨i,hn,hi⟩
  ·rw [h5];exact hf
  exact bQ4 (h.fr z (List.mem_iff_getElem?.2 ⟨i,hi⟩)) ho (dis_at h.dis hx hi hn).1
 rcases bE5 hz with rfl | ⟨i,_,hi⟩
 ·rw [h6,hv];exact (h.vs x hm).same hs (by decide)
 exact (h.vs z (List.mem_iff_getElem?.2 ⟨i,hi⟩)).same hs (by decide)
theorem dM.vs_put (h:dM B w v l) (hx:l[j]?=some x) (hy:dP (l.set j y)=dP l) (ho:pM x.v6 w w') (h5:y.v5=x.v5) (h6:y.v6=x.v6) (hf:y.d.fr=x.d.fr) (hv:dD B w' x.v6 y.d.vs):dM B w' v (l.set j y):=by
 have hm:x∈l:=List.mem_iff_getElem?.2 ⟨j,hx⟩
 have hs:bM (fun t=>t≠40) w w':=ho.same (h.vs x hm).row (fun q=>q rfl)
 refine ⟨by rw [List.length_set,hy];exact cK h.row hs (by decide),fun z hz=>?_,fun z hz=>?_,dis_set h.dis hx h5 h6⟩
 ·rcases bE5 hz with rfl | ⟨i,_,hi⟩
  ·rw [h5,hf];exact cK (h.fr x hm) hs (by decide)
  exact cK (h.fr z (List.mem_iff_getElem?.2 ⟨i,hi⟩)) hs (by decide)
 rcases bE5 hz with rfl | ⟨i,hn,hi⟩
 ·rw [h6];exact hv
 exact ⟨bQ4 (h.vs z (List.mem_iff_getElem?.2 ⟨i,hi⟩)).row ho (dis_at h.dis hx hi hn).2,(h.vs z (List.mem_iff_getElem?.2 ⟨i,hi⟩)).sz⟩
end
end
end Go.Proofs.YtmnmeaeicjhkhaaGreatDoor
