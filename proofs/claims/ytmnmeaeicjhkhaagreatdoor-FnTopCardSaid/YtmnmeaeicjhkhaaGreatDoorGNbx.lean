import Derived.Test.YtmnmeaeicjhkhaaGreatDoorGZax
import Derived.Test.YtmnmeaeicjhkhaaGreatDoorGDcx
set_option maxRecDepth 100000
set_option maxHeartbeats 16000000
namespace Go.Proofs.YtmnmeaeicjhkhaaGreatDoor
open Go.RowKit
section
def shp (x:Tl):Value × Value × Nat × Nat:=(x.v5,x.v6,x.d.fr.length,x.d.vs.length)
theorem shp_set {l:List Tl} {j:Nat} {x y:Tl} (hx:l[j]?=some x) (h:shp y=shp x):(l.set j y).map shp=l.map shp:=by
 apply List.ext_getElem?
 intro i
 rw [List.getElem?_map,List.getElem?_map]
 by_cases c:j=i
 ·subst c
  rw [List.getElem?_set_self (List.getElem?_eq_some_iff.1 hx).1,hx]
  show some (shp y)=some (shp x)
  rw [h]
 rw [List.getElem?_set_ne c]
section
variable {B:Nat} {w:World} {v:Value} {l:List Tl} {j k g n c:Nat} {x:Tl}
theorem over_vs (h:dM B w v l) (hx:l[j]?=some x) (h6:x.v6=.slice (some ⟨g,0,none⟩) n c) (hn:n=x.d.vs.length) (hk:k<n) (s t:ByteArray) (hs:s.size<=maxLen) (ht:t.size<=maxLen) :
  (B<=g/\(∃ u0,w.cell? ⟨g,k*2,none⟩=some (.string u0))/\w.frozen? ⟨g,k*2,none⟩=false/\(∃ u1,w.cell? ⟨g,k*2+1,none⟩=some (.string u1))/\w.frozen? ⟨g,k*2+1,none⟩=false) /\
  ∃ y,shp y=shp x/\dM B ((w.setCell ⟨g,k*2,none⟩ (.string s)).setCell ⟨g,k*2+1,none⟩ (.string t)) v (l.set j y):=by
 have hm:x∈l:=List.mem_iff_getElem?.2 ⟨j,hx⟩
 have hv:=h.vs x hm
 have hr:w.ownsRow B 40 2 (.slice (some ⟨g,0,none⟩) n c) n (fJ x.d.vs):=by have:=hv.row;rw [h6,<- hn] at this;exact this
 have hkl:k<x.d.vs.length:=by omega
 obtain ⟨e0,e1⟩:=rS x.d.vs k hkl
 obtain ⟨c0,f0⟩:=bL hr _ _ e0
 obtain ⟨c1,f1⟩:=bL hr _ _ e1
 refine ⟨⟨(eM hr g rfl).1,⟨_,c0⟩,f0,⟨_,c1⟩,f1⟩,⟨x.at_,⟨x.d.code,x.d.num,x.d.text,x.d.fr,x.d.vs.set k ⟨s,t⟩⟩,x.v5,x.v6⟩,by unfold shp;rw [List.length_set],?_⟩
 refine dM.vs_put h hx (yQ _ _ _ _ hx rfl rfl rfl rfl rfl rfl) ?_ rfl rfl rfl ⟨?_,fun z hz=>?_⟩
 ·rw [h6];exact ((pM.refl _ _).set rfl).set rfl
 ·show (World.setCell _ _ _).ownsRow B 40 2 x.v6 (x.d.vs.set k ⟨s,t⟩).length (fJ (x.d.vs.set k ⟨s,t⟩))
  rw [h6,List.length_set,<- hn,bH8,if_pos hkl]
  exact kH (kH hr (k*2) _) (k*2+1) _
 rcases List.mem_or_eq_of_mem_set hz with hz | hz
 ·exact hv.sz z hz
 rw [hz];exact ⟨hs,ht⟩
theorem over_fr (h:dM B w v l) (hx:l[j]?=some x) (h5:x.v5=.slice (some ⟨g,0,none⟩) n c) (hn:n=x.d.fr.length) (hk:k<n) (q:Fr) :
  (B<=g/\(∃ u0,w.cell? ⟨g,k*3,none⟩=some (.int .i64 u0))/\w.frozen? ⟨g,k*3,none⟩=false/\(∃ u1,w.cell? ⟨g,k*3+1,none⟩=some (.int .i64 u1))/\w.frozen? ⟨g,k*3+1,none⟩=false/\(∃ u2,w.cell? ⟨g,k*3+2,none⟩=some (.int .i64 u2))/\w.frozen? ⟨g,k*3+2,none⟩=false) /\
  ∃ y,shp y=shp x/\dM B (((w.setCell ⟨g,k*3,none⟩ (.int .i64 q.fn)).setCell ⟨g,k*3+1,none⟩ (.int .i64 q.line)).setCell ⟨g,k*3+2,none⟩ (.int .i64 q.frm)) v (l.set j y):=by
 have hm:x∈l:=List.mem_iff_getElem?.2 ⟨j,hx⟩
 have hv:=h.fr x hm
 have hr:w.ownsRow B 42 3 (.slice (some ⟨g,0,none⟩) n c) n (cA x.d.fr):=by have:=hv;unfold eA at this;rw [h5,<- hn] at this;exact this
 have hkl:k<x.d.fr.length:=by omega
 obtain ⟨e0,e1,e2⟩:=qH x.d.fr k hkl
 obtain ⟨c0,f0⟩:=bL hr _ _ e0
 obtain ⟨c1,f1⟩:=bL hr _ _ e1
 obtain ⟨c2,f2⟩:=bL hr _ _ e2
 refine ⟨⟨(eM hr g rfl).1,⟨_,c0⟩,f0,⟨_,c1⟩,f1,⟨_,c2⟩,f2⟩,⟨x.at_,⟨x.d.code,x.d.num,x.d.text,x.d.fr.set k q,x.d.vs⟩,x.v5,x.v6⟩,by unfold shp;rw [List.length_set],?_⟩
 refine dM.fr_put h hx (yQ _ _ _ _ hx rfl rfl rfl rfl rfl rfl) ?_ rfl rfl ?_ rfl
 ·rw [h5];exact (((pM.refl _ _).set rfl).set rfl).set rfl
 show (World.setCell _ _ _).ownsRow B 42 3 x.v5 (x.d.fr.set k q).length (cA (x.d.fr.set k q))
 rw [h5,List.length_set,<- hn,bA8,if_pos hkl]
 exact kH (kH (kH hr (k*3) _) (k*3+1) _) (k*3+2) _
end
end
section
theorem tds_at {B:Nat} {w:World} {v:Value} {l tg:List Tl} {i:Nat} {x0:Tl} (_h:dM B w v l) (hs:l.map shp=tg.map shp) (hx0:tg[i]?=some x0):∃ x,l[i]?=some x/\x.v5=x0.v5/\x.v6=x0.v6/\x.d.fr.length=x0.d.fr.length/\x.d.vs.length=x0.d.vs.length:=by
 have h:=congrArg (fun q:List (Value × Value × Nat × Nat)=>q[i]?) hs
 simp only [List.getElem?_map,hx0] at h
 cases hx:l[i]? with
 | none=>rw [hx] at h;cases h
 | some x =>
  rw [hx] at h
  have e:shp x=shp x0:=Option.some.inj h
  unfold shp at e
  exact ⟨x,rfl,congrArg (·.1) e,congrArg (·.2.1) e,congrArg (·.2.2.1) e,congrArg (·.2.2.2) e⟩
theorem shp_len {l tg:List Tl} (hs:l.map shp=tg.map shp):l.length=tg.length:=by have:=congrArg List.length hs;simpa using this
theorem zR {B:Nat} {w:World} {l:List Tl} {g N cp i:Nat} {x:Tl} (h:dM B w (.slice (some ⟨g,0,none⟩) N cp) l) (hN:l.length=N) (hx:l[i]?=some x):w.cell? ⟨g,i*6+4,none⟩=some x.v5/\w.cell? ⟨g,i*6+5,none⟩=some x.v6:=by
 have hr:=h.row
 rw [hN] at hr
 obtain ⟨-,-,-,-,e4,e5⟩:=pH l i x hx
 exact ⟨(bL hr _ _ e4).1,(bL hr _ _ e5).1⟩
structure bH9 (w w1 w2:World) (p1 p2 q1 q2:Value) (W:World):Prop where
 b0:Below w.heap.size w W
 b1:Below w1.heap.size w1 W
 b2:Below w2.heap.size w2 W
 x:W.heap[w1.heap.size]?=some (.cells #[p1,p2] 26 (0,0))
 y:W.heap[w2.heap.size]?=some (.cells #[q1,q2] 26 (0,0))
 s1:w.heap.size<=w1.heap.size
 s2:w1.heap.size<w2.heap.size
section
variable {w w1 w2 W W':World} {p1 p2 q1 q2:Value} {B:Nat}
theorem bH9.goAt (h:bH9 w w1 w2 p1 p2 q1 q2 W) (hb:Below B W W') (hB:w2.heap.size+1<=B):bH9 w w1 w2 p1 p2 q1 q2 W':=by
 have h1:=h.s1
 have h2:=h.s2
 exact ⟨h.b0.trans (hb.mono (by omega)),h.b1.trans (hb.mono (by omega)),h.b2.trans (hb.mono (by omega)),by rw [hb.block _ (by omega)];exact h.x,by rw [hb.block _ (by omega)];exact h.y,h1,h2⟩
theorem bH9.go (h:bH9 w w1 w2 p1 p2 q1 q2 W) (hb:Below W.heap.size W W'):bH9 w w1 w2 p1 p2 q1 q2 W':=h.goAt hb (fT h.y)
theorem bH9.cells (h:bH9 w w1 w2 p1 p2 q1 q2 W):W.cell? ⟨w1.heap.size,0,none⟩=some p1/\W.cell? ⟨w1.heap.size,1,none⟩=some p2/\W.cell? ⟨w2.heap.size,0,none⟩=some q1/\W.cell? ⟨w2.heap.size,1,none⟩=some q2:=by
 refine ⟨?_,?_,?_,?_⟩
 ·rw [cell_of_row W w1.heap.size 0 _ _ _ h.x];rfl
 ·rw [cell_of_row W w1.heap.size 1 _ _ _ h.x];rfl
 ·rw [cell_of_row W w2.heap.size 0 _ _ _ h.y];rfl
 rw [cell_of_row W w2.heap.size 1 _ _ _ h.y];rfl
theorem bH9.sz (h:bH9 w w1 w2 p1 p2 q1 q2 W):w2.heap.size+1<=W.heap.size:=fT h.y
end
end
theorem bQ6 (lo lo':Nat) (v v':Value) (n:Nat) (f:Nat->V) (w:World) (hv:fN lo w v n f) (hv':fN lo' w v' n f) :
  Calls Tryz.prog 43 #[v,v'] w fun e w'=>e=.returned (.bool true)/\Below w.heap.size w w':=by
 have HV:=O hv
 have HV':=O hv'
 obtain ⟨a,cap,rfl,hn,_⟩:=hv
 obtain ⟨a',cap',rfl,_,_⟩:=hv'
 unfold maxLen at hn
 go_enter Tryz.func43,Tryz.ntmps43
 go_wp2
 go_loopw [5,13] (fun _ i w'=>∃ (k:Nat),k<=n/\i=.int .i64 k/\Below w.heap.size w w') (fun _ i _=>n - (intOf i).toNat)
 case atStart=>exact ⟨0,by omega,rfl,Below.refl _ _⟩
 case round =>
  obtain ⟨k,hk,rfl,hb⟩:=hrel
  by_cases hlt:k<n
  ·obtain ⟨_,_,e,_,h1⟩:=(Z HV).below hb
   cases e
   obtain ⟨b,o,rfl,c0,c1,_⟩:=h1 k hlt
   obtain ⟨_,_,e,_,h2⟩:=(Z HV').below hb
   cases e
   obtain ⟨b',o',rfl,d0,d1,_⟩:=h2 k hlt
   clear h1 h2
   generalize (f k).name=fa at *
   generalize (f k).text=fb at *
   have hi1:(0:Int)<=(k:Int):=by omega
   have hi2:(k:Int)<(n:Int):=by omega
   go_wp2
   go_quiet (fail)
   go_wp2
   go_roundw
   case rel=>exact ⟨k+1,by omega,by go_num,below_drewN hb _⟩
   case measure=>simp [intOf];omega
  go_wp2
  go_ret
  exact ⟨rfl,hb⟩
theorem bQ7 (lo lo':Nat) (v v':Value) (ts us:List Tl) (w:World) (hv:dM lo w v ts) (hv':dM lo' w v' us) (he:ts.map (fun x=>(x.at_,x.d))=us.map (fun x=>(x.at_,x.d))) (hl:ts.length<=500) (hsh:Short ts) :
  Calls Tryz.prog 12 #[v,v'] w fun e w'=>e=.returned (.bool true)/\Below w.heap.size w w':=by
 have HV:=O hv
 have HV':=O hv'
 have HSH:=O hsh
 have HE:=O he
 have hlen:us.length=ts.length:=by have:=congrArg List.length he;simpa using this.symm
 have hrow:=hv.row
 have hrow':=hv'.row
 rw [hlen] at hrow'
 obtain ⟨n,hn⟩:∃ n,n=ts.length:=⟨_,rfl⟩
 rw [<- hn] at hl hrow hrow'
 have HN:=O hn
 obtain ⟨a,cap,rfl⟩:=bR hrow
 obtain ⟨a',cap',rfl⟩:=bR hrow'
 have HR:=O hrow
 have HR':=O hrow'
 clear hv hv' he hsh hn hrow hrow' hlen
 go_enter Tryz.func12,Tryz.ntmps12
 go_wp2
 go_loopw [5,13] (fun _ i w'=>∃ (k:Nat),k<=n/\i=.int .i64 k/\Below w.heap.size w w') (fun _ i _=>n - (intOf i).toNat)
 case atStart=>exact ⟨0,by omega,rfl,Below.refl _ _⟩
 case round =>
  obtain ⟨k,hk,rfl,hb⟩:=hrel
  by_cases hlt:k<n
  ·obtain ⟨x,hx⟩:∃ x,ts[k]?=some x:=⟨_,List.getElem?_eq_getElem (by rw [<- Z HN];exact hlt)⟩
   obtain ⟨y,hy,exy⟩:∃ y,us[k]?=some y/\(y.at_,y.d)=(x.at_,x.d):=by
    have h:=congrArg (fun l:List (Int × Td)=>l[k]?) (Z HE)
    simp only [List.getElem?_map,hx] at h
    cases hy:us[k]? with
    | none=>rw [hy] at h;cases h
    | some y=>rw [hy] at h;exact ⟨y,rfl,by simpa using h.symm⟩
   obtain ⟨ga,hga⟩:∃ ga,a=some ⟨ga,0,none⟩:=by
    rcases (Z HR).2 with ⟨_,h0⟩ | ⟨g,cap,cur,hv,_⟩
    ·omega
    cases hv;exact ⟨g,rfl⟩
   obtain ⟨gb,hgb⟩:∃ gb,a'=some ⟨gb,0,none⟩:=by
    rcases (Z HR').2 with ⟨_,h0⟩ | ⟨g,cap,cur,hv,_⟩
    ·omega
    cases hv;exact ⟨g,rfl⟩
   subst hga
   subst hgb
   obtain ⟨e0,e1,e2,e3,e4,e5⟩:=pH _ k _ hx
   obtain ⟨i0,i1,i2,i3,i4,i5⟩:=pH _ k _ hy
   have HO:=bN (Z HR) hb
   have HO':=bN (Z HR') hb
   obtain ⟨c0,-⟩:=bL HO _ _ e0
   obtain ⟨c1,-⟩:=bL HO _ _ e1
   obtain ⟨c2,-⟩:=bL HO _ _ e2
   obtain ⟨c3,-⟩:=bL HO _ _ e3
   obtain ⟨c4,-⟩:=bL HO _ _ e4
   obtain ⟨c5,-⟩:=bL HO _ _ e5
   obtain ⟨d0,-⟩:=bL HO' _ _ i0
   obtain ⟨d1,-⟩:=bL HO' _ _ i1
   obtain ⟨d2,-⟩:=bL HO' _ _ i2
   obtain ⟨d3,-⟩:=bL HO' _ _ i3
   obtain ⟨d4,-⟩:=bL HO' _ _ i4
   obtain ⟨d5,-⟩:=bL HO' _ _ i5
   have hf1:=((Z HV).fr x (List.mem_iff_getElem?.2 ⟨k,hx⟩)).below hb
   have hv1:=((Z HV).vs x (List.mem_iff_getElem?.2 ⟨k,hx⟩)).below hb
   have hf2:=((Z HV').fr y (List.mem_iff_getElem?.2 ⟨k,hy⟩)).below hb
   have hv2:=((Z HV').vs y (List.mem_iff_getElem?.2 ⟨k,hy⟩)).below hb
   have hs:=(Z HSH x (List.mem_iff_getElem?.2 ⟨k,hx⟩)).1
   obtain ⟨yat,yd,y5,y6⟩:=y
   obtain ⟨xat,⟨q1,q2,q3,q4,q5⟩,x5,x6⟩:=x
   cases exy
   have HF1:=O hf1
   have HF2:=O hf2
   have HV1:=O hv1
   have HV2:=O hv2
   dsimp only at c0 c1 c2 c3 c4 c5 d0 d1 d2 d3 d4 d5 hs
   clear HO HO' e0 e1 e2 e3 e4 e5 i0 i1 i2 i3 i4 i5 hx hy hf1 hf2 hv1 hv2
   have hi1:(0:Int)<=(k:Int):=by omega
   have hi2:(k:Int)<(n:Int):=by omega
   have BD:=O ((Below.refl wr.heap.size wr).drew)
   go_wp2
   go_region_held3 (fun w'=>(w'.cell? ⟨ga,k*6,none⟩=some (.int .i64 yat)/\w'.cell? ⟨ga,k*6+1,none⟩=some (.int .i64 q1)/\w'.cell? ⟨ga,k*6+2,none⟩=some (.int .i64 q2)/\w'.cell? ⟨ga,k*6+3,none⟩=some (.string q3)/\w'.cell? ⟨ga,k*6+4,none⟩=some x5/\w'.cell? ⟨ga,k*6+5,none⟩=some x6) /\
     w'.cell? ⟨gb,k*6,none⟩=some (.int .i64 yat)/\w'.cell? ⟨gb,k*6+1,none⟩=some (.int .i64 q1)/\w'.cell? ⟨gb,k*6+2,none⟩=some (.int .i64 q2)/\w'.cell? ⟨gb,k*6+3,none⟩=some (.string q3)/\w'.cell? ⟨gb,k*6+4,none⟩=some y5/\w'.cell? ⟨gb,k*6+5,none⟩=some y6)
    (first | (exact ⟨⟨c0,c1,c2,c3,c4,c5⟩,d0,d1,d2,d3,d4,d5⟩) | (exact ⟨⟨bG hbA c0,bG hbA c1,bG hbA c2,bG hbA c3,bG hbA c4,bG hbA c5⟩,bG hbA d0,bG hbA d1,bG hbA d2,bG hbA d3,bG hbA d4,bG hbA d5⟩) | (exact ⟨⟨bG hbB (bG hbA c0),bG hbB (bG hbA c1),bG hbB (bG hbA c2),bG hbB (bG hbA c3),bG hbB (bG hbA c4),bG hbB (bG hbA c5)⟩,bG hbB (bG hbA d0),bG hbB (bG hbA d1),bG hbB (bG hbA d2),bG hbB (bG hbA d3),bG hbB (bG hbA d4),bG hbB (bG hbA d5)⟩))
    ((first | (go_at_call 42;refine (wFrames_any _ _ q4 _ ((Z HF1).below (Z BD)).read ((Z HF2).below (Z BD)).read hs).mono ?_;rintro e wA ⟨rfl,hbA⟩) | (go_at_call 43;refine (bQ6 lo lo' _ _ _ _ _ (((Z HV1).below (Z BD)).below hbA).vars (((Z HV2).below (Z BD)).below hbA).vars).mono ?_;rintro e wB ⟨rfl,hbB⟩)))
   have hbn:Below wr.heap.size wr wB:=(Z BD).trans ((hbA.mono (by simp)).trans (hbB.mono (by have:=hbA.size;simpa using this)))
   go_wp2
   go_roundw
   case rel=>exact ⟨k+1,by omega,by go_num,hb.trans (hbn.mono hb.size)⟩
   case measure=>simp [intOf];omega
  go_wp2
  go_ret
  exact ⟨rfl,hb⟩
theorem bJ0 (lo lo':Nat) (v1 v2 v1' v2':Value) (nf:Nat) (fns:Nat->ByteArray) (n:Nat) (f:Nat->M) (w:World) (h1:eE lo w v1 nf fns) (h2:bQ lo w v2 n f) (h1':eE lo' w v1' nf fns) (h2':bQ lo' w v2' n f) :
  Calls Tryz.prog 15 #[.agg #[v1,v2],.agg #[v1',v2']] w fun e w'=>e=.returned (.bool true)/\Below w.heap.size w w':=by
 obtain ⟨w2,hw2⟩:∃ w2,w2=(w.alloc (.cells #[v1,v2] 26)).alloc (.cells #[v1',v2'] 26):=⟨_,rfl⟩
 have hb:Below w.heap.size w w2:=by rw [hw2];exact ((Below.refl _ _).alloc (Nat.le_refl _) _).alloc (by simp) _
 have x0:w2.cell? ⟨w.heap.size,0,none⟩=some v1:=by rw [hw2,World.cell?_alloc_old _ _ _ (by simp),bK _ _ _ _ _ rfl];rfl
 have x1:w2.cell? ⟨w.heap.size,1,none⟩=some v2:=by rw [hw2,World.cell?_alloc_old _ _ _ (by simp),bK _ _ _ _ _ rfl];rfl
 have y0:w2.cell? ⟨w.heap.size+1,0,none⟩=some v1':=by rw [hw2,bK _ _ _ _ _ (by simp)];rfl
 have y1:w2.cell? ⟨w.heap.size+1,1,none⟩=some v2':=by rw [hw2,bK _ _ _ _ _ (by simp)];rfl
 have H1:=O (h1.below hb)
 have H2:=O (h2.below hb)
 have H1':=O (h1'.below hb)
 have H2':=O (h2'.below hb)
 have HB:=O hb
 obtain ⟨a1,c1,rfl,hn1,-⟩:=h1
 obtain ⟨a2,c2,rfl,hn2,-⟩:=h2
 obtain ⟨a1',c1',rfl,-,-⟩:=h1'
 obtain ⟨a2',c2',rfl,-,-⟩:=h2'
 have XX:=O (And.intro x0 (And.intro x1 (And.intro y0 y1)))
 unfold maxLen at hn1 hn2
 clear hb x0 x1 y0 y1
 go_enter Tryz.func15,Tryz.ntmps15
 go_upto_region 4 with fail
 rw [<- hw2]
 clear hw2
 obtain ⟨x0,x1,y0,y1⟩:=Z XX
 go_wp2_with fail
 go_loopw [5,28] (fun _ i wr=>∃ (k:Nat),k<=nf/\i=.int .i64 k/\Below w2.heap.size w2 wr) (fun _ i _=>nf - (intOf i).toNat)
 case atStart=>exact ⟨0,by omega,rfl,Below.refl _ _⟩
 case round =>
  clear x0 x1 y0 y1
  obtain ⟨k,hk,rfl,hb⟩:=hrel
  have x0:=bG hb (Z XX).1
  have x1:=bG hb (Z XX).2.1
  have y0:=bG hb (Z XX).2.2.1
  have y1:=bG hb (Z XX).2.2.2
  by_cases hlt:k<nf
  ·obtain ⟨_,_,e,_,h1⟩:=(Z H1).below hb
   cases e
   obtain ⟨b,o,rfl,p0,-⟩:=h1 k hlt
   obtain ⟨_,_,e,_,h2⟩:=(Z H1').below hb
   cases e
   obtain ⟨b',o',rfl,q0,-⟩:=h2 k hlt
   clear h1 h2
   generalize fns k=fa at *
   have hi1:(0:Int)<=(k:Int):=by omega
   have hi2:(k:Int)<(nf:Int):=by omega
   go_wp2
   go_quiet (fail)
   go_wp2
   go_roundw
   case rel=>exact ⟨k+1,by omega,by go_num,below_drewN hb _⟩
   case measure=>simp [intOf];omega
  have XR:=O (And.intro x0 (And.intro x1 (And.intro y0 y1)))
  have M2:=O ((Z H2).below hb)
  have M2':=O ((Z H2').below hb)
  have HB1:=hT HB hb
  clear H1 H1' H2 H2' XX hb
  go_wp2_with fail
  clear x0 x1 y0 y1
  go_loopw [6,46] (fun _ i wx=>∃ (j:Nat),j<=n/\i=.int .i64 j/\Below wr.heap.size wr wx) (fun _ i _=>n - (intOf i).toNat)
  case atStart=>exact ⟨0,by omega,rfl,Below.refl _ _⟩
  case round =>
   obtain ⟨j,hj,rfl,hb⟩:=hrel
   have x0:=bG hb (Z XR).1
   have x1:=bG hb (Z XR).2.1
   have y0:=bG hb (Z XR).2.2.1
   have y1:=bG hb (Z XR).2.2.2
   have HBR:=hT HB1 hb
   by_cases hlj:j<n
   ·obtain ⟨_,_,e,_,h1⟩:=(Z M2).below hb
    cases e
    obtain ⟨b,o,vv,rfl,p0,p1,p2,p3,p4,p5,-,hvv,-⟩:=h1 j hlj
    obtain ⟨_,_,e,_,h2⟩:=(Z M2').below hb
    cases e
    obtain ⟨b',o',vv',rfl,q0,q1,q2,q3,q4,q5,-,hvv',-⟩:=h2 j hlj
    clear h1 h2
    obtain ⟨W,hW⟩:∃ W,W=(wr.alloc (.cells #[.int .i64 (f j).kind,.int .i64 (f j).task,.int .i64 (f j).fn,.int .i64 (f j).line,.string (f j).text,vv] 108)).alloc (.cells #[.int .i64 (f j).kind,.int .i64 (f j).task,.int .i64 (f j).fn,.int .i64 (f j).line,.string (f j).text,vv'] 108):=⟨_,rfl⟩
    have hbW:Below wr.heap.size wr W:=by rw [hW];exact ((Below.refl _ _).alloc (Nat.le_refl _) _).alloc (by simp) _
    have HS:=O (hvv.below hbW)
    have HS':=O (hvv'.below hbW)
    have HBW:=O hbW
    obtain ⟨va,vc,rfl,-⟩:=hvv
    obtain ⟨va',vc',rfl,-⟩:=hvv'
    clear hbW
    generalize (f j).kind=fa at *
    generalize (f j).task=fb at *
    generalize (f j).fn=fc at *
    generalize (f j).line=fd at *
    generalize (f j).text=fe at *
    have BX:=bH wr (.cells #[.int .i64 fa,.int .i64 fb,.int .i64 fc,.int .i64 fd,.string fe,.slice va (f j).nv vc] 108)
    have y1':=bG BX y1
    have q0':=bG BX q0
    have q1':=bG BX q1
    have q2':=bG BX q2
    have q3':=bG BX q3
    have q4':=bG BX q4
    have q5':=bG BX q5
    clear BX
    have hi1:(0:Int)<=(j:Int):=by omega
    have hi2:(j:Int)<(n:Int):=by omega
    go_wp2_with fail
    rw [<- hW]
    refine (bQ6 lo lo' _ _ _ _ _ (Z HS) (Z HS')).mono ?_
    rintro e w5 ⟨rfl,hb5⟩
    have hbn:=hb.trans (((Z HBW).trans (hb5.mono (Z HBW).size)).mono hb.size)
    have HBN:=O hbn
    clear hbn hb5 hW
    go_wp2
    go_roundw
    case rel=>exact ⟨j+1,by omega,by go_num,Z HBN⟩
    case measure=>simp [intOf];omega
   go_wp2
   go_ret
   exact ⟨rfl,Z HBR⟩
end Go.Proofs.YtmnmeaeicjhkhaaGreatDoor
