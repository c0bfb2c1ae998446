import Derived.Test.YtmnmeaeicjhkhaaGreatDoorGTz
import Derived.Test.YtmnmeaeicjhkhaaGreatDoorGXaz
import Derived.Deep.LoopGhost
import Derived.Test.YtmnmeaeicjhkhaaGreatDoorGXcz
set_option maxRecDepth 100000
set_option maxHeartbeats 16000000
namespace Go.Proofs.YtmnmeaeicjhkhaaGreatDoor
open Go.RowKit
def mtOf (z:Int) (s:ByteArray):ByteArray :=
 if 0 < z then mtOf (z / 10) (strOfNums [48 + z % 10] ++ s) else s
termination_by z.toNat
decreasing_by omega
def mtx (k:Int):ByteArray:=⟨#[109]⟩ ++ mtOf k ByteArray.empty
theorem markTextK_any (k:Int) (w:World) (h1:0 < k) (h2:k≤4398046511104) :
  Calls Tryz.prog 78 #[.int .i64 k] w fun e w'=>e=.returned (.string (mtx k))∧Below w.heap.size w w'∧(mtx k).size≤maxLen:=by
 go_enter Tryz.func78,Tryz.ntmps78
 go_wp2
 go_loopw [0,3] (fun q o wr=>∃ (z:Int) (s:ByteArray),q=.int .i64 z∧o=.string s∧0≤z∧z + s.size≤k∧mtOf z s=mtOf k ByteArray.empty∧Below w.heap.size w wr) (fun q _ _=>(intOf q).toNat)
 case atStart=>exact ⟨k,ByteArray.empty,rfl,rfl,by omega,by simp,rfl,Below.refl _ _⟩
 case round =>
  obtain ⟨z,s,rfl,rfl,hz,hs,hmt,hb⟩:=hrel
  have HB:=hide hb
  have HMT:=hide hmt
  clear hb hmt
  by_cases hlt:0 < z
  ·have hcv:∀ d:Int,Sem.run Tryz.prog (convert 22 9 (.slice (some ⟨wr.heap.size,0,none⟩) 1 1)) (wr.alloc (.cells #[.int .u8 d] 5))=.ok (.string (strOfNums [d])) (wr.alloc (.cells #[.int .u8 d] 5)):=fun d=>by
    refine run_convert_bytes_arg (P:=Tryz.prog) (w:=wr.alloc (.cells #[.int .u8 d] 5)) 22 5 Tryz.underlying22 Tryz.underlying5 wr.heap.size 0 1 1 [d] rfl (fun i hi=>?_) 9 Tryz.underlying9
    have e:i=0:=by omega
    subst e
    rw [cell_alloc_at _ _ _ _ _ rfl];rfl
   have hsz:∀ d:Int,(strOfNums [d]).size=1:=fun d=>strOfNums_size [d]
   go_wp2
   refine ⟨⟨z / 10,_,rfl,rfl,by omega,?_,?_,(uh HB).alloc (uh HB).size _⟩,?_⟩
   ·rw [ByteArray.size_append,hsz];omega
   ·rw [← uh HMT]
    conv=>rhs;rw [mtOf]
    rw [if_pos hlt]
   ·simp only [intOf];omega
  ·have e:mtOf z s=s:=by rw [mtOf,if_neg hlt]
   rw [e] at HMT
   have HM2:=hide (show (⟨#[109]⟩:ByteArray) ++ s=mtx k from by rw [uh HMT];rfl)
   have hzz:((⟨#[109]⟩:ByteArray) ++ s).size≤maxLen:=by rw [ByteArray.size_append];unfold maxLen;have:(⟨#[109]⟩:ByteArray).size=1:=rfl;omega
   have HZ:=hide hzz
   clear e hzz
   go_wp2
   go_ret
   rw [← uh HM2]
   exact ⟨rfl,uh HB,uh HZ⟩
def OnlyAt (v:Value) (w w':World):Prop:=∀ b,b < w.heap.size→v.ownBlock ≠ some b→w'.heap[b]?=w.heap[b]?
theorem OnlyAt.refl (v:Value) (w:World):OnlyAt v w w:=fun _ _ _=>rfl
theorem OnlyAt.trans {v:Value} {a b c:World} (h:OnlyAt v a b) (hs:a.heap.size≤b.heap.size) (k:OnlyAt v b c):OnlyAt v a c:=fun x hx hn=>(k x (by omega) hn).trans (h x hx hn)
theorem OnlyAt.of_below {v:Value} {w w':World} (h:Below w.heap.size w w'):OnlyAt v w w':=fun b hb _=>h.block b hb
theorem OnlyAt.set {v:Value} {w W:World} (h:OnlyAt v w W) {g i:Nat} {u:Value} (hv:v.ownBlock=some g):OnlyAt v w (W.setCell ⟨g,i,none⟩ u):=fun b hb hn=>by
 rw [heap_setCell_other _ _ _ _ (fun e=>hn (by rw [hv];exact congrArg some e.symm))]
 exact h b hb hn
theorem OnlyAt.same {P:TypeId→Prop} {w w':World} {B:Nat} {e:TypeId} {z:Nat} {v:Value} {n:Nat} {xs:List Value} (h:OnlyAt v w w') (ho:w.ownsRow B e z v n xs) (hp:¬ P e):Same P w w':=fun b cs t fr hh hp'=>by
 rw [h b (heap_ltx hh) (fun q=>by
  obtain ⟨_,cs',h'⟩:=owns_kd ho b q
  rw [hh] at h'
  cases h'
  exact hp hp')]
 exact hh
theorem owns_only {w w':World} {B:Nat} {e:TypeId} {z:Nat} {v u:Value} {n:Nat} {xs:List Value} (h:w.ownsRow B e z v n xs) (ho:OnlyAt u w w') (hd:∀ b,v.ownBlock=some b→u.ownBlock ≠ some b):w'.ownsRow B e z v n xs:=by
 refine ⟨h.1,?_⟩
 rcases h.2 with hn | ⟨g,cap,cur,hv,hB,hg,rest⟩
 ·exact .inl hn
 ·exact .inr ⟨g,cap,cur,hv,hB,(ho g (heap_ltx hg) (hd g (by rw [hv];rfl))).trans hg,rest⟩
def mkFrK (k:Int) (i:Nat):Fr:=⟨k + i * 3,k + i * 3 + 1,k + i * 3 + 1 + 1⟩
def markFr (k:Int) (n:Nat):List Fr:=(List.range n).map (mkFrK k)
theorem markFrK_any (lo:Nat) (v:Value) (l:List Fr) (k:Int) (w:World) (hv:FrsAt lo w v l) (hl:l.length≤200) (hk:0 < k) (hk2:k≤4398046000000) :
  Calls Tryz.prog 79 #[v,.int .i64 k] w fun e w'=>(∃ l',e=.returned (.int .i64 (k + l.length * 3))∧FrsAt lo w' v l'∧l'.length=l.length∧∀ i (h:i < l'.length),l'[i]=mkFrK k i)∧Below lo w w'∧OnlyAt v w w':=by
 have HV:=hide hv
 obtain ⟨a,cap,rfl⟩:=owns_slice hv
 clear hv
 obtain ⟨n,hn⟩:∃ n,n=l.length:=⟨_,rfl⟩
 have HN:=hide hn
 rw [← hn] at hl
 rw [← hn]
 rw [← hn] at HV
 clear hn
 go_enter Tryz.func79,Tryz.ntmps79
 go_wp2
 go_loopw [1,5] (fun q i wr=>∃ (j:Nat) (l':List Fr),j≤n∧q=.int .i64 (k + j * 3)∧i=.int .i64 j∧FrsAt lo wr (.slice a n cap) l'∧l'.length=n∧(∀ i (h:i < l'.length),i < j→l'[i]=mkFrK k i)∧Below lo w wr∧OnlyAt (.slice a n cap) w wr) (fun _ i _=>n - (intOf i).toNat)
 case atStart=>exact ⟨0,l,by omega,by simp,rfl,uh HV,(uh HN).symm,fun _ _ h=>absurd h (Nat.not_lt_zero _),Below.refl _ _,OnlyAt.refl _ _⟩
 case round =>
  obtain ⟨j,l',hj,rfl,rfl,hfr,hln,hmk,hb,hoa⟩:=hrel
  have HOA:=hide hoa
  have HF:=hide hfr
  have HL:=hide hln
  have HK:=hide hmk
  have HB:=hide hb
  clear hfr hln hmk hb hoa
  by_cases hlt:j < n
  ·have hjl:j < l'.length:=by rw [uh HL];exact hlt
   obtain ⟨ga,hga⟩:∃ ga,a=some ⟨ga,0,none⟩:=by
    rcases (uh HF).2 with ⟨_,h0⟩ | ⟨g,cap,cur,hv,_⟩
    ·omega
    ·cases hv;exact ⟨g,rfl⟩
   subst hga
   obtain ⟨e0,e1,e2⟩:=frCells_get l' j hjl
   have HO:Hid (wr.ownsRow lo 42 3 (.slice (some ⟨ga,0,none⟩) n cap) n (frCells l')):=hide (by have:=uh HF;unfold FrsAt at this;rw [uh HL] at this;exact this)
   have hlo:lo≤ga:=by
    rcases (uh HO).2 with ⟨h,_⟩ | ⟨g,cap,cur,hv,hB,_⟩
    ·cases h
    ·cases hv;exact hB
   obtain ⟨c0,f0⟩:=owns_cell (uh HO) _ _ e0
   obtain ⟨c1,f1⟩:=owns_cell (uh HO) _ _ e1
   obtain ⟨c2,f2⟩:=owns_cell (uh HO) _ _ e2
   clear e0 e1 e2
   generalize l'[j].fn=fa at *
   generalize l'[j].line=fb at *
   generalize l'[j].frm=fc at *
   have HJ:=hide hjl
   clear hjl
   have hi1:(0:Int)≤(j:Int):=by omega
   have hi2:(j:Int) < (n:Int):=by omega
   go_wp2
   go_roundw
   case rel =>
    refine ⟨j + 1,l'.set j (mkFrK k j),by omega,by go_num,by go_num,?_,by rw [List.length_set];exact uh HL,?_,?_,(((uh HOA).set rfl).set rfl).set rfl⟩
    ·unfold FrsAt
     rw [List.length_set,uh HL,frCells_set,if_pos (uh HJ)]
     exact owns_set (owns_set (owns_set (uh HO) (j * 3) _) (j * 3 + 1) _) (j * 3 + 2) _
    ·intro i h hij
     rw [List.getElem_set]
     split
     ·rename_i e;rw [e]
     ·exact uh HK i (by rwa [List.length_set] at h) (by omega)
    ·exact (((uh HB).setCell hlo _).setCell hlo _).setCell hlo _
   case measure=>simp [intOf];omega
  ·have e:j=n:=by omega
   subst e
   go_wp2
   go_ret
   exact ⟨⟨l',rfl,uh HF,uh HL,fun i h=>uh HK i h (by rw [← uh HL];exact h)⟩,uh HB,uh HOA⟩
theorem heldFrK_any (lo:Nat) (v:Value) (l:List Fr) (k:Int) (w:World) (hv:FrsAt lo w v l) (hl:l.length≤200) (hk:0 < k) (hk2:k≤4398046000000) (hm:∀ i (h:i < l.length),l[i]=mkFrK k i) :
  Calls Tryz.prog 81 #[v,.int .i64 k] w fun e w'=>e=.returned (.int .i64 (k + l.length * 3))∧Below w.heap.size w w':=by
 have HV:=hide hv
 have HM:=hide hm
 obtain ⟨a,cap,rfl⟩:=owns_slice hv
 clear hv hm
 obtain ⟨n,hn⟩:∃ n,n=l.length:=⟨_,rfl⟩
 have HN:=hide hn
 rw [← hn] at hl
 rw [← hn]
 clear hn
 go_enter Tryz.func81,Tryz.ntmps81
 go_wp2
 go_loopw [1,5] (fun q i wr=>∃ (j:Nat),j≤n∧q=.int .i64 (k + j * 3)∧i=.int .i64 j∧Below w.heap.size w wr) (fun _ i _=>n - (intOf i).toNat)
 case atStart=>exact ⟨0,by omega,by simp,rfl,Below.refl _ _⟩
 case round =>
  obtain ⟨j,hj,rfl,rfl,hb⟩:=hrel
  have HB:=hide hb
  by_cases hlt:j < n
  ·have hjl:j < l.length:=by rw [← uh HN];exact hlt
   have hcs:=((uh HV).below hb).cells j hjl
   rw [uh HM j hjl] at hcs
   obtain ⟨g,rfl,-,-,c0,c1,c2⟩:=hcs
   simp only [mkFrK] at c0 c1 c2
   have hi1:(0:Int)≤(j:Int):=by omega
   have hi2:(j:Int) < (n:Int):=by omega
   clear hjl hb
   go_wp2
   go_roundw
   case rel=>exact ⟨j + 1,by omega,by go_num,by go_num,uh HB⟩
   case measure=>simp [intOf];omega
  ·have e:j=n:=by omega
   subst e
   go_wp2
   go_ret
   exact ⟨rfl,uh HB⟩
theorem markFr_of {l:List Fr} {k:Int} {n:Nat} (h:l.length=n) (hm:∀ i (h:i < l.length),l[i]=mkFrK k i):l=markFr k n:=by
 apply List.ext_getElem
 ·simp [markFr,h]
 ·intro i h1 h2
  rw [hm i h1]
  simp [markFr]
theorem markFr_get {k:Int} {n:Nat} (i:Nat) (h:i < (markFr k n).length):(markFr k n)[i]=mkFrK k i:=by simp [markFr]
theorem markFr_len (k:Int) (n:Nat):(markFr k n).length=n:=by simp [markFr]
end Go.Proofs.YtmnmeaeicjhkhaaGreatDoor
namespace Go.Proofs.YtmnmeaeicjhkhaaGreatDoor
open Go.RowKit
theorem vCells_set:∀ (l:List V) (j:Nat) (f:V),vCells (l.set j f)=if j < l.length then ((vCells l).set (j * 2) (.string f.name)).set (j * 2 + 1) (.string f.text) else vCells l
 | [],j,f=>by simp
 | x :: r,0,f=>by simp [List.set];rfl
 | x :: r,j + 1,f=>by
  have ih:=vCells_set r j f
  have e:∀ (x:V) (r:List V),vCells (x :: r)=.string x.name :: .string x.text :: vCells r:=fun _ _=>rfl
  rw [sx3,e,e,ih]
  by_cases h:j < r.length
  ·rw [if_pos h,if_pos (by simpa using h),show (j + 1) * 2=j * 2 + 1 + 1 by omega]
   simp only [sx3]
  ·rw [if_neg h,if_neg (by simpa using h)]
def mkVK (k:Int) (i:Nat):V:=⟨mtx (k + i * 2),mtx (k + i * 2 + 1)⟩
def markVs (k:Int) (n:Nat):List V:=(List.range n).map (mkVK k)
theorem markVsK_any (lo:Nat) (v:Value) (l:List V) (k:Int) (w:World) (hv:VsAt lo w v l) (hl:l.length≤1048576) (hk:0 < k) (hk2:k≤4398040000000) (hlo:lo≤w.heap.size) :
  Calls Tryz.prog 80 #[v,.int .i64 k] w fun e w'=>(∃ l',e=.returned (.int .i64 (k + l.length * 2))∧VsAt lo w' v l'∧l'.length=l.length∧∀ i (h:i < l'.length),l'[i]=mkVK k i)∧Below lo w w'∧OnlyAt v w w':=by
 have HV:=hide hv
 obtain ⟨a,cap,rfl⟩:=owns_slice hv.row
 clear hv
 obtain ⟨n,hn⟩:∃ n,n=l.length:=⟨_,rfl⟩
 have HN:=hide hn
 rw [← hn] at hl
 rw [← hn]
 rw [← hn] at HV
 clear hn
 go_enter Tryz.func80,Tryz.ntmps80
 go_wp2
 go_loopw [1,5] (fun q i wr=>∃ (j:Nat) (l':List V),j≤n∧q=.int .i64 (k + j * 2)∧i=.int .i64 j∧VsAt lo wr (.slice a n cap) l'∧l'.length=n∧(∀ i (h:i < l'.length),i < j→l'[i]=mkVK k i)∧Below lo w wr∧OnlyAt (.slice a n cap) w wr) (fun _ i _=>n - (intOf i).toNat)
 case atStart=>exact ⟨0,l,by omega,by simp,rfl,uh HV,(uh HN).symm,fun _ _ h=>absurd h (Nat.not_lt_zero _),Below.refl _ _,OnlyAt.refl _ _⟩
 case round =>
  obtain ⟨j,l',hj,rfl,rfl,hfr,hln,hmk,hb,hoa⟩:=hrel
  have HF:=hide hfr
  have HL:=hide hln
  have HK:=hide hmk
  have HB:=hide hb
  have HOA:=hide hoa
  have hwr:w.heap.size≤wr.heap.size:=hb.size
  clear hfr hln hmk hb hoa
  by_cases hlt:j < n
  ·have hjl:j < l'.length:=by rw [uh HL];exact hlt
   obtain ⟨ga,hga⟩:∃ ga,a=some ⟨ga,0,none⟩:=by
    rcases (uh HF).row.2 with ⟨_,h0⟩ | ⟨g,cap,cur,hv,_⟩
    ·omega
    ·cases hv;exact ⟨g,rfl⟩
   subst hga
   obtain ⟨e0,e1⟩:=vCells_get l' j hjl
   have hi1:(0:Int)≤(j:Int):=by omega
   have hi2:(j:Int) < (n:Int):=by omega
   have HO:Hid (wr.ownsRow lo 40 2 (.slice (some ⟨ga,0,none⟩) n cap) n (vCells l')):=hide (by have:=(uh HF).row;rw [uh HL] at this;exact this)
   have hlo':lo≤ga:=by
    rcases (uh HO).2 with ⟨h,_⟩ | ⟨g,cap,cur,hv,hB,_⟩
    ·cases h
    ·cases hv;exact hB
   have HJ:=hide hjl
   go_wp2_with fail
   refine (markTextK_any _ _ (by omega) (by omega)).mono ?_
   rintro e w1 ⟨rfl,hb1,hz1⟩
   have HO1:=hide (owns_below (uh HO) hb1)
   obtain ⟨c0,f0⟩:=owns_cell (uh HO1) _ _ e0
   obtain ⟨s0,hs0⟩:∃ s0,s0=mtx (k + j * 2):=⟨_,rfl⟩
   rw [← hs0] at hz1 ⊢
   have HS0:=hide hs0
   have HZ1:=hide hz1
   have HB1:=hide ((uh HB).trans (hb1.mono (by omega)))
   have HOA1:=hide ((uh HOA).trans hwr (OnlyAt.of_below hb1))
   have hw1:w.heap.size≤w1.heap.size:=by have:=hb1.size;omega
   clear hb1 hs0 hz1 e0
   generalize (.string l'[j].name:Value)=u0 at c0
   go_wp2_with fail
   refine (markTextK_any _ _ (by omega) (by omega)).mono ?_
   rintro e w2 ⟨rfl,hb2,hz2⟩
   clear c0 f0
   have HO2:=hide (owns_below (owns_set (uh HO1) (j * 2) (.string s0)) hb2)
   have e1':((vCells l').set (j * 2) (.string s0))[j * 2 + 1]?=some (.string l'[j].text):=by rw [List.getElem?_set_ne (by omega)];exact e1
   obtain ⟨c1,f1⟩:=owns_cell (uh HO2) _ _ e1'
   obtain ⟨s1,hs1⟩:∃ s1,s1=mtx (k + j * 2 + 1):=⟨_,rfl⟩
   rw [← hs1] at hz2 ⊢
   have HS1:=hide hs1
   have HZ2:=hide hz2
   have HB2:=hide (((uh HB1).setCell (p:=⟨ga,j * 2,none⟩) hlo' (.string s0)).trans (hb2.mono (by simp;omega)))
   have HOA2:=hide (((uh HOA1).set (g:=ga) (i:=j * 2) (u:=.string s0) rfl).trans (by simp;omega) (OnlyAt.of_below hb2))
   clear hb2 hs1 hz2 e1 e1'
   generalize (.string l'[j].text:Value)=u1 at c1
   clear hjl
   go_wp2
   go_roundw
   case rel =>
    refine ⟨j + 1,l'.set j (mkVK k j),by omega,by go_num,by go_num,⟨?_,?_⟩,by rw [List.length_set];exact uh HL,?_,?_,(uh HOA2).set rfl⟩
    ·rw [List.length_set,uh HL,vCells_set,if_pos (uh HJ)]
     have h:=owns_set (uh HO2) (j * 2 + 1) (.string s1)
     rw [uh HS0,uh HS1] at h
     rw [uh HS1]
     exact h
    ·intro x hx
     rcases List.mem_or_eq_of_mem_set hx with h | h
     ·exact (uh HF).sz x h
     ·rw [h]
      exact ⟨by rw [show (mkVK k j).name=s0 from (uh HS0).symm];exact uh HZ1,by rw [show (mkVK k j).text=s1 from (uh HS1).symm];exact uh HZ2⟩
    ·intro i h hij
     rw [List.getElem_set]
     split
     ·rename_i e;rw [e]
     ·exact uh HK i (by rwa [List.length_set] at h) (by omega)
    ·exact (uh HB2).setCell (p:=⟨ga,j * 2 + 1,none⟩) hlo' _
   case measure=>simp [intOf];omega
  ·have e:j=n:=by omega
   subst e
   go_wp2
   go_ret
   exact ⟨⟨l',rfl,uh HF,uh HL,fun i h=>uh HK i h (by rw [← uh HL];exact h)⟩,uh HB,uh HOA⟩
theorem markVs_of {l:List V} {k:Int} {n:Nat} (h:l.length=n) (hm:∀ i (h:i < l.length),l[i]=mkVK k i):l=markVs k n:=by
 apply List.ext_getElem
 ·simp [markVs,h]
 ·intro i h1 h2
  rw [hm i h1]
  simp [markVs]
theorem markVs_len (k:Int) (n:Nat):(markVs k n).length=n:=by simp [markVs]
end Go.Proofs.YtmnmeaeicjhkhaaGreatDoor
namespace Go.Proofs.YtmnmeaeicjhkhaaGreatDoor
open Go.RowKit
def tlNext (k:Int) (x:Tl):Int:=k + 1 + 1 + 1 + 1 + (x.d.fr.length:Int) * 3 + (x.d.vs.length:Int) * 2
def markTl (k:Int) (x:Tl):Tl:=⟨k,⟨k + 1,k + 1 + 1,mtx (k + 1 + 1 + 1),markFr (k + 1 + 1 + 1 + 1) x.d.fr.length,markVs (k + 1 + 1 + 1 + 1 + (x.d.fr.length:Int) * 3) x.d.vs.length⟩,x.v5,x.v6⟩
def tsEnd (k:Int):List Tl→Int
 | []=>k
 | x :: r=>tsEnd (tlNext k x) r
def markTs (k:Int):List Tl→List Tl
 | []=>[]
 | x :: r=>markTl k x :: markTs (tlNext k x) r
theorem tsEnd_snoc:∀ (k:Int) (l:List Tl) (x:Tl),tsEnd k (l ++ [x])=tlNext (tsEnd k l) x
 | _,[],_=>rfl
 | k,y :: r,x=>tsEnd_snoc (tlNext k y) r x
theorem tsEnd_take {k:Int} {l:List Tl} {j:Nat} {x:Tl} (h:l[j]?=some x):tsEnd k (l.take (j + 1))=tlNext (tsEnd k (l.take j)) x:=by
 rw [List.take_add_one,h]
 exact tsEnd_snoc _ _ _
theorem markTs_get:∀ (k:Int) (l:List Tl) (i:Nat),(markTs k l)[i]?=(l[i]?).map (markTl (tsEnd k (l.take i)))
 | _,[],_=>rfl
 | k,x :: r,0=>rfl
 | k,x :: r,i + 1=>by
  show (markTs (tlNext k x) r)[i]?=(r[i]?).map (markTl (tsEnd (tlNext k x) (r.take i)))
  exact markTs_get _ r i
theorem markTs_len:∀ (k:Int) (l:List Tl),(markTs k l).length=l.length
 | _,[]=>rfl
 | k,x :: r=>congrArg (· + 1) (markTs_len (tlNext k x) r)
def Short (l:List Tl):Prop:=∀ x,x ∈ l→x.d.fr.length≤200∧x.d.vs.length≤200
theorem tsEnd_le:∀ (k:Int) (l:List Tl),Short l→k≤tsEnd k l∧tsEnd k l≤k + l.length * 1004
 | k,[],_=>⟨Int.le_refl _,by show k≤k + ((0:Nat):Int) * 1004;omega⟩
 | k,x :: r,h=>by
  obtain ⟨h1,h2⟩:=h x List.mem_cons_self
  obtain ⟨h3,h4⟩:=tsEnd_le (tlNext k x) r (fun y hy=>h y (List.mem_cons_of_mem _ hy))
  unfold tlNext at h3 h4
  show k≤tsEnd (k + 1 + 1 + 1 + 1 + (x.d.fr.length:Int) * 3 + (x.d.vs.length:Int) * 2) r∧tsEnd (k + 1 + 1 + 1 + 1 + (x.d.fr.length:Int) * 3 + (x.d.vs.length:Int) * 2) r≤k + ((r.length + 1:Nat):Int) * 1004
  omega
theorem Short.take {l:List Tl} (h:Short l) (j:Nat):Short (l.take j):=fun x hx=>h x (List.mem_of_mem_take hx)
theorem tlCells_get:∀ (l:List Tl) (i:Nat) (x:Tl),l[i]?=some x→(tlCells l)[i * 6]?=some (.int .i64 x.at_)∧(tlCells l)[i * 6 + 1]?=some (.int .i64 x.d.code)∧(tlCells l)[i * 6 + 2]?=some (.int .i64 x.d.num)∧(tlCells l)[i * 6 + 3]?=some (.string x.d.text)∧(tlCells l)[i * 6 + 4]?=some x.v5∧(tlCells l)[i * 6 + 5]?=some x.v6
 | x :: r,0,y,h=>by cases h;exact ⟨rfl,rfl,rfl,rfl,rfl,rfl⟩
 | x :: r,i + 1,y,h=>by
  have ih:=tlCells_get r i y h
  have e:tlCells (x :: r)=.int .i64 x.at_ :: .int .i64 x.d.code :: .int .i64 x.d.num :: .string x.d.text :: x.v5 :: x.v6 :: tlCells r:=rfl
  rw [e,show (i + 1) * 6=i * 6 + 1 + 1 + 1 + 1 + 1 + 1 by omega]
  simpa only [List.getElem?_cons_succ] using ih
theorem tlCells_set:∀ (l:List Tl) (j:Nat) (x y:Tl),l[j]?=some x→y.v5=x.v5→y.v6=x.v6→tlCells (l.set j y)=((((tlCells l).set (j * 6) (.int .i64 y.at_)).set (j * 6 + 1) (.int .i64 y.d.code)).set (j * 6 + 2) (.int .i64 y.d.num)).set (j * 6 + 3) (.string y.d.text)
 | z :: r,0,x,y,h,h5,h6=>by
  cases h
  show [Value.int .i64 y.at_,.int .i64 y.d.code,.int .i64 y.d.num,.string y.d.text,y.v5,y.v6] ++ tlCells r=_
  rw [h5,h6];rfl
 | z :: r,j + 1,x,y,h,h5,h6=>by
  have ih:=tlCells_set r j x y h h5 h6
  have e:∀ (x:Tl) (r:List Tl),tlCells (x :: r)=.int .i64 x.at_ :: .int .i64 x.d.code :: .int .i64 x.d.num :: .string x.d.text :: x.v5 :: x.v6 :: tlCells r:=fun _ _=>rfl
  rw [sx3,e,e,ih,show (j + 1) * 6=j * 6 + 1 + 1 + 1 + 1 + 1 + 1 by omega]
  simp only [sx3]
theorem tlCells_set' (l:List Tl) (j:Nat) (x y:Tl) (h:l[j]?=some x) (h1:y.at_=x.at_) (h2:y.d.code=x.d.code) (h3:y.d.num=x.d.num) (h4:y.d.text=x.d.text) (h5:y.v5=x.v5) (h6:y.v6=x.v6):tlCells (l.set j y)=tlCells l:=by
 obtain ⟨g0,g1,g2,g3,-⟩:=tlCells_get l j x h
 rw [tlCells_set l j x y h h5 h6,h1,h2,h3,h4]
 have s:∀ (m:List Value) (i:Nat) (u:Value),m[i]?=some u→m.set i u=m:=fun m i u hu=>by
  apply List.ext_getElem?
  intro q
  by_cases e:i=q
  ·subst e;rw [List.getElem?_set_self (List.getElem?_eq_some_iff.1 hu).1,hu]
  ·rw [List.getElem?_set_ne e]
 rw [s _ _ _ g0,s _ _ _ g1,s _ _ _ g2,s _ _ _ g3]
theorem dis_set {l:List Tl} {j:Nat} {x y:Tl} (h:l.Pairwise (fun x y=>(∀ b,x.v5.ownBlock=some b→y.v5.ownBlock ≠ some b)∧∀ b,x.v6.ownBlock=some b→y.v6.ownBlock ≠ some b)) (hx:l[j]?=some x) (h5:y.v5=x.v5) (h6:y.v6=x.v6):(l.set j y).Pairwise (fun x y=>(∀ b,x.v5.ownBlock=some b→y.v5.ownBlock ≠ some b)∧∀ b,x.v6.ownBlock=some b→y.v6.ownBlock ≠ some b):=by
 have e:(l.set j y).map (fun z:Tl=>(z.v5,z.v6))=l.map (fun z:Tl=>(z.v5,z.v6)):=by
  apply List.ext_getElem?
  intro i
  rw [List.getElem?_map,List.getElem?_map]
  by_cases c:j=i
  ·subst c
   rw [List.getElem?_set_self (List.getElem?_eq_some_iff.1 hx).1,hx]
   show some (y.v5,y.v6)=some (x.v5,x.v6)
   rw [h5,h6]
  ·rw [List.getElem?_set_ne c]
 have h':(l.map (fun z:Tl=>(z.v5,z.v6))).Pairwise (fun (p q:Value × Value)=>(∀ b,p.1.ownBlock=some b→q.1.ownBlock ≠ some b)∧∀ b,p.2.ownBlock=some b→q.2.ownBlock ≠ some b):=List.pairwise_map.2 h
 rw [← e] at h'
 exact List.pairwise_map.1 h'
theorem dis_at {l:List Tl} (h:l.Pairwise (fun x y=>(∀ b,x.v5.ownBlock=some b→y.v5.ownBlock ≠ some b)∧∀ b,x.v6.ownBlock=some b→y.v6.ownBlock ≠ some b)) {i j:Nat} {x y:Tl} (hx:l[j]?=some x) (hy:l[i]?=some y) (hn:i ≠ j):(∀ b,y.v5.ownBlock=some b→x.v5.ownBlock ≠ some b)∧∀ b,y.v6.ownBlock=some b→x.v6.ownBlock ≠ some b:=by
 obtain ⟨lj,ej⟩:=List.getElem?_eq_some_iff.1 hx
 obtain ⟨li,ei⟩:=List.getElem?_eq_some_iff.1 hy
 have hp:=List.pairwise_iff_getElem.1 h
 rcases Nat.lt_or_gt_of_ne hn with c | c
 ·have q:=hp i j li lj c
  rw [ei,ej] at q
  exact q
 ·have q:=hp j i lj li c
  rw [ei,ej] at q
  exact ⟨fun b e e'=>q.1 b e' e,fun b e e'=>q.2 b e' e⟩
theorem set_mem {l:List Tl} {j:Nat} {y z:Tl} (h:z ∈ l.set j y):z=y∨∃ i,i ≠ j∧l[i]?=some z:=by
 obtain ⟨i,hi⟩:=List.mem_iff_getElem?.1 h
 by_cases c:j=i
 ·subst c
  have:j < (l.set j y).length:=(List.getElem?_eq_some_iff.1 hi).1
  rw [List.length_set] at this
  rw [List.getElem?_set_self this] at hi
  cases hi
  exact .inl rfl
 ·rw [List.getElem?_set_ne c] at hi
  exact .inr ⟨i,fun e=>c e.symm,hi⟩
section
variable {B:Nat} {w w':World} {v:Value} {l:List Tl} {j:Nat} {x y:Tl}
theorem TdsAt.row_put (h:TdsAt B w v l) (hx:l[j]?=some x) (ho:w'.ownsRow B 38 6 v l.length (tlCells (l.set j y))) (hs:Same (fun t=>t ≠ 38) w w') (h5:y.v5=x.v5) (h6:y.v6=x.v6) (hf:y.d.fr=x.d.fr) (hv:y.d.vs=x.d.vs):TdsAt B w' v (l.set j y):=by
 have hm:x ∈ l:=List.mem_iff_getElem?.2 ⟨j,hx⟩
 refine ⟨by rw [List.length_set];exact ho,fun z hz=>?_,fun z hz=>?_,dis_set h.dis hx h5 h6⟩
 ·rcases set_mem hz with rfl | ⟨i,_,hi⟩
  ·rw [h5,hf];exact owns_same (h.fr x hm) hs (by decide)
  ·exact owns_same (h.fr z (List.mem_iff_getElem?.2 ⟨i,hi⟩)) hs (by decide)
 ·rcases set_mem hz with rfl | ⟨i,_,hi⟩
  ·rw [h6,hv];exact (h.vs x hm).same hs (by decide)
  ·exact (h.vs z (List.mem_iff_getElem?.2 ⟨i,hi⟩)).same hs (by decide)
theorem TdsAt.fr_put (h:TdsAt B w v l) (hx:l[j]?=some x) (hy:tlCells (l.set j y)=tlCells l) (ho:OnlyAt x.v5 w w') (h5:y.v5=x.v5) (h6:y.v6=x.v6) (hf:FrsAt B w' x.v5 y.d.fr) (hv:y.d.vs=x.d.vs):TdsAt B w' v (l.set j y):=by
 have hm:x ∈ l:=List.mem_iff_getElem?.2 ⟨j,hx⟩
 have hs:Same (fun t=>t ≠ 42) w w':=ho.same (h.fr x hm) (fun q=>q rfl)
 refine ⟨by rw [List.length_set,hy];exact owns_same h.row hs (by decide),fun z hz=>?_,fun z hz=>?_,dis_set h.dis hx h5 h6⟩
 ·rcases set_mem hz with rfl | ⟨i,hn,hi⟩
  ·rw [h5];exact hf
  ·exact owns_only (h.fr z (List.mem_iff_getElem?.2 ⟨i,hi⟩)) ho (dis_at h.dis hx hi hn).1
 ·rcases set_mem hz with rfl | ⟨i,_,hi⟩
  ·rw [h6,hv];exact (h.vs x hm).same hs (by decide)
  ·exact (h.vs z (List.mem_iff_getElem?.2 ⟨i,hi⟩)).same hs (by decide)
theorem TdsAt.vs_put (h:TdsAt B w v l) (hx:l[j]?=some x) (hy:tlCells (l.set j y)=tlCells l) (ho:OnlyAt x.v6 w w') (h5:y.v5=x.v5) (h6:y.v6=x.v6) (hf:y.d.fr=x.d.fr) (hv:VsAt B w' x.v6 y.d.vs):TdsAt B w' v (l.set j y):=by
 have hm:x ∈ l:=List.mem_iff_getElem?.2 ⟨j,hx⟩
 have hs:Same (fun t=>t ≠ 40) w w':=ho.same (h.vs x hm).row (fun q=>q rfl)
 refine ⟨by rw [List.length_set,hy];exact owns_same h.row hs (by decide),fun z hz=>?_,fun z hz=>?_,dis_set h.dis hx h5 h6⟩
 ·rcases set_mem hz with rfl | ⟨i,_,hi⟩
  ·rw [h5,hf];exact owns_same (h.fr x hm) hs (by decide)
  ·exact owns_same (h.fr z (List.mem_iff_getElem?.2 ⟨i,hi⟩)) hs (by decide)
 ·rcases set_mem hz with rfl | ⟨i,hn,hi⟩
  ·rw [h6];exact hv
  ·exact ⟨owns_only (h.vs z (List.mem_iff_getElem?.2 ⟨i,hi⟩)).row ho (dis_at h.dis hx hi hn).2,(h.vs z (List.mem_iff_getElem?.2 ⟨i,hi⟩)).sz⟩
end
end Go.Proofs.YtmnmeaeicjhkhaaGreatDoor
namespace Go.Proofs.YtmnmeaeicjhkhaaGreatDoor
open Go.RowKit
theorem markToldS_any (lo:Nat) (v:Value) (ts:List Tl) (k:Int) (w:World) (hv:TdsAt lo w v ts) (hl:ts.length≤500) (hsh:Short ts) (hk:0 < k) (hk2:k≤1000000) (hlo:lo≤w.heap.size) :
  Calls Tryz.prog 32 #[v,.int .i64 k] w fun e w'=>e=.returned (.int .i64 (tsEnd k ts))∧TdsAt lo w' v (markTs k ts)∧Below lo w w':=by
 have HV:=hide hv
 have HSH:=hide hsh
 obtain ⟨a,cap,rfl⟩:=owns_slice hv.row
 clear hv hsh
 obtain ⟨n,hn⟩:∃ n,n=ts.length:=⟨_,rfl⟩
 have HN:=hide hn
 rw [← hn] at hl
 rw [← hn]
 rw [← hn] at HV
 clear hn
 go_enter Tryz.func32,Tryz.ntmps32
 go_wp2
 go_loopw [1,5] (fun q i wr=>∃ (j:Nat) (l':List Tl),j≤n∧q=.int .i64 (tsEnd k (ts.take j))∧i=.int .i64 j∧TdsAt lo wr (.slice a n cap) l'∧l'.length=n∧(∀ i,l'[i]?=if i < j then (ts[i]?).map (markTl (tsEnd k (ts.take i))) else ts[i]?)∧Below lo w wr) (fun _ i _=>n - (intOf i).toNat)
 case atStart=>exact ⟨0,ts,by omega,rfl,rfl,uh HV,(uh HN).symm,fun i=>by rw [if_neg (Nat.not_lt_zero _)],Below.refl _ _⟩
 case round =>
  obtain ⟨j,l',hj,rfl,rfl,htd,hln,hmk,hb⟩:=hrel
  have HTD:=hide htd
  have HL:=hide hln
  have HK:=hide hmk
  have HB:=hide hb
  have hwr:lo≤wr.heap.size:=Nat.le_trans hlo hb.size
  clear htd hln hmk hb
  by_cases hlt:j < n
  ·obtain ⟨x,hx⟩:∃ x,ts[j]?=some x:=⟨_,List.getElem?_eq_getElem (by rw [← uh HN];exact hlt)⟩
   have hx':l'[j]?=some x:=by rw [uh HK j,if_neg (Nat.lt_irrefl _)];exact hx
   obtain ⟨K,hK⟩:∃ K,K=tsEnd k (ts.take j):=⟨_,rfl⟩
   have hK1:k≤K∧K≤k + 502000:=by
    have:=tsEnd_le k (ts.take j) ((uh HSH).take j)
    rw [← hK] at this
    have h2:(ts.take j).length≤500:=by rw [List.length_take];have:=uh HN;omega
    omega
   obtain ⟨hK1,hK2⟩:=hK1
   obtain ⟨hf5,hv6⟩:=uh HSH x (List.mem_iff_getElem?.2 ⟨j,hx⟩)
   rw [← hK]
   have HKK:=hide hK
   clear hK
   obtain ⟨ga,hga⟩:∃ ga,a=some ⟨ga,0,none⟩:=by
    rcases (uh HTD).row.2 with ⟨_,h0⟩ | ⟨g,cap,cur,hv,_⟩
    ·rw [uh HL] at h0;omega
    ·cases hv;exact ⟨g,rfl⟩
   subst hga
   obtain ⟨e0,e1,e2,e3,e4,e5⟩:=tlCells_get l' j x hx'
   have HO:Hid (wr.ownsRow lo 38 6 (.slice (some ⟨ga,0,none⟩) n cap) n (tlCells l')):=hide (by have:=(uh HTD).row;rw [uh HL] at this;exact this)
   obtain ⟨-,csg,hgk⟩:=owns_kd (uh HO) ga rfl
   have hloa:lo≤ga:=(owns_kd (uh HO) ga rfl).1
   have hi1:(0:Int)≤(j:Int):=by omega
   have hi2:(j:Int) < (n:Int):=by omega
   obtain ⟨c0,f0⟩:=owns_cell (uh HO) _ _ e0
   obtain ⟨c1,f1⟩:=owns_cell (uh HO) _ _ e1
   obtain ⟨c2,f2⟩:=owns_cell (uh HO) _ _ e2
   have HX:=hide hx
   have HX':=hide hx'
   have HSG:Hid (Same (fun t=>t ≠ 38) wr (((wr.setCell ⟨ga,j * 6,none⟩ (.int .i64 K)).setCell ⟨ga,j * 6 + 1,none⟩ (.int .i64 (K + 1))).setCell ⟨ga,j * 6 + 2,none⟩ (.int .i64 (K + 1 + 1)))):=hide (by
    have o1:=owns_set (uh HO) (j * 6) (.int .i64 K)
    have o2:=owns_set o1 (j * 6 + 1) (.int .i64 (K + 1))
    obtain ⟨-,s1,g1⟩:=owns_kd o1 ga rfl
    obtain ⟨-,s2,g2⟩:=owns_kd o2 ga rfl
    exact ((Same.set hgk (fun q=>q rfl)).trans (Same.set g1 (fun q=>q rfl))).trans (Same.set g2 (fun q=>q rfl)))
   have HO3:Hid ((((wr.setCell ⟨ga,j * 6,none⟩ (.int .i64 K)).setCell ⟨ga,j * 6 + 1,none⟩ (.int .i64 (K + 1))).setCell ⟨ga,j * 6 + 2,none⟩ (.int .i64 (K + 1 + 1))).ownsRow lo 38 6 (.slice (some ⟨ga,0,none⟩) n cap) n ((((tlCells l').set (j * 6) (.int .i64 K)).set (j * 6 + 1) (.int .i64 (K + 1))).set (j * 6 + 2) (.int .i64 (K + 1 + 1)))):=hide (owns_set (owns_set (owns_set (uh HO) _ _) _ _) _ _)
   have HB3:Hid (Below lo w (((wr.setCell ⟨ga,j * 6,none⟩ (.int .i64 K)).setCell ⟨ga,j * 6 + 1,none⟩ (.int .i64 (K + 1))).setCell ⟨ga,j * 6 + 2,none⟩ (.int .i64 (K + 1 + 1)))):=hide ((((uh HB).setCell (p:=⟨ga,j * 6,none⟩) hloa _).setCell (p:=⟨ga,j * 6 + 1,none⟩) hloa _).setCell (p:=⟨ga,j * 6 + 2,none⟩) hloa _)
   clear hgk e0 e1 e2 hx hx'
   go_wp2_with fail
   refine (markTextK_any _ _ (by omega) (by omega)).mono ?_
   rintro e w1 ⟨rfl,hb1,hz1⟩
   have HO4:=hide (owns_below (uh HO3) hb1)
   have e3':((((tlCells l').set (j * 6) (.int .i64 K)).set (j * 6 + 1) (.int .i64 (K + 1))).set (j * 6 + 2) (.int .i64 (K + 1 + 1)))[j * 6 + 3]?=some (.string x.d.text):=by
    rw [List.getElem?_set_ne (by omega),List.getElem?_set_ne (by omega),List.getElem?_set_ne (by omega)];exact e3
   obtain ⟨c3,f3⟩:=owns_cell (uh HO4) _ _ e3'
   obtain ⟨s0,hs0⟩:∃ s0,s0=mtx (K + 1 + 1 + 1):=⟨_,rfl⟩
   rw [← hs0]
   have HS0:=hide hs0
   have HT1:Hid (TdsAt lo (w1.setCell ⟨ga,j * 6 + 3,none⟩ (.string s0)) (.slice (some ⟨ga,0,none⟩) n cap) (l'.set j ⟨K,⟨K + 1,K + 1 + 1,s0,x.d.fr,x.d.vs⟩,x.v5,x.v6⟩)):=hide (by
    obtain ⟨-,s4,g4⟩:=owns_kd (uh HO4) ga rfl
    refine TdsAt.row_put (uh HTD) (uh HX') ?_ (((uh HSG).trans (Same.of_below hb1)).trans (Same.set g4 (fun q=>q rfl))) rfl rfl rfl rfl
    rw [uh HL,tlCells_set l' j x (⟨K,⟨K + 1,K + 1 + 1,s0,x.d.fr,x.d.vs⟩,x.v5,x.v6⟩:Tl) (uh HX') rfl rfl]
    exact owns_set (uh HO4) (j * 6 + 3) (.string s0))
   have hloW:lo≤w1.heap.size:=by have:=hb1.size;have:=(uh HB3).size;omega
   have HB4:Hid (Below lo w (w1.setCell ⟨ga,j * 6 + 3,none⟩ (.string s0))):=hide (((uh HB3).trans (hb1.mono (Nat.le_trans hlo (uh HB3).size))).setCell (p:=⟨ga,j * 6 + 3,none⟩) hloa _)
   have hl1:(l'.set j ⟨K,⟨K + 1,K + 1 + 1,s0,x.d.fr,x.d.vs⟩,x.v5,x.v6⟩)[j]?=some (⟨K,⟨K + 1,K + 1 + 1,s0,x.d.fr,x.d.vs⟩,x.v5,x.v6⟩:Tl):=List.getElem?_set_self (List.getElem?_eq_some_iff.1 (uh HX')).1
   have HX1:=hide hl1
   obtain ⟨-,-,-,-,e4',-⟩:=tlCells_get _ j _ hl1
   have HR1:Hid ((w1.setCell ⟨ga,j * 6 + 3,none⟩ (.string s0)).ownsRow lo 38 6 (.slice (some ⟨ga,0,none⟩) n cap) n (tlCells (l'.set j ⟨K,⟨K + 1,K + 1 + 1,s0,x.d.fr,x.d.vs⟩,x.v5,x.v6⟩))):=hide (by have:=(uh HT1).row;rw [List.length_set,uh HL] at this;exact this)
   obtain ⟨c4,-⟩:=owns_cell (uh HR1) _ _ e4'
   have hf1:FrsAt lo (w1.setCell ⟨ga,j * 6 + 3,none⟩ (.string s0)) x.v5 x.d.fr:=(uh HT1).fr (⟨K,⟨K + 1,K + 1 + 1,s0,x.d.fr,x.d.vs⟩,x.v5,x.v6⟩:Tl) (List.mem_iff_getElem?.2 ⟨j,hl1⟩)
   have HF1:=hide hf1
   clear c0 c1 c2 f0 f1 f2 hb1 hs0 hz1 e3 e3' e4 e5 hl1 e4' hf1
   generalize (.string x.d.text:Value)=u3 at c3
   dsimp only at c4
   go_wp2_with fail
   refine (markFrK_any lo _ x.d.fr _ _ (uh HF1) (by omega) (by omega) (by omega)).mono ?_
   rintro e w2 ⟨⟨lf,rfl,hf2,hlf,hmf⟩,hb2,ho2⟩
   have emf:=markFr_of hlf hmf
   have HT2:Hid (TdsAt lo w2 (.slice (some ⟨ga,0,none⟩) n cap) (l'.set j ⟨K,⟨K + 1,K + 1 + 1,s0,lf,x.d.vs⟩,x.v5,x.v6⟩)):=hide (by
    have h:=TdsAt.fr_put (y:=⟨K,⟨K + 1,K + 1 + 1,s0,lf,x.d.vs⟩,x.v5,x.v6⟩) (uh HT1) (uh HX1) (tlCells_set' _ _ _ _ (uh HX1) rfl rfl rfl rfl rfl rfl) ho2 rfl rfl hf2 rfl
    rw [List.set_set] at h
    exact h)
   have HB5:=hide ((uh HB4).trans hb2)
   have hl2:(l'.set j ⟨K,⟨K + 1,K + 1 + 1,s0,lf,x.d.vs⟩,x.v5,x.v6⟩)[j]?=some (⟨K,⟨K + 1,K + 1 + 1,s0,lf,x.d.vs⟩,x.v5,x.v6⟩:Tl):=List.getElem?_set_self (List.getElem?_eq_some_iff.1 (uh HX')).1
   have HX2:=hide hl2
   obtain ⟨-,-,-,-,-,e5'⟩:=tlCells_get _ j _ hl2
   have HR2:Hid (w2.ownsRow lo 38 6 (.slice (some ⟨ga,0,none⟩) n cap) n (tlCells (l'.set j ⟨K,⟨K + 1,K + 1 + 1,s0,lf,x.d.vs⟩,x.v5,x.v6⟩))):=hide (by have:=(uh HT2).row;rw [List.length_set,uh HL] at this;exact this)
   obtain ⟨c5,-⟩:=owns_cell (uh HR2) _ _ e5'
   have HV2:Hid (VsAt lo w2 x.v6 x.d.vs):=hide ((uh HT2).vs (⟨K,⟨K + 1,K + 1 + 1,s0,lf,x.d.vs⟩,x.v5,x.v6⟩:Tl) (List.mem_iff_getElem?.2 ⟨j,hl2⟩))
   have hlo2:lo≤w2.heap.size:=Nat.le_trans hlo (uh HB5).size
   have HMF:=hide emf
   clear c3 c4 f3 hf2 hlf hmf hb2 ho2 hl2 e5' emf
   dsimp only at c5
   go_wp2_with fail
   refine (markVsK_any lo _ x.d.vs _ _ (uh HV2) (by omega) (by omega) (by omega) hlo2).mono ?_
   rintro e w3 ⟨⟨lv,rfl,hv3,hlv,hmv⟩,hb3,ho3⟩
   have emv:=markVs_of hlv hmv
   have HT3:Hid (TdsAt lo w3 (.slice (some ⟨ga,0,none⟩) n cap) (l'.set j ⟨K,⟨K + 1,K + 1 + 1,s0,lf,lv⟩,x.v5,x.v6⟩)):=hide (by
    have h:=TdsAt.vs_put (y:=⟨K,⟨K + 1,K + 1 + 1,s0,lf,lv⟩,x.v5,x.v6⟩) (uh HT2) (uh HX2) (tlCells_set' _ _ _ _ (uh HX2) rfl rfl rfl rfl rfl rfl) ho3 rfl rfl rfl hv3
    rw [List.set_set] at h
    exact h)
   have HB6:=hide ((uh HB5).trans hb3)
   have HMV:=hide emv
   clear c5 hv3 hlv hmv hb3 ho3 emv
   go_wp2
   go_roundw
   case rel =>
    refine ⟨j + 1,_,by omega,?_,by go_num,uh HT3,by rw [List.length_set];exact uh HL,?_,uh HB6⟩
    ·rw [tsEnd_take (uh HX),← uh HKK];rfl
    ·intro i
     by_cases c:j=i
     ·subst c
      rw [List.getElem?_set_self (List.getElem?_eq_some_iff.1 (uh HX')).1,if_pos (Nat.lt_succ_self _),uh HX,← uh HKK,uh HMF,uh HMV,uh HS0]
      rfl
     ·rw [List.getElem?_set_ne c,uh HK i]
      by_cases c2:i < j
      ·rw [if_pos c2,if_pos (by omega)]
      ·rw [if_neg c2,if_neg (by omega)]
   case measure=>simp [intOf];omega
  ·have e:j=n:=by omega
   subst e
   go_wp2
   go_ret
   have e2:ts.take j=ts:=by rw [uh HN];exact List.take_length
   have e3:l'=markTs k ts:=by
    apply List.ext_getElem?
    intro i
    rw [uh HK i,markTs_get]
    by_cases c:i < j
    ·rw [if_pos c]
    ·rw [if_neg c,List.getElem?_eq_none (by rw [← uh HN];omega)];rfl
   rw [e2,← e3]
   exact ⟨rfl,uh HTD,uh HB⟩
end Go.Proofs.YtmnmeaeicjhkhaaGreatDoor
namespace Go.Proofs.YtmnmeaeicjhkhaaGreatDoor
open Go.RowKit
theorem markVs_get {k:Int} {n:Nat} (i:Nat) (h:i < (markVs k n).length):(markVs k n)[i]=mkVK k i:=by simp [markVs]
theorem heldVsK_any (lo:Nat) (v:Value) (l:List V) (k:Int) (w:World) (hv:VsAt lo w v l) (hl:l.length≤1048576) (hk:0 < k) (hk2:k≤4398040000000) (hm:∀ i (h:i < l.length),l[i]=mkVK k i) :
  Calls Tryz.prog 82 #[v,.int .i64 k] w fun e w'=>e=.returned (.int .i64 (k + l.length * 2))∧Below w.heap.size w w':=by
 have HV:=hide hv
 have HM:=hide hm
 obtain ⟨a,cap,rfl⟩:=owns_slice hv.row
 clear hv hm
 obtain ⟨n,hn⟩:∃ n,n=l.length:=⟨_,rfl⟩
 have HN:=hide hn
 rw [← hn] at hl
 rw [← hn]
 rw [← hn] at HV
 clear hn
 go_enter Tryz.func82,Tryz.ntmps82
 go_wp2
 go_loopw [1,5] (fun q i wr=>∃ (j:Nat),j≤n∧q=.int .i64 (k + j * 2)∧i=.int .i64 j∧Below w.heap.size w wr) (fun _ i _=>n - (intOf i).toNat)
 case atStart=>exact ⟨0,by omega,by simp,rfl,Below.refl _ _⟩
 case round =>
  obtain ⟨j,hj,rfl,rfl,hb⟩:=hrel
  have HB:=hide hb
  by_cases hlt:j < n
  ·have hjl:j < l.length:=by rw [← uh HN];exact hlt
   obtain ⟨ga,hga⟩:∃ ga,a=some ⟨ga,0,none⟩:=by
    rcases (uh HV).row.2 with ⟨_,h0⟩ | ⟨g,cap,cur,hv,_⟩
    ·rw [← uh HN] at h0;omega
    ·cases hv;exact ⟨g,rfl⟩
   subst hga
   obtain ⟨e0,e1⟩:=vCells_get l j hjl
   have HO:wr.ownsRow lo 40 2 (.slice (some ⟨ga,0,none⟩) n cap) n (vCells l):=by have:=((uh HV).below hb).row;rw [← uh HN] at this;exact this
   obtain ⟨c0,-⟩:=owns_cell HO _ _ e0
   obtain ⟨c1,-⟩:=owns_cell HO _ _ e1
   rw [uh HM j hjl] at c0 c1
   simp only [mkVK] at c0 c1
   have hi1:(0:Int)≤(j:Int):=by omega
   have hi2:(j:Int) < (n:Int):=by omega
   clear HO e0 e1 hjl hb
   go_wp2
   go_region_held3 (fun w'=>w'.cell? ⟨ga,j * 2,none⟩=some (.string (mtx (k + j * 2)))∧w'.cell? ⟨ga,j * 2 + 1,none⟩=some (.string (mtx (k + j * 2 + 1))))
    (first | (exact ⟨c0,c1⟩) | (exact ⟨cell_below hb1 c0,cell_below hb1 c1⟩))
    ((go_at_call 78;refine (markTextK_any _ _ (by omega) (by omega)).mono ?_;rintro e w1 ⟨rfl,hb1,-⟩))
   have HB1:Hid (Below w.heap.size w w1):=hide ((uh HB).drew.trans (hb1.mono (by simpa using (uh HB).size)))
   have c1':w1.cell? ⟨ga,j * 2 + 1,none⟩=some (.string (mtx (k + j * 2 + 1))):=cell_below hb1 c1
   clear c0 c1 hb1
   go_wp2
   go_region_held3 (fun w'=>w'.cell? ⟨ga,j * 2 + 1,none⟩=some (.string (mtx (k + j * 2 + 1))))
    (first | (exact c1') | (exact cell_below hb2 c1'))
    ((go_at_call 78;refine (markTextK_any _ _ (by omega) (by omega)).mono ?_;rintro e w2 ⟨rfl,hb2,-⟩))
   have HB2:Hid (Below w.heap.size w w2):=hide ((uh HB1).drew.trans (hb2.mono (by simpa using (uh HB1).size)))
   clear c1' hb2
   go_wp2
   go_roundw
   case rel=>exact ⟨j + 1,by omega,by go_num,by go_num,uh HB2⟩
   case measure=>simp [intOf];omega
  ·have e:j=n:=by omega
   subst e
   go_wp2
   go_ret
   exact ⟨rfl,uh HB⟩
theorem heldToldS_any (lo:Nat) (v:Value) (ts:List Tl) (k:Int) (w:World) (hv:TdsAt lo w v (markTs k ts)) (hl:ts.length≤500) (hsh:Short ts) (hk:0 < k) (hk2:k≤1000000) :
  Calls Tryz.prog 33 #[v,.int .i64 k] w fun e w'=>e=.returned (.int .i64 (tsEnd k ts))∧Below w.heap.size w w':=by
 have HV:=hide hv
 have HSH:=hide hsh
 have hrow:=hv.row
 rw [markTs_len] at hrow
 obtain ⟨a,cap,rfl⟩:=owns_slice hrow
 clear hv hsh
 obtain ⟨n,hn⟩:∃ n,n=ts.length:=⟨_,rfl⟩
 have HN:=hide hn
 rw [← hn] at hl hrow
 rw [← hn]
 rw [← hn] at HV
 have HR:=hide hrow
 clear hn hrow
 go_enter Tryz.func33,Tryz.ntmps33
 go_wp2
 go_loopw [1,5] (fun q i wr=>∃ (j:Nat),j≤n∧q=.int .i64 (tsEnd k (ts.take j))∧i=.int .i64 j∧Below w.heap.size w wr) (fun _ i _=>n - (intOf i).toNat)
 case atStart=>exact ⟨0,by omega,rfl,rfl,Below.refl _ _⟩
 case round =>
  obtain ⟨j,hj,rfl,rfl,hb⟩:=hrel
  have HB:=hide hb
  by_cases hlt:j < n
  ·obtain ⟨x,hx⟩:∃ x,ts[j]?=some x:=⟨_,List.getElem?_eq_getElem (by rw [← uh HN];exact hlt)⟩
   obtain ⟨K,hK⟩:∃ K,K=tsEnd k (ts.take j):=⟨_,rfl⟩
   have hK1:k≤K∧K≤k + 502000:=by
    have:=tsEnd_le k (ts.take j) ((uh HSH).take j)
    rw [← hK] at this
    have h2:(ts.take j).length≤500:=by rw [List.length_take];have:=uh HN;omega
    omega
   obtain ⟨hK1,hK2⟩:=hK1
   obtain ⟨hf5,hv6⟩:=uh HSH x (List.mem_iff_getElem?.2 ⟨j,hx⟩)
   have hx':(markTs k ts)[j]?=some (markTl K x):=by rw [markTs_get,hx,hK];rfl
   rw [← hK]
   have HKK:=hide hK
   clear hK
   obtain ⟨ga,hga⟩:∃ ga,a=some ⟨ga,0,none⟩:=by
    rcases (uh HR).2 with ⟨_,h0⟩ | ⟨g,cap,cur,hv,_⟩
    ·omega
    ·cases hv;exact ⟨g,rfl⟩
   subst hga
   obtain ⟨e0,e1,e2,e3,e4,e5⟩:=tlCells_get _ j _ hx'
   have HO:=owns_below (uh HR) hb
   obtain ⟨c0,-⟩:=owns_cell HO _ _ e0
   obtain ⟨c1,-⟩:=owns_cell HO _ _ e1
   obtain ⟨c2,-⟩:=owns_cell HO _ _ e2
   obtain ⟨c3,-⟩:=owns_cell HO _ _ e3
   obtain ⟨c4,-⟩:=owns_cell HO _ _ e4
   obtain ⟨c5,-⟩:=owns_cell HO _ _ e5
   have hm:markTl K x ∈ markTs k ts:=List.mem_iff_getElem?.2 ⟨j,hx'⟩
   have HF:Hid (FrsAt lo wr x.v5 (markFr (K + 1 + 1 + 1 + 1) x.d.fr.length)):=hide (((uh HV).fr _ hm).below hb)
   have HVV:Hid (VsAt lo wr x.v6 (markVs (K + 1 + 1 + 1 + 1 + (x.d.fr.length:Int) * 3) x.d.vs.length)):=hide (((uh HV).vs _ hm).below hb)
   simp only [markTl] at c0 c1 c2 c3 c4 c5
   have HX:=hide hx
   have HE:Hid (tsEnd k (ts.take (j + 1))=K + 1 + 1 + 1 + 1 + (x.d.fr.length:Int) * 3 + (x.d.vs.length:Int) * 2):=hide (by rw [tsEnd_take hx,← uh HKK];rfl)
   obtain ⟨v5,h5⟩:∃ v5,v5=x.v5:=⟨_,rfl⟩
   obtain ⟨v6,h6⟩:∃ v6,v6=x.v6:=⟨_,rfl⟩
   rw [← h5] at c4 HF
   rw [← h6] at c5 HVV
   clear h5 h6
   generalize x.d.fr.length=F at *
   generalize x.d.vs.length=G at *
   have hi1:(0:Int)≤(j:Int):=by omega
   have hi2:(j:Int) < (n:Int):=by omega
   clear HO e0 e1 e2 e3 e4 e5 hm hx hx' hb
   go_wp2
   go_region_held3 (fun w'=>w'.cell? ⟨ga,j * 6 + 3,none⟩=some (.string (mtx (K + 1 + 1 + 1))))
    (first | (exact c3) | (exact cell_below hb1 c3))
    ((go_at_call 78;refine (markTextK_any _ _ (by omega) (by omega)).mono ?_;rintro e w1 ⟨rfl,hb1,-⟩))
   have hbd:Below wr.heap.size wr w1:=(Below.refl _ _).drew.trans (hb1.mono (by simp))
   have HB1:Hid (Below w.heap.size w w1):=hide ((uh HB).trans (hbd.mono (uh HB).size))
   have c4':=cell_below hbd c4
   have c5':=cell_below hbd c5
   have HF1:=hide ((uh HF).below hbd)
   have HV1:=hide ((uh HVV).below hbd)
   clear c0 c1 c2 c3 c4 c5 hb1 hbd HF HVV
   go_wp2_with fail
   refine (heldFrK_any lo _ _ _ _ (uh HF1) (by rw [markFr_len];exact hf5) (by omega) (by omega) (fun i h=>markFr_get i h)).mono ?_
   rintro e w2 ⟨rfl,hb2⟩
   rw [markFr_len]
   have c5'':=cell_below hb2 c5'
   have HV2:=hide ((uh HV1).below hb2)
   have HB2:=hide ((uh HB1).trans (hb2.mono (uh HB1).size))
   clear c4' c5' hb2 HF1 HV1
   go_wp2_with fail
   refine (heldVsK_any lo _ _ _ _ (uh HV2) (by rw [markVs_len];omega) (by omega) (by omega) (fun i h=>markVs_get i h)).mono ?_
   rintro e w3 ⟨rfl,hb3⟩
   rw [markVs_len]
   have HB3:=hide ((uh HB2).trans (hb3.mono (uh HB2).size))
   clear c5'' hb3 HV2
   go_wp2
   go_roundw
   case rel=>exact ⟨j + 1,by omega,by rw [uh HE],by go_num,uh HB3⟩
   case measure=>simp [intOf];omega
  ·have e:j=n:=by omega
   subst e
   go_wp2
   go_ret
   have e2:ts.take j=ts:=by rw [uh HN];exact List.take_length
   rw [e2]
   exact ⟨rfl,uh HB⟩
end Go.Proofs.YtmnmeaeicjhkhaaGreatDoor
