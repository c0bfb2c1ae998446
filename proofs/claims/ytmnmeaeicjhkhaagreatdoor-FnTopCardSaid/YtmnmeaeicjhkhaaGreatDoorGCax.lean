import Derived.Test.YtmnmeaeicjhkhaaGreatDoorGIdx
namespace Go.Proofs.YtmnmeaeicjhkhaaGreatDoor
open Go.RowKit
def eQ (lo:Nat) (w:World) (v:Value) (z n:Nat) (F:Nat->Nat->Int):Prop :=
 ∃ a cap,v=.slice a n cap/\∀ i,i<n->∃ b,a=some ⟨b,0,none⟩/\lo<=b/\∀ j,j<z->w.cell? ⟨b,i*z+j,none⟩=some (.int .i64 (F i j))/\w.frozen? ⟨b,i*z+j,none⟩=false
theorem eQ.below {lo:Nat} {w w':World} {v:Value} {z n:Nat} {F:Nat->Nat->Int} (h:eQ lo w v z n F) (hb:Below w.heap.size w w'):eQ lo w' v z n F:=by
 obtain ⟨a,cap,hv,h⟩:=h
 refine ⟨a,cap,hv,fun i hi=>?_⟩
 obtain ⟨b,ha,hl,hc⟩:=h i hi
 exact ⟨b,ha,hl,fun j hj=>⟨bG hb (hc j hj).1,by rw [hb.frozen (bV (hc j hj).1)];exact (hc j hj).2⟩⟩
theorem eQ.low {lo lo':Nat} {w:World} {v:Value} {z n:Nat} {F:Nat->Nat->Int} (h:eQ lo w v z n F) (hl:lo'<=lo):eQ lo' w v z n F:=by
 obtain ⟨a,cap,hv,h⟩:=h
 refine ⟨a,cap,hv,fun i hi=>?_⟩
 obtain ⟨b,ha,h1,hc⟩:=h i hi
 exact ⟨b,ha,by omega,hc⟩
theorem eQ.congr {lo:Nat} {w:World} {v:Value} {z n:Nat} {F G:Nat->Nat->Int} (h:eQ lo w v z n F) (e:∀ i j,i<n->j<z->F i j=G i j):eQ lo w v z n G:=by
 obtain ⟨a,cap,hv,h⟩:=h
 refine ⟨a,cap,hv,fun i hi=>?_⟩
 obtain ⟨b,ha,h1,hc⟩:=h i hi
 exact ⟨b,ha,h1,fun j hj=>by rw [<- e i j hi hj];exact hc j hj⟩
theorem eQ.nil (lo:Nat) (w:World) (z:Nat) (F:Nat->Nat->Int):eQ lo w (.slice none 0 0) z 0 F:=⟨none,0,rfl,fun _ hi=>absurd hi (Nat.not_lt_zero _)⟩
theorem place_inj {z i j i' j':Nat} (hj:j<z) (hj':j' < z) (h:i*z+j=i' * z+j'):i=i'/\j=j':=by
 have h1:(i*z+j) / z=i:=by rw [Nat.add_comm,Nat.add_mul_div_right _ _ (by omega),Nat.div_eq_of_lt hj];omega
 have h2:(i' * z+j') / z=i':=by rw [Nat.add_comm,Nat.add_mul_div_right _ _ (by omega),Nat.div_eq_of_lt hj'];omega
 have:i=i':=by rw [<- h1,<- h2,h]
 subst this
 exact ⟨rfl,by omega⟩
theorem eQ.shape {lo:Nat} {w:World} {v:Value} {z n:Nat} {F:Nat->Nat->Int} (h:eQ lo w v z n F):∃ a cap,v=.slice a n cap:=by
 obtain ⟨a,cap,hv,_⟩:=h
 exact ⟨a,cap,hv⟩
theorem eQ.of_owns {B:Nat} {w:World} {e:TypeId} {z n:Nat} {v:Value} {xs:List Value} {F:Nat->Nat->Int} (h:w.ownsRow B e z v n xs) (hx:∀ i j,i<n->j<z->xs[i*z+j]?=some (.int .i64 (F i j))):eQ B w v z n F:=by
 obtain ⟨a,cap,rfl⟩:=bR h
 refine ⟨a,cap,rfl,fun i hi=>?_⟩
 rcases h.2 with ⟨_,h0⟩ | ⟨g,cap',cur,hv,hB,_⟩
 ·omega
 cases hv
 exact ⟨g,rfl,hB,fun j hj=>bL h _ _ (hx i j hi hj)⟩
def gK (l:List Fr) (i:Nat):Bool:=l.any fun fr=>decide (fr.fn=(i:Int))
def pC (m:M) (l:List Fr) (i j:Nat):Int :=
 if m.kind=2 then (if j=1/\(i:Int)=m.fn then 1 else 0)
 else if m.kind=1 then (if j=2/\(i:Int)=m.fn then 1 else if j=3/\gK l i=true then 1 else 0)
 else 0
def tJ (f:Nat->M) (k:Nat):List Fr:=(St.after f k).tasks (St.after f k).cur
def dQ (f:Nat->M):Nat->Nat->Nat->Int
 | 0,i,j=>if j=0 then (i:Int) else if j=1/\i=0 then 1 else 0
 | k+1,i,j=>dQ f k i j+pC (f k) (tJ f (k+1)) i j
def FcAns (nf:Nat) (fns:Nat->ByteArray) (n:Nat) (f:Nat->M) (n':Nat) (F:Nat->Nat->Int):Prop :=
 (cB nf fns n f/\n'=nf/\∀ i j,i<nf->j<4->F i j=dQ f n i j)∨(¬ cB nf fns n f/\n'=0)
theorem vL (a b:List Fr) (i:Nat):gK (a ++ b) i=(gK a i || gK b i):=List.any_append ..
theorem vM (fr:Fr) (i:Nat):gK [fr] i=decide (fr.fn=(i:Int)):=by simp [gK]
theorem hasFn_rev (l:List Fr) (i:Nat):gK l.reverse i=gK l i:=by simp [gK]
theorem fns_step {nf:Nat} {s:St} {m:M} {k:Int} (h:∀ t fr,fr∈s.tasks t->0<=fr.fn/\fr.fn<nf) (hm:0<=m.fn/\m.fn<nf):∀ t fr,fr∈(s.step m.kind m.task m.fn m.line k).tasks t->0<=fr.fn/\fr.fn<nf:=by
 have hput:∀ l:List Fr,(∀ fr,fr∈l->0<=fr.fn/\fr.fn<nf)->∀ t fr,fr∈(s.put l).tasks t->0<=fr.fn/\fr.fn<nf:=by
  intro l hl t fr hf
  simp only [St.put] at hf
  split at hf
  ·exact hl fr hf
  exact h t fr hf
 unfold St.step
 split
 ·exact h
 split
 ·refine hput _ (fun fr hf=>?_)
  rcases List.mem_cons.1 hf with e | e
  ·rw [e];exact hm
  exact h _ _ e
 split
 ·refine hput _ (fun fr hf=>?_)
  cases e2:s.tasks s.cur with
  | nil=>rw [e2] at hf;cases hf
  | cons f0 r =>
   rw [e2] at hf
   rcases List.mem_cons.1 hf with e | e
   ·rw [e];exact h s.cur f0 (by rw [e2];exact List.mem_cons_self ..)
   exact h s.cur fr (by rw [e2];exact List.mem_cons_of_mem _ e)
 split
 ·exact hput _ (fun fr hf=>h _ _ (List.mem_of_mem_tail hf))
 exact h
theorem zK {nf:Nat} {fns:Nat->ByteArray} {n:Nat} {f:Nat->M} (h:cB nf fns n f):∀ k,k<=n->∀ t fr,fr∈(St.after f k).tasks t->0<=fr.fn/\fr.fn<nf
 | 0,_=>by
  intro t fr hf
  simp only [St.after,St.init] at hf
  have:=h.1.1
  split at hf
  ·rw [List.mem_singleton.1 hf]
   exact ⟨by decide,by show (0:Int)<nf;omega⟩
  cases hf
 | k+1,hk=>by
  have hm:=(h.2.1 k (by omega)).1
  unfold fG at hm
  exact fns_step (zK h k (by omega)) ⟨hm.2.2.2.2.1,hm.2.2.2.2.2.1⟩
structure eG (e:TypeId) (b:Nat) (w:World) (z n:Nat) (F:Nat->Nat->Int):Prop where
 ty:∃ cs fr,w.heap[b]?=some (.cells cs e fr)
 cell:∀ i j,i<n->j<z->w.cell? ⟨b,i*z+j,none⟩=some (.int .i64 (F i j))/\w.frozen? ⟨b,i*z+j,none⟩=false
theorem eG.lt {e:TypeId} {b:Nat} {w:World} {z n:Nat} {F:Nat->Nat->Int} (h:eG e b w z n F):b<w.heap.size:=by
 obtain ⟨cs,fr,h1⟩:=h.ty
 exact (Array.getElem?_eq_some_iff.1 h1).1
theorem eG.of_block {e:TypeId} {b:Nat} {w w':World} {z n:Nat} {F:Nat->Nat->Int} (h:eG e b w z n F) (hb:w'.heap[b]?=w.heap[b]?):eG e b w' z n F :=
 ⟨by rw [hb];exact h.ty,fun i j hi hj=>by rw [World.cell?_of_block hb,World.frozen?_of_block hb];exact h.cell i j hi hj⟩
theorem eG.below {e:TypeId} {b:Nat} {w w':World} {z n:Nat} {F:Nat->Nat->Int} (h:eG e b w z n F) (hb:Below w.heap.size w w'):eG e b w' z n F:=h.of_block (hb.block b h.lt)
theorem eG.other {e:TypeId} {b b' o:Nat} {w:World} {z n:Nat} {F:Nat->Nat->Int} {u:Value} (h:eG e b w z n F) (hb:b≠b'):eG e b (w.setCell ⟨b',o,none⟩ u) z n F:=h.of_block (Below.heap_setCell _ _ _ _ hb)
theorem eG.set {e:TypeId} {b:Nat} {w:World} {z n:Nat} {F:Nat->Nat->Int} (h:eG e b w z n F) (i j:Nat) (hj:j<z) (x:Int):eG e b (w.setCell ⟨b,i*z+j,none⟩ (.int .i64 x)) z n (fun i' j'=>if i'=i/\j'=j then x else F i' j'):=by
 refine ⟨?_,fun i' j' hi' hj'=>⟨?_,by rw [World.frozen?_setCell];exact (h.cell i' j' hi' hj').2⟩⟩
 ·obtain ⟨cs,fr,h1⟩:=h.ty
  exact ⟨cs.setIfInBounds (i*z+j) (.int .i64 x),fr,by simp [World.setCell,Array.getElem?_modify,h1]⟩
 by_cases e:i'=i/\j'=j
 ·obtain ⟨rfl,rfl⟩:=e
  rw [if_pos ⟨rfl,rfl⟩]
  exact World.cell?_setCell_same _ _ _ (h.cell i' j' hi' hj').1
 rw [if_neg e,World.cell?_setCell_other _ _ _ _ (fun h=>e (place_inj hj' hj (by simpa using (congrArg Addr.off h).symm)))]
 exact (h.cell i' j' hi' hj').1
theorem eG.congr {e:TypeId} {b:Nat} {w:World} {z n:Nat} {F G:Nat->Nat->Int} (h:eG e b w z n F) (hg:∀ i j,i<n->j<z->F i j=G i j):eG e b w z n G :=
 ⟨h.ty,fun i j hi hj=>by rw [<- hg i j hi hj];exact h.cell i j hi hj⟩
theorem eG.rowsAt {e:TypeId} {b lo cap:Nat} {w:World} {z n:Nat} {F:Nat->Nat->Int} (h:eG e b w z n F) (hl:lo<=b):eQ lo w (.slice (some ⟨b,0,none⟩) n cap) z n F :=
 ⟨_,_,rfl,fun i hi=>⟨b,rfl,hl,fun j hj=>h.cell i j hi hj⟩⟩
theorem mP {w:World} {B:Nat} {e:TypeId} {z:Nat} {v:Value} {n:Nat} {xs:List Value} (h:w.ownsRow B e z v n xs):∀ g,v.ownBlock=some g->B<=g/\∃ cs fr,w.heap[g]?=some (.cells cs e fr):=by
 intro g hg
 rcases h.2 with ⟨e1,_⟩ | ⟨g',cap,cur,e1,hB,hh,_⟩
 ·rw [e1] at hg;cases hg
 rw [e1] at hg;cases hg;exact ⟨hB,cur,_,hh⟩
end Go.Proofs.YtmnmeaeicjhkhaaGreatDoor
