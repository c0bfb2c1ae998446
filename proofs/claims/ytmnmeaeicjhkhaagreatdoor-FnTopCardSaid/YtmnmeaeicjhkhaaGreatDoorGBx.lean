import Derived.WalkSpells
import Derived.Deep.OwnRows
namespace Go.Proofs.YtmnmeaeicjhkhaaGreatDoor
section
open Go.RowKit
abbrev tz0:Obj:=.cells #[.int .i64 0,.int .i64 0,.int .i64 0,.string ⟨#[]⟩,.slice none 0 0,.slice none 0 0] 38
abbrev sx1:=@List.setIfInBounds_toArray
abbrev sx2:=@List.set_cons_zero
abbrev sx3:=@List.set_cons_succ
abbrev sx4:=@List.getElem_toArray
abbrev sx5:=@List.getElem_cons_succ
abbrev sx6:=@List.getElem_cons_zero
theorem sx:(∀ (l:List Value) (i:Nat) (a:Value),l.toArray.setIfInBounds i a=(l.set i a).toArray)/\(∀ (l:List Bool) (i:Nat) (a:Bool),l.toArray.setIfInBounds i a=(l.set i a).toArray)/\(∀ (a b:Value) (l:List Value),(a :: l).set 0 b=b :: l)/\(∀ (a b:Bool) (l:List Bool),(a :: l).set 0 b=b :: l)/\(∀ (a b:Value) (l:List Value) (n:Nat),(a :: l).set (n+1) b=a :: l.set n b)/\(∀ (a b:Bool) (l:List Bool) (n:Nat),(a :: l).set (n+1) b=a :: l.set n b) :=
 ⟨fun _ _ _=>List.setIfInBounds_toArray ..,fun _ _ _=>List.setIfInBounds_toArray ..,fun _ _ _=>rfl,fun _ _ _=>rfl,fun _ _ _ _=>rfl,fun _ _ _ _=>rfl⟩
theorem O {p:Prop} (h:p):Hid p:=h
theorem Z {p:Prop} (h:Hid p):p:=h
theorem hT {w w1 w2:World} (a:Hid (Below w.heap.size w w1)) (b:Below w1.heap.size w1 w2):Hid (Below w.heap.size w w2):=O ((Z a).trans (b.mono (Z a).size))
theorem sy:((∀ (l:List Value) (i:Nat) (a:Value),l.toArray.setIfInBounds i a=(l.set i a).toArray)/\(∀ (l:List Bool) (i:Nat) (a:Bool),l.toArray.setIfInBounds i a=(l.set i a).toArray)/\(∀ (a b:Value) (l:List Value),(a :: l).set 0 b=b :: l)/\(∀ (a b:Bool) (l:List Bool),(a :: l).set 0 b=b :: l)/\(∀ (a b:Value) (l:List Value) (n:Nat),(a :: l).set (n+1) b=a :: l.set n b)/\(∀ (a b:Bool) (l:List Bool) (n:Nat),(a :: l).set (n+1) b=a :: l.set n b))/\(∀ (l:List Value) (i:Nat) (h:i<l.toArray.size),l.toArray[i]=l[i]'(by simpa using h))/\(∀ (a:Value) (l:List Value) (h:0<(a :: l).length),(a :: l)[0]=a)/\(∀ (a:Value) (l:List Value) (i:Nat) (h:i+1<(a :: l).length),(a :: l)[i+1]=l[i]'(by simpa using h)) :=
 ⟨sx,fun _ _ _=>List.getElem_toArray ..,fun _ _ _=>rfl,fun _ _ _ _=>rfl⟩
def bS (P:Prop) (e:Ending):Prop:=∃ b,e=.returned (.bool b)/\(b=true↔P)
theorem bS.yes {P:Prop} (h:P):bS P (.returned (.bool true)):=⟨true,rfl,by simp [h]⟩
theorem bS.no {P:Prop} (h:¬ P):bS P (.returned (.bool false)):=⟨false,rfl,by simp [h]⟩
structure V where
 name:ByteArray
 text:ByteArray
structure M where
 kind:Int
 task:Int
 fn:Int
 line:Int
 text:ByteArray
 nv:Nat
 vars:Nat->V
def xU (lo:Nat) (w:World) (a:Addr):Prop:=lo<=a.block/\(lo≠0->w.frozen? a=false)
def eE (lo:Nat) (w:World) (v:Value) (n:Nat) (f:Nat->ByteArray):Prop :=
 ∃ a cap,v=.slice a n cap/\n<=maxLen/\∀ i,i<n->∃ b o,a=some ⟨b,o,none⟩/\w.cell? ⟨b,o+i,none⟩=some (.string (f i))/\(f i).size<=maxLen/\xU lo w ⟨b,o+i,none⟩
def fN (lo:Nat) (w:World) (v:Value) (n:Nat) (f:Nat->V):Prop :=
 ∃ a cap,v=.slice a n cap/\n<=maxLen/\∀ i,i<n->∃ b o,a=some ⟨b,o,none⟩/\w.cell? ⟨b,o+i*2,none⟩=some (.string (f i).name)/\w.cell? ⟨b,o+i*2+1,none⟩=some (.string (f i).text) /\
  (f i).name.size<=maxLen/\(f i).text.size<=maxLen/\xU lo w ⟨b,o+i*2,none⟩/\xU lo w ⟨b,o+i*2+1,none⟩
def bQ (lo:Nat) (w:World) (v:Value) (n:Nat) (f:Nat->M):Prop :=
 ∃ a cap,v=.slice a n cap/\n<=maxLen/\∀ i,i<n->∃ b o vv,a=some ⟨b,o,none⟩/\w.cell? ⟨b,o+i*6,none⟩=some (.int .i64 (f i).kind)/\w.cell? ⟨b,o+i*6+1,none⟩=some (.int .i64 (f i).task) /\
  w.cell? ⟨b,o+i*6+2,none⟩=some (.int .i64 (f i).fn)/\w.cell? ⟨b,o+i*6+3,none⟩=some (.int .i64 (f i).line)/\w.cell? ⟨b,o+i*6+4,none⟩=some (.string (f i).text) /\
  w.cell? ⟨b,o+i*6+5,none⟩=some vv/\(f i).text.size<=maxLen/\fN lo w vv (f i).nv (f i).vars/\(∀ j,j<6->xU lo w ⟨b,o+i*6+j,none⟩)
theorem bV {w:World} {p:Addr} {v:Value} (h:w.cell? p=some v):p.block<w.heap.size:=World.block_lt_of_cell? _ _ h
theorem bG {w w':World} {p:Addr} {v:Value} (hb:Below w.heap.size w w') (h:w.cell? p=some v):w'.cell? p=some v:=by
 rw [hb.cell (bV h)];exact h
theorem xU.below {lo:Nat} {w w':World} {p:Addr} (hb:Below w.heap.size w w') (hp:p.block<w.heap.size) (h:xU lo w p):xU lo w' p :=
 ⟨h.1,fun e=>by rw [hb.frozen hp];exact h.2 e⟩
theorem xU.low {lo lo':Nat} {w:World} {p:Addr} (hl:lo'<=lo) (h:xU lo w p):xU lo' w p:=⟨Nat.le_trans hl h.1,fun e=>h.2 (by omega)⟩
theorem xU.set {lo:Nat} {w:World} {p q:Addr} {u:Value} (h:xU lo w p):xU lo (w.setCell q u) p:=⟨h.1,fun e=>by rw [World.frozen?_setCell];exact h.2 e⟩
theorem eE.below {lo:Nat} {w w':World} {v:Value} {n:Nat} {f:Nat->ByteArray} (hb:Below w.heap.size w w') (h:eE lo w v n f):eE lo w' v n f:=by
 obtain ⟨a,cap,hv,hn,h⟩:=h
 refine ⟨a,cap,hv,hn,fun i hi=>?_⟩
 obtain ⟨b,o,ha,h1,h2,h3⟩:=h i hi
 exact ⟨b,o,ha,bG hb h1,h2,h3.below hb (bV h1)⟩
theorem fN.below {lo:Nat} {w w':World} {v:Value} {n:Nat} {f:Nat->V} (hb:Below w.heap.size w w') (h:fN lo w v n f):fN lo w' v n f:=by
 obtain ⟨a,cap,hv,hn,h⟩:=h
 refine ⟨a,cap,hv,hn,fun i hi=>?_⟩
 obtain ⟨b,o,ha,h1,h2,h3,h4,h5,h6⟩:=h i hi
 exact ⟨b,o,ha,bG hb h1,bG hb h2,h3,h4,h5.below hb (bV h1),h6.below hb (bV h2)⟩
theorem bQ.below {lo:Nat} {w w':World} {v:Value} {n:Nat} {f:Nat->M} (hb:Below w.heap.size w w') (h:bQ lo w v n f):bQ lo w' v n f:=by
 obtain ⟨a,cap,hv,hn,h⟩:=h
 refine ⟨a,cap,hv,hn,fun i hi=>?_⟩
 obtain ⟨b,o,vv,ha,h0,h1,h2,h3,h4,h5,h6,h7,h8⟩:=h i hi
 exact ⟨b,o,vv,ha,bG hb h0,bG hb h1,bG hb h2,bG hb h3,bG hb h4,bG hb h5,h6,h7.below hb,fun j hj=>(h8 j hj).below hb (bV (p:=⟨b,o+i*6,none⟩) h0)⟩
theorem eE.low {lo lo':Nat} {w:World} {v:Value} {n:Nat} {f:Nat->ByteArray} (hl:lo'<=lo) (h:eE lo w v n f):eE lo' w v n f:=by
 obtain ⟨a,cap,hv,hn,h⟩:=h
 refine ⟨a,cap,hv,hn,fun i hi=>?_⟩
 obtain ⟨b,o,ha,h1,h2,h3⟩:=h i hi
 exact ⟨b,o,ha,h1,h2,h3.low hl⟩
theorem fN.low {lo lo':Nat} {w:World} {v:Value} {n:Nat} {f:Nat->V} (hl:lo'<=lo) (h:fN lo w v n f):fN lo' w v n f:=by
 obtain ⟨a,cap,hv,hn,h⟩:=h
 refine ⟨a,cap,hv,hn,fun i hi=>?_⟩
 obtain ⟨b,o,ha,h1,h2,h3,h4,h5,h6⟩:=h i hi
 exact ⟨b,o,ha,h1,h2,h3,h4,h5.low hl,h6.low hl⟩
theorem bQ.low {lo lo':Nat} {w:World} {v:Value} {n:Nat} {f:Nat->M} (hl:lo'<=lo) (h:bQ lo w v n f):bQ lo' w v n f:=by
 obtain ⟨a,cap,hv,hn,h⟩:=h
 refine ⟨a,cap,hv,hn,fun i hi=>?_⟩
 obtain ⟨b,o,vv,ha,h0,h1,h2,h3,h4,h5,h6,h7,h8⟩:=h i hi
 exact ⟨b,o,vv,ha,h0,h1,h2,h3,h4,h5,h6,h7.low hl,fun j hj=>(h8 j hj).low hl⟩
theorem bJ {w:World} {p q:Addr} {v u:Value} (hne:q.block≠p.block) (h:w.cell? p=some v):(w.setCell q u).cell? p=some v:=by
 rw [World.cell?_setCell_other _ _ _ _ (fun e=>hne (by rw [e]))];exact h
theorem fN.set {lo:Nat} {w:World} {v:Value} {n:Nat} {f:Nat->V} {q:Addr} {u:Value} (hq:q.block<lo) (h:fN lo w v n f):fN lo (w.setCell q u) v n f:=by
 obtain ⟨a,cap,hv,hn,h⟩:=h
 refine ⟨a,cap,hv,hn,fun i hi=>?_⟩
 obtain ⟨b,o,ha,h1,h2,h3,h4,h5,h6⟩:=h i hi
 have hl:lo<=b:=h5.1
 exact ⟨b,o,ha,bJ (by show q.block≠b;omega) h1,bJ (by show q.block≠b;omega) h2,h3,h4,h5.set,h6.set⟩
theorem eE.set {lo:Nat} {w:World} {v:Value} {n:Nat} {f:Nat->ByteArray} {q:Addr} {u:Value} (hq:q.block<lo) (h:eE lo w v n f):eE lo (w.setCell q u) v n f:=by
 obtain ⟨a,cap,hv,hn,h⟩:=h
 refine ⟨a,cap,hv,hn,fun i hi=>?_⟩
 obtain ⟨b,o,ha,h1,h2,h3⟩:=h i hi
 have hl:lo<=b:=h3.1
 exact ⟨b,o,ha,bJ (by show q.block≠b;omega) h1,h2,h3.set⟩
theorem bQ.set {lo:Nat} {w:World} {v:Value} {n:Nat} {f:Nat->M} {q:Addr} {u:Value} (hq:q.block<lo) (h:bQ lo w v n f):bQ lo (w.setCell q u) v n f:=by
 obtain ⟨a,cap,hv,hn,h⟩:=h
 refine ⟨a,cap,hv,hn,fun i hi=>?_⟩
 obtain ⟨b,o,vv,ha,h0,h1,h2,h3,h4,h5,h6,h7,h8⟩:=h i hi
 have hl:lo<=b:=(h8 0 (by omega)).1
 have hne:q.block≠b:=by omega
 exact ⟨b,o,vv,ha,bJ hne h0,bJ hne h1,bJ hne h2,bJ hne h3,bJ hne h4,bJ hne h5,h6,h7.set hq,fun j hj=>(h8 j hj).set⟩
theorem old_cells {a z:World} (h:Below a.heap.size a z) (k o:Nat) (hk:k<a.heap.size):z.cell? ⟨k,o,none⟩=a.cell? ⟨k,o,none⟩:=h.cell hk
theorem old_marks {a z:World} (h:Below a.heap.size a z) (k o:Nat) (hk:k<a.heap.size):z.frozen? ⟨k,o,none⟩=a.frozen? ⟨k,o,none⟩:=h.frozen hk
theorem gY {P:Program} (t e:TypeId) (z:Value) (size bytes:Nat) (ht:P.underlying t=some (.slice e)) (hinfo:(P.info? e).map (fun i=>(i.zero,i.size,i.bytes))=some (some z,size,bytes))
  (n:Nat) (hbytes:bytes*n<=281474976710656) (h63:n<=9223372036854775807) (w:World) :
  (Instr.makeSlice t (.int .i64 (n:Int)) (.int .i64 (n:Int))).run P w=.ok (.slice (some ⟨w.heap.size,0,none⟩) n n) (w.alloc (.cells (madeCells z.cells (n*size)) e)):=by
 obtain ⟨i,hi,hzz⟩:=Option.map_eq_some_iff.1 hinfo
 simp only [Prod.mk.injEq] at hzz
 obtain ⟨hz,hs,hb⟩:=hzz
 have hb':(i.bytes:Int)*(n:Int)<=281474976710656:=by
  have h:((i.bytes*n:Nat):Int)<=281474976710656:=by rw [hb];omega
  rwa [Int.natCast_mul] at h
 have hr:=run_make (P:=P) w t e i z ht hi hz .i64 .i64 n n (by omega) (Int.le_refl _) hb' (by omega)
 rw [hr,hs]
 simp
end
def kN (nf:Nat) (fns:Nat->ByteArray) (nm:Nat):Prop:=nf≠0/\nf<=300/\nm<=3000/\∀ i,i<nf->(fns i).size<=40
def VarsOk (n:Nat) (vs:Nat->V):Prop:=n<=200/\∀ i,i<n->(vs i).name.size≠0/\(vs i).name.size<=40/\(vs i).text.size<=4000
def fG (nf:Nat) (k t fn l:Int) (ts:Nat):Prop :=
 1<=k/\k<=7/\0<=t/\t<=100/\0<=fn/\fn<nf/\0<=l/\l<=100000/\¬ (k=1/\l=0)/\ts<=4000
def fB (nf:Nat) (m:M):Prop:=fG nf m.kind m.task m.fn m.line m.text.size/\VarsOk m.nv m.vars
structure Fr where
 fn:Int
 line:Int
 frm:Int
structure St where
 cur:Nat
 tasks:Nat->List Fr
def St.init:St:=⟨0,fun t=>if t=0 then [⟨0,0,-1⟩] else []⟩
def topFn:List Fr->Int
 | []=>0
 | f :: _=>f.fn
def gU:List Fr->Int
 | []=>-1
 | f :: _=>f.frm
def qG (l:Int):List Fr->List Fr
 | []=>[]
 | f :: r=>⟨f.fn,l,f.frm⟩ :: r
def code (s:St) (kind task fn:Int):Int :=
 if kind=7 then 0
 else if task≠s.cur then 3
 else if kind=2 then (if (s.tasks s.cur).length=200 then 5 else 0)
 else if fn≠topFn (s.tasks s.cur) then 4
 else if kind=1 then (if (s.tasks s.cur).length=0 then 4 else 0)
 else if kind=3 then (if gU (s.tasks s.cur)<0 then 4 else 0)
 else 0
def St.put (s:St) (l:List Fr):St:=⟨s.cur,fun t=>if t=s.cur then l else s.tasks t⟩
def St.step (s:St) (kind task fn line:Int) (k:Int):St :=
 if kind=7 then ⟨task.toNat,s.tasks⟩
 else if kind=2 then s.put (⟨fn,0,k⟩ :: s.tasks s.cur)
 else if kind=1 then s.put (qG line (s.tasks s.cur))
 else if kind=3 then s.put (s.tasks s.cur).tail
 else s
def St.after (moms:Nat->M):Nat->St
 | 0=>St.init
 | k+1=>(St.after moms k).step (moms k).kind (moms k).task (moms k).fn (moms k).line k
def eB (moms:Nat->M) (k:Nat):Int:=code (St.after moms k) (moms k).kind (moms k).task (moms k).fn
def Ans (nf:Nat) (fns:Nat->ByteArray) (nm:Nat) (moms:Nat->M) (c m:Int):Prop :=
 (¬ kN nf fns nm/\c=1/\m=0) ∨
 (kN nf fns nm/\∃ i:Nat,i<nm/\¬ fB nf (moms i)/\(∀ j,j<i->fB nf (moms j))/\c=2/\m=i) ∨
 (kN nf fns nm/\(∀ j,j<nm->fB nf (moms j))/\∃ i:Nat,i<nm/\eB moms i≠0/\(∀ j,j<i->eB moms j=0)/\c=eB moms i/\m=i) ∨
 (kN nf fns nm/\(∀ j,j<nm->fB nf (moms j))/\(∀ j,j<nm->eB moms j=0)/\c=0/\m=0)
end Go.Proofs.YtmnmeaeicjhkhaaGreatDoor
