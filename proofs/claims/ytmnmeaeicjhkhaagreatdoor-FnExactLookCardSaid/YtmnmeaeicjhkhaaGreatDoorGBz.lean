import Derived.WalkKit
import Derived.WalkSpells
import Derived.Deep.OwnRows
namespace Go.Proofs.YtmnmeaeicjhkhaaGreatDoor
open Go.RowKit
abbrev sx1:=@List.setIfInBounds_toArray
abbrev sx2:=@List.set_cons_zero
abbrev sx3:=@List.set_cons_succ
abbrev sx4:=@List.getElem_toArray
abbrev sx5:=@List.getElem_cons_succ
abbrev sx6:=@List.getElem_cons_zero
theorem hide {p:Prop} (h:p):Hid p:=h
theorem uh {p:Prop} (h:Hid p):p:=h
def SaysB (P:Prop) (e:Ending):Prop:=∃ b,e=.returned (.bool b)∧(b=true ↔ P)
theorem SaysB.yes {P:Prop} (h:P):SaysB P (.returned (.bool true)):=⟨true,rfl,by simp [h]⟩
theorem SaysB.no {P:Prop} (h:¬ P):SaysB P (.returned (.bool false)):=⟨false,rfl,by simp [h]⟩
structure V where
 name:ByteArray
 text:ByteArray
structure M where
 kind:Int
 task:Int
 fn:Int
 line:Int
 text:ByteArray
 nv:Nat
 vars:Nat→V
def Mine (lo:Nat) (w:World) (a:Addr):Prop:=lo≤a.block∧(lo ≠ 0→w.frozen? a=false)
def StrsAt (lo:Nat) (w:World) (v:Value) (n:Nat) (f:Nat→ByteArray):Prop :=
 ∃ a cap,v=.slice a n cap∧n≤maxLen∧∀ i,i < n→∃ b o,a=some ⟨b,o,none⟩∧w.cell? ⟨b,o + i,none⟩=some (.string (f i))∧(f i).size≤maxLen∧Mine lo w ⟨b,o + i,none⟩
def VarsAt (lo:Nat) (w:World) (v:Value) (n:Nat) (f:Nat→V):Prop :=
 ∃ a cap,v=.slice a n cap∧n≤maxLen∧∀ i,i < n→∃ b o,a=some ⟨b,o,none⟩∧w.cell? ⟨b,o + i * 2,none⟩=some (.string (f i).name)∧w.cell? ⟨b,o + i * 2 + 1,none⟩=some (.string (f i).text) ∧
  (f i).name.size≤maxLen∧(f i).text.size≤maxLen∧Mine lo w ⟨b,o + i * 2,none⟩∧Mine lo w ⟨b,o + i * 2 + 1,none⟩
def MomsAt (lo:Nat) (w:World) (v:Value) (n:Nat) (f:Nat→M):Prop :=
 ∃ a cap,v=.slice a n cap∧n≤maxLen∧∀ i,i < n→∃ b o vv,a=some ⟨b,o,none⟩∧w.cell? ⟨b,o + i * 6,none⟩=some (.int .i64 (f i).kind)∧w.cell? ⟨b,o + i * 6 + 1,none⟩=some (.int .i64 (f i).task) ∧
  w.cell? ⟨b,o + i * 6 + 2,none⟩=some (.int .i64 (f i).fn)∧w.cell? ⟨b,o + i * 6 + 3,none⟩=some (.int .i64 (f i).line)∧w.cell? ⟨b,o + i * 6 + 4,none⟩=some (.string (f i).text) ∧
  w.cell? ⟨b,o + i * 6 + 5,none⟩=some vv∧(f i).text.size≤maxLen∧VarsAt lo w vv (f i).nv (f i).vars∧(∀ j,j < 6→Mine lo w ⟨b,o + i * 6 + j,none⟩)
theorem cell_lt {w:World} {p:Addr} {v:Value} (h:w.cell? p=some v):p.block < w.heap.size:=World.block_lt_of_cell? _ _ h
theorem cell_below {w w':World} {p:Addr} {v:Value} (hb:Below w.heap.size w w') (h:w.cell? p=some v):w'.cell? p=some v:=by
 rw [hb.cell (cell_lt h)];exact h
theorem Mine.below {lo:Nat} {w w':World} {p:Addr} (hb:Below w.heap.size w w') (hp:p.block < w.heap.size) (h:Mine lo w p):Mine lo w' p :=
 ⟨h.1,fun e=>by rw [hb.frozen hp];exact h.2 e⟩
theorem Mine.low {lo lo':Nat} {w:World} {p:Addr} (hl:lo'≤lo) (h:Mine lo w p):Mine lo' w p:=⟨Nat.le_trans hl h.1,fun e=>h.2 (by omega)⟩
theorem Mine.set {lo:Nat} {w:World} {p q:Addr} {u:Value} (h:Mine lo w p):Mine lo (w.setCell q u) p:=⟨h.1,fun e=>by rw [World.frozen?_setCell];exact h.2 e⟩
theorem Mine.zero (w:World) (p:Addr):Mine 0 w p:=⟨Nat.zero_le _,fun e=>absurd rfl e⟩
theorem StrsAt.below {lo:Nat} {w w':World} {v:Value} {n:Nat} {f:Nat→ByteArray} (hb:Below w.heap.size w w') (h:StrsAt lo w v n f):StrsAt lo w' v n f:=by
 obtain ⟨a,cap,hv,hn,h⟩:=h
 refine ⟨a,cap,hv,hn,fun i hi=>?_⟩
 obtain ⟨b,o,ha,h1,h2,h3⟩:=h i hi
 exact ⟨b,o,ha,cell_below hb h1,h2,h3.below hb (cell_lt h1)⟩
theorem VarsAt.below {lo:Nat} {w w':World} {v:Value} {n:Nat} {f:Nat→V} (hb:Below w.heap.size w w') (h:VarsAt lo w v n f):VarsAt lo w' v n f:=by
 obtain ⟨a,cap,hv,hn,h⟩:=h
 refine ⟨a,cap,hv,hn,fun i hi=>?_⟩
 obtain ⟨b,o,ha,h1,h2,h3,h4,h5,h6⟩:=h i hi
 exact ⟨b,o,ha,cell_below hb h1,cell_below hb h2,h3,h4,h5.below hb (cell_lt h1),h6.below hb (cell_lt h2)⟩
theorem MomsAt.below {lo:Nat} {w w':World} {v:Value} {n:Nat} {f:Nat→M} (hb:Below w.heap.size w w') (h:MomsAt lo w v n f):MomsAt lo w' v n f:=by
 obtain ⟨a,cap,hv,hn,h⟩:=h
 refine ⟨a,cap,hv,hn,fun i hi=>?_⟩
 obtain ⟨b,o,vv,ha,h0,h1,h2,h3,h4,h5,h6,h7,h8⟩:=h i hi
 exact ⟨b,o,vv,ha,cell_below hb h0,cell_below hb h1,cell_below hb h2,cell_below hb h3,cell_below hb h4,cell_below hb h5,h6,h7.below hb,fun j hj=>(h8 j hj).below hb (cell_lt (p:=⟨b,o + i * 6,none⟩) h0)⟩
theorem StrsAt.low {lo lo':Nat} {w:World} {v:Value} {n:Nat} {f:Nat→ByteArray} (hl:lo'≤lo) (h:StrsAt lo w v n f):StrsAt lo' w v n f:=by
 obtain ⟨a,cap,hv,hn,h⟩:=h
 refine ⟨a,cap,hv,hn,fun i hi=>?_⟩
 obtain ⟨b,o,ha,h1,h2,h3⟩:=h i hi
 exact ⟨b,o,ha,h1,h2,h3.low hl⟩
theorem VarsAt.low {lo lo':Nat} {w:World} {v:Value} {n:Nat} {f:Nat→V} (hl:lo'≤lo) (h:VarsAt lo w v n f):VarsAt lo' w v n f:=by
 obtain ⟨a,cap,hv,hn,h⟩:=h
 refine ⟨a,cap,hv,hn,fun i hi=>?_⟩
 obtain ⟨b,o,ha,h1,h2,h3,h4,h5,h6⟩:=h i hi
 exact ⟨b,o,ha,h1,h2,h3,h4,h5.low hl,h6.low hl⟩
theorem MomsAt.low {lo lo':Nat} {w:World} {v:Value} {n:Nat} {f:Nat→M} (hl:lo'≤lo) (h:MomsAt lo w v n f):MomsAt lo' w v n f:=by
 obtain ⟨a,cap,hv,hn,h⟩:=h
 refine ⟨a,cap,hv,hn,fun i hi=>?_⟩
 obtain ⟨b,o,vv,ha,h0,h1,h2,h3,h4,h5,h6,h7,h8⟩:=h i hi
 exact ⟨b,o,vv,ha,h0,h1,h2,h3,h4,h5,h6,h7.low hl,fun j hj=>(h8 j hj).low hl⟩
def MomsSep (lo:Nat) (w:World) (v:Value) (n:Nat) (f:Nat→M):Prop :=
 ∃ N cap,v=.slice (some ⟨N,0,none⟩) n cap∧lo≤N∧∀ i,i < n→∃ vv,w.cell? ⟨N,i * 6 + 5,none⟩=some vv∧VarsAt (N + 1) w vv (f i).nv (f i).vars
theorem MomsSep.low {lo lo':Nat} {w:World} {v:Value} {n:Nat} {f:Nat→M} (hl:lo'≤lo) (h:MomsSep lo w v n f):MomsSep lo' w v n f:=by
 obtain ⟨N,cap,hv,hl',h⟩:=h
 exact ⟨N,cap,hv,Nat.le_trans hl hl',h⟩
theorem cell_set_ne {w:World} {p q:Addr} {v u:Value} (hne:q.block ≠ p.block) (h:w.cell? p=some v):(w.setCell q u).cell? p=some v:=by
 rw [World.cell?_setCell_other _ _ _ _ (fun e=>hne (by rw [e]))];exact h
theorem VarsAt.set {lo:Nat} {w:World} {v:Value} {n:Nat} {f:Nat→V} {q:Addr} {u:Value} (hq:q.block < lo) (h:VarsAt lo w v n f):VarsAt lo (w.setCell q u) v n f:=by
 obtain ⟨a,cap,hv,hn,h⟩:=h
 refine ⟨a,cap,hv,hn,fun i hi=>?_⟩
 obtain ⟨b,o,ha,h1,h2,h3,h4,h5,h6⟩:=h i hi
 have hl:lo≤b:=h5.1
 exact ⟨b,o,ha,cell_set_ne (by show q.block ≠ b;omega) h1,cell_set_ne (by show q.block ≠ b;omega) h2,h3,h4,h5.set,h6.set⟩
theorem MomsSep.set {lo:Nat} {w:World} {v:Value} {n:Nat} {f:Nat→M} {q:Addr} {u:Value} (hq:q.block < lo) (h:MomsSep lo w v n f):MomsSep lo (w.setCell q u) v n f:=by
 obtain ⟨N,cap,hv,hl,h⟩:=h
 refine ⟨N,cap,hv,hl,fun i hi=>?_⟩
 obtain ⟨vv,h1,h2⟩:=h i hi
 exact ⟨vv,cell_set_ne (by show q.block ≠ N;omega) h1,h2.set (by omega)⟩
theorem StrsAt.set {lo:Nat} {w:World} {v:Value} {n:Nat} {f:Nat→ByteArray} {q:Addr} {u:Value} (hq:q.block < lo) (h:StrsAt lo w v n f):StrsAt lo (w.setCell q u) v n f:=by
 obtain ⟨a,cap,hv,hn,h⟩:=h
 refine ⟨a,cap,hv,hn,fun i hi=>?_⟩
 obtain ⟨b,o,ha,h1,h2,h3⟩:=h i hi
 have hl:lo≤b:=h3.1
 exact ⟨b,o,ha,cell_set_ne (by show q.block ≠ b;omega) h1,h2,h3.set⟩
theorem MomsAt.set {lo:Nat} {w:World} {v:Value} {n:Nat} {f:Nat→M} {q:Addr} {u:Value} (hq:q.block < lo) (h:MomsAt lo w v n f):MomsAt lo (w.setCell q u) v n f:=by
 obtain ⟨a,cap,hv,hn,h⟩:=h
 refine ⟨a,cap,hv,hn,fun i hi=>?_⟩
 obtain ⟨b,o,vv,ha,h0,h1,h2,h3,h4,h5,h6,h7,h8⟩:=h i hi
 have hl:lo≤b:=(h8 0 (by omega)).1
 have hne:q.block ≠ b:=by omega
 exact ⟨b,o,vv,ha,cell_set_ne hne h0,cell_set_ne hne h1,cell_set_ne hne h2,cell_set_ne hne h3,cell_set_ne hne h4,cell_set_ne hne h5,h6,h7.set hq,fun j hj=>(h8 j hj).set⟩
theorem old_cells {a z:World} (h:Below a.heap.size a z) (k o:Nat) (hk:k < a.heap.size):z.cell? ⟨k,o,none⟩=a.cell? ⟨k,o,none⟩:=h.cell hk
theorem old_marks {a z:World} (h:Below a.heap.size a z) (k o:Nat) (hk:k < a.heap.size):z.frozen? ⟨k,o,none⟩=a.frozen? ⟨k,o,none⟩:=h.frozen hk
theorem run_make_many {P:Program} (t e:TypeId) (z:Value) (size bytes:Nat) (ht:P.underlying t=some (.slice e)) (hinfo:(P.info? e).map (fun i=>(i.zero,i.size,i.bytes))=some (some z,size,bytes))
  (n:Nat) (hbytes:bytes * n≤281474976710656) (h63:n≤9223372036854775807) (w:World) :
  (Instr.makeSlice t (.int .i64 (n:Int)) (.int .i64 (n:Int))).run P w=.ok (.slice (some ⟨w.heap.size,0,none⟩) n n) (w.alloc (.cells (madeCells z.cells (n * size)) e)):=by
 obtain ⟨i,hi,hzz⟩:=Option.map_eq_some_iff.1 hinfo
 simp only [Prod.mk.injEq] at hzz
 obtain ⟨hz,hs,hb⟩:=hzz
 have hb':(i.bytes:Int) * (n:Int)≤281474976710656:=by
  have h:((i.bytes * n:Nat):Int)≤281474976710656:=by rw [hb];omega
  rwa [Int.natCast_mul] at h
 have hr:=run_make (P:=P) w t e i z ht hi hz .i64 .i64 n n (by omega) (Int.le_refl _) hb' (by omega)
 rw [hr,hs]
 simp
theorem row_made (w:World) (z:Array Value) (n:Nat) (t:TypeId):∃ F,(w.alloc (.cells (madeCells z n) t)).rowIs w.heap.size t n F:=by
 have h:=World.rowIs_alloc w (madeCells z n) t (fun i=>((madeCells z n)[i]?).getD (.bool false)) (fun i hi=>by rw [Array.getElem?_eq_getElem hi];rfl)
 rw [size_madeCells] at h
 exact ⟨_,h⟩
end Go.Proofs.YtmnmeaeicjhkhaaGreatDoor
namespace Go.Proofs.YtmnmeaeicjhkhaaGreatDoor
def SizesOk (nf:Nat) (fns:Nat→ByteArray) (nm:Nat):Prop:=nf ≠ 0∧nf≤300∧nm≤3000∧∀ i,i < nf→(fns i).size≤40
def VarsOk (n:Nat) (vs:Nat→V):Prop:=n≤200∧∀ i,i < n→(vs i).name.size ≠ 0∧(vs i).name.size≤40∧(vs i).text.size≤4000
def HeadOk (nf:Nat) (k t fn l:Int) (ts:Nat):Prop :=
 1≤k∧k≤7∧0≤t∧t≤100∧0≤fn∧fn < nf∧0≤l∧l≤100000∧¬ (k=1∧l=0)∧ts≤4000
def MomentOk (nf:Nat) (m:M):Prop:=HeadOk nf m.kind m.task m.fn m.line m.text.size∧VarsOk m.nv m.vars
structure Fr where
 fn:Int
 line:Int
 frm:Int
structure St where
 cur:Nat
 tasks:Nat→List Fr
def St.init:St:=⟨0,fun t=>if t=0 then [⟨0,0,-1⟩] else []⟩
def topFn:List Fr→Int
 | []=>0
 | f :: _=>f.fn
def topFrom:List Fr→Int
 | []=>-1
 | f :: _=>f.frm
def setLine (l:Int):List Fr→List Fr
 | []=>[]
 | f :: r=>⟨f.fn,l,f.frm⟩ :: r
def code (s:St) (kind task fn:Int):Int :=
 if kind=7 then 0
 else if task ≠ s.cur then 3
 else if kind=2 then (if (s.tasks s.cur).length=200 then 5 else 0)
 else if fn ≠ topFn (s.tasks s.cur) then 4
 else if kind=1 then (if (s.tasks s.cur).length=0 then 4 else 0)
 else if kind=3 then (if topFrom (s.tasks s.cur) < 0 then 4 else 0)
 else 0
def St.put (s:St) (l:List Fr):St:=⟨s.cur,fun t=>if t=s.cur then l else s.tasks t⟩
def St.step (s:St) (kind task fn line:Int) (k:Int):St :=
 if kind=7 then ⟨task.toNat,s.tasks⟩
 else if kind=2 then s.put (⟨fn,0,k⟩ :: s.tasks s.cur)
 else if kind=1 then s.put (setLine line (s.tasks s.cur))
 else if kind=3 then s.put (s.tasks s.cur).tail
 else s
def St.after (moms:Nat→M):Nat→St
 | 0=>St.init
 | k + 1=>(St.after moms k).step (moms k).kind (moms k).task (moms k).fn (moms k).line k
def codeAt (moms:Nat→M) (k:Nat):Int:=code (St.after moms k) (moms k).kind (moms k).task (moms k).fn
def Ans (nf:Nat) (fns:Nat→ByteArray) (nm:Nat) (moms:Nat→M) (c m:Int):Prop :=
 (¬ SizesOk nf fns nm∧c=1∧m=0) ∨
 (SizesOk nf fns nm∧∃ i:Nat,i < nm∧¬ MomentOk nf (moms i)∧(∀ j,j < i→MomentOk nf (moms j))∧c=2∧m=i) ∨
 (SizesOk nf fns nm∧(∀ j,j < nm→MomentOk nf (moms j))∧∃ i:Nat,i < nm∧codeAt moms i ≠ 0∧(∀ j,j < i→codeAt moms j=0)∧c=codeAt moms i∧m=i) ∨
 (SizesOk nf fns nm∧(∀ j,j < nm→MomentOk nf (moms j))∧(∀ j,j < nm→codeAt moms j=0)∧c=0∧m=0)
end Go.Proofs.YtmnmeaeicjhkhaaGreatDoor
