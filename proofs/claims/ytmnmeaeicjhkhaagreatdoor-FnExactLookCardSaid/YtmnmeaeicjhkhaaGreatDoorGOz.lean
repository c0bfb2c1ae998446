import Derived.Test.YtmnmeaeicjhkhaaGreatDoorProg
import Derived.Test.YtmnmeaeicjhkhaaGreatDoorGBz
import Derived.ProofKit
import Derived.Deep.Slices
import Derived.SliceStrings
import Derived.Lib.SmallJoins
set_option maxRecDepth 100000
namespace Go.Proofs.YtmnmeaeicjhkhaaGreatDoor
open Go.RowKit Go.ChangeShapes Go.WideShapes Go.Deep
theorem cellsString:Tryz.prog.cellsOf 9=1:=by kernel_rfl
theorem cellsInt:Tryz.prog.cellsOf 3=1:=by kernel_rfl
theorem cellsVars:Tryz.prog.cellsOf 206=1:=by kernel_rfl
theorem cellsLawVar:Tryz.prog.cellsOf 330=2:=by kernel_rfl
theorem cellsLawMoment:Tryz.prog.cellsOf 208=6:=by kernel_rfl
theorem cellsLawTrace:Tryz.prog.cellsOf 59=2:=by kernel_rfl
theorem add_form (a:Addr) (h:a.spot=none) (i:Nat):a.add i=⟨a.block,a.off + i,none⟩:=by
 unfold Addr.add
 split
 ·rename_i e;subst e;cases a;simp_all
 ·rfl
theorem addr_form {w:World} {a:Addr} {v:Value} (h:w.cell? (a.add 0)=some v):a=⟨a.block,a.off,none⟩:=by
 have:=World.cell?_spot h
 have e:a.add 0=a:=rfl
 rw [e] at this
 cases a
 simp_all
variable {H:Type} {enc:TypeId × Value→H} {W:World} {base:Nat} {held:Bool} {fuel:Nat} {cs:List Value} {x:DataW H × List MemPlace}
theorem strs_open (h:DataW.trod enc Tryz.prog W base (fun _=>true) held fuel 23 cs=some x):∃ v n f,cs=[v]∧StrsAt 0 W v n f:=by
 rcases open_strings Tryz.underlying23 Tryz.underlying9 cellsString h with ⟨rfl,_⟩ | ⟨a,len,cap,ss,rfl,_,hl,hm,hs,_,hc,hz⟩
 ·exact ⟨_,0,fun _=>ByteArray.empty,rfl,none,0,rfl,Nat.zero_le _,fun i hi=>absurd hi (Nat.not_lt_zero _)⟩
 ·have hs':ss.length=cap:=by simpa using hs
  refine ⟨_,len,fun i=>ss.getD i ByteArray.empty,rfl,some a,cap,rfl,Nat.le_trans hl hm,fun i hi=>?_⟩
  have e:=addr_form (hc 0 (by omega))
  refine ⟨a.block,a.off,by rw [← e],?_,?_,Mine.zero _ _⟩
  ·have:=hc i (by omega)
   rwa [e,add_form _ rfl] at this
  ·have hi':i < ss.length:=by omega
   have:ss.getD i ByteArray.empty ∈ ss:=by
    rw [List.getD,List.getElem?_eq_getElem hi']
    exact List.getElem_mem hi'
   exact hz _ this
theorem two_cells {w:World} {a:Addr} {cs':List Value} {n:Nat} (h:w.cells? base a n=some cs'):cs'.length=n∧∀ i,i < n→w.cell? (a.add i)=cs'[i]?:=by
 obtain ⟨_,h1,h2⟩:=World.cells?_some h
 exact ⟨h1,h2⟩
theorem var_open {cs':List Value} (h:DataW.trod enc Tryz.prog W base (fun _=>true) held fuel 330 cs'=some x):∃ s:V,cs'=[.string s.name,.string s.text]∧s.name.size≤maxLen∧s.text.size≤maxLen:=by
 obtain ⟨y0,y1,n,_,hl,h0,h1⟩:=trod_struct2 Tryz.underlying330 h
 rw [cellsLawVar] at hl
 match cs',hl with
 | [c0,c1],_ =>
  obtain ⟨s0,e0,_,b0⟩:=DataW.trod_string Tryz.underlying9 h0
  obtain ⟨s1,e1,_,b1⟩:=DataW.trod_string Tryz.underlying9 h1
  rw [cellsString] at e0 e1
  simp at e0 e1
  exact ⟨⟨s0,s1⟩,by rw [e0,e1],b0,b1⟩
theorem vars_open (h:DataW.trod enc Tryz.prog W base (fun _=>true) held fuel 206 cs=some x):∃ v n f,cs=[v]∧VarsAt 0 W v n f:=by
 rcases open_slice Tryz.underlying206 h with ⟨rfl,_⟩ | ⟨a,len,cap,m,n,D,Pl,rfl,_,hl,hm,hmm,_,hx⟩
 ·exact ⟨_,0,fun _=>⟨ByteArray.empty,ByteArray.empty⟩,rfl,none,0,rfl,Nat.zero_le _,fun i hi=>absurd hi (Nat.not_lt_zero _)⟩
 ·rw [cellsLawVar] at hx
  have hm':m=cap:=by simpa using hmm
  obtain ⟨f,hf⟩:=@choose_lt V ⟨⟨ByteArray.empty,ByteArray.empty⟩⟩ m (fun i s=>W.cell? (a.add (i * 2))=some (.string s.name)∧W.cell? ((a.add (i * 2)).add 1)=some (.string s.text)∧s.name.size≤maxLen∧s.text.size≤maxLen) (fun i hi=>by
   obtain ⟨cs',h1,h2⟩:=hx i hi
   obtain ⟨_,h3⟩:=two_cells h1
   obtain ⟨s,rfl,b0,b1⟩:=var_open h2
   exact ⟨s,h3 0 (by omega),h3 1 (by omega),b0,b1⟩)
  refine ⟨_,len,f,rfl,some a,cap,rfl,Nat.le_trans hl hm,fun i hi=>?_⟩
  have h0:=hf 0 (by omega)
  have e:=addr_form h0.1
  obtain ⟨k0,k1,b0,b1⟩:=hf i (by omega)
  rw [e,add_form _ rfl] at k0
  rw [add_add,e,add_form _ rfl,← Nat.add_assoc] at k1
  exact ⟨a.block,a.off,by rw [← e],k0,k1,b0,b1,Mine.zero _ _,Mine.zero _ _⟩
theorem trod_struct6 {P:Program} {t:TypeId} {f0 f1 f2 f3 f4 f5:Field} {cs':List Value} {spare:Nat→Bool} (ht:P.underlying t=some (.struct #[f0,f1,f2,f3,f4,f5])) (h:DataW.trod enc P W base spare held fuel t cs'=some x) :
  ∃ y0 y1 y2 y3 y4 y5 n,cs'.length=P.cellsOf t∧DataW.trod enc P W base spare held n f0.type ((cs'.drop f0.offset).take (P.cellsOf f0.type))=some y0 ∧
   DataW.trod enc P W base spare held n f1.type ((cs'.drop f1.offset).take (P.cellsOf f1.type))=some y1∧DataW.trod enc P W base spare held n f2.type ((cs'.drop f2.offset).take (P.cellsOf f2.type))=some y2 ∧
   DataW.trod enc P W base spare held n f3.type ((cs'.drop f3.offset).take (P.cellsOf f3.type))=some y3∧DataW.trod enc P W base spare held n f4.type ((cs'.drop f4.offset).take (P.cellsOf f4.type))=some y4 ∧
   DataW.trod enc P W base spare held n f5.type ((cs'.drop f5.offset).take (P.cellsOf f5.type))=some y5:=by
 obtain ⟨xs,n,_,_,hl,hlen,hf⟩:=DataW.trod_struct ht h
 match xs,hlen with
 | [y0,y1,y2,y3,y4,y5],_=>exact ⟨y0,y1,y2,y3,y4,y5,n,hl,by simpa using hf 0 f0 rfl,by simpa using hf 1 f1 rfl,by simpa using hf 2 f2 rfl,by simpa using hf 3 f3 rfl,by simpa using hf 4 f4 rfl,by simpa using hf 5 f5 rfl⟩
theorem mom_open {cs':List Value} (h:DataW.trod enc Tryz.prog W base (fun _=>true) held fuel 208 cs'=some x):∃ (m:M) (vv:Value),cs'=[.int .i64 m.kind,.int .i64 m.task,.int .i64 m.fn,.int .i64 m.line,.string m.text,vv]∧m.text.size≤maxLen∧VarsAt 0 W vv m.nv m.vars:=by
 obtain ⟨y0,y1,y2,y3,y4,y5,n,hl,g0,g1,g2,g3,g4,g5⟩:=trod_struct6 Tryz.underlying208 h
 rw [cellsLawMoment] at hl
 match cs',hl with
 | [c0,c1,c2,c3,c4,c5],_ =>
  obtain ⟨k,e0,_⟩:=DataW.trod_int Tryz.underlying3 g0
  obtain ⟨t,e1,_⟩:=DataW.trod_int Tryz.underlying3 g1
  obtain ⟨fn,e2,_⟩:=DataW.trod_int Tryz.underlying3 g2
  obtain ⟨l,e3,_⟩:=DataW.trod_int Tryz.underlying3 g3
  obtain ⟨s,e4,_,b4⟩:=DataW.trod_string Tryz.underlying9 g4
  obtain ⟨v,nv,vs,e5,hv⟩:=vars_open g5
  rw [cellsInt] at e0 e1 e2 e3
  rw [cellsString] at e4
  rw [cellsVars] at e5
  simp at e0 e1 e2 e3 e4 e5
  exact ⟨⟨k,t,fn,l,s,nv,vs⟩,v,by rw [e0,e1,e2,e3,e4,e5],b4,hv⟩
theorem moms_open (h:DataW.trod enc Tryz.prog W base (fun _=>true) held fuel 57 cs=some x):∃ v n f,cs=[v]∧MomsAt 0 W v n f:=by
 rcases open_slice Tryz.underlying57 h with ⟨rfl,_⟩ | ⟨a,len,cap,m,n,D,Pl,rfl,_,hl,hm,hmm,_,hx⟩
 ·exact ⟨_,0,fun _=>⟨0,0,0,0,ByteArray.empty,0,fun _=>⟨ByteArray.empty,ByteArray.empty⟩⟩,rfl,none,0,rfl,Nat.zero_le _,fun i hi=>absurd hi (Nat.not_lt_zero _)⟩
 ·rw [cellsLawMoment] at hx
  have hm':m=cap:=by simpa using hmm
  obtain ⟨f,hf⟩:=@choose_lt M ⟨⟨0,0,0,0,ByteArray.empty,0,fun _=>⟨ByteArray.empty,ByteArray.empty⟩⟩⟩ m (fun i s=>∃ vv,W.cell? (a.add (i * 6))=some (.int .i64 s.kind)∧W.cell? ((a.add (i * 6)).add 1)=some (.int .i64 s.task)∧W.cell? ((a.add (i * 6)).add 2)=some (.int .i64 s.fn) ∧
    W.cell? ((a.add (i * 6)).add 3)=some (.int .i64 s.line)∧W.cell? ((a.add (i * 6)).add 4)=some (.string s.text)∧W.cell? ((a.add (i * 6)).add 5)=some vv∧s.text.size≤maxLen∧VarsAt 0 W vv s.nv s.vars) (fun i hi=>by
   obtain ⟨cs',h1,h2⟩:=hx i hi
   obtain ⟨_,h3⟩:=two_cells h1
   obtain ⟨s,vv,rfl,b0,b1⟩:=mom_open h2
   exact ⟨s,vv,h3 0 (by omega),h3 1 (by omega),h3 2 (by omega),h3 3 (by omega),h3 4 (by omega),h3 5 (by omega),b0,b1⟩)
  refine ⟨_,len,f,rfl,some a,cap,rfl,Nat.le_trans hl hm,fun i hi=>?_⟩
  obtain ⟨_,h0,_⟩:=hf 0 (by omega)
  have e:=addr_form h0
  obtain ⟨vv,k0,k1,k2,k3,k4,k5,b0,b1⟩:=hf i (by omega)
  rw [e,add_form _ rfl] at k0
  rw [add_add,e,add_form _ rfl,← Nat.add_assoc] at k1 k2 k3 k4 k5
  exact ⟨a.block,a.off,vv,by rw [← e],k0,k1,k2,k3,k4,k5,b0,b1,fun j _=>Mine.zero _ _⟩
theorem trace_open {r:Reach} {b0:Nat} {v:Value} {d:DataW H} {p:List MemPlace} (hv:Value.okWide Tryz.prog W r b0 59 v) (h:DataW.Trod enc Tryz.prog W base (fun _=>true) held 59 v d p) :
  ∃ v1 v2 nf fns n f,v=.agg #[v1,v2]∧StrsAt 0 W v1 nf fns∧MomsAt 0 W v2 n f:=by
 obtain ⟨c0,c1,y0,y1,m,rfl,_,_,h0,h1⟩:=Joins.open_agg2 Tryz.underlying59 (by kernel_rfl) cellsLawTrace hv h
 obtain ⟨v1,nf,fns,e1,hs⟩:=strs_open h0
 obtain ⟨v2,n,f,e2,hm⟩:=moms_open h1
 cases e1
 cases e2
 exact ⟨_,_,nf,fns,n,f,rfl,hs,hm⟩
end Go.Proofs.YtmnmeaeicjhkhaaGreatDoor
namespace Go.Proofs.YtmnmeaeicjhkhaaGreatDoor
open Go.RowKit Go.ChangeShapes Go.WideShapes Go.Deep Go.Joins
theorem cellsString':Tryz.prog.cellsOf 9=1:=by kernel_rfl
theorem cellsInt':Tryz.prog.cellsOf 3=1:=by kernel_rfl
theorem cellsLawStop:Tryz.prog.cellsOf 136=4:=by kernel_rfl
variable {H:Type} {enc:TypeId × Value→H} {W:World} {base b0:Nat} {held:Bool} {r:Reach}
end Go.Proofs.YtmnmeaeicjhkhaaGreatDoor
