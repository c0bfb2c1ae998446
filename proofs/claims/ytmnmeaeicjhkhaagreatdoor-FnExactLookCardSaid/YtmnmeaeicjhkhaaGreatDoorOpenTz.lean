import Derived.Test.YtmnmeaeicjhkhaaGreatDoorGOz
import Derived.Test.YtmnmeaeicjhkhaaGreatDoorGEdz
set_option maxRecDepth 100000
namespace Go.Proofs.YtmnmeaeicjhkhaaGreatDoor
open Go.RowKit Go.ChangeShapes Go.WideShapes Go.Deep Go.Joins
variable {H:Type} {enc:TypeId × Value→H} {W:World} {base b0:Nat} {held:Bool} {r:Reach} {fuel:Nat} {cs:List Value} {x:DataW H × List MemPlace}
theorem trod_struct4 {P:Program} {t:TypeId} {f0 f1 f2 f3:Field} {cs':List Value} {spare:Nat→Bool} (ht:P.underlying t=some (.struct #[f0,f1,f2,f3])) (h:DataW.trod enc P W base spare held fuel t cs'=some x) :
  ∃ y0 y1 y2 y3 n,cs'.length=P.cellsOf t∧DataW.trod enc P W base spare held n f0.type ((cs'.drop f0.offset).take (P.cellsOf f0.type))=some y0 ∧
   DataW.trod enc P W base spare held n f1.type ((cs'.drop f1.offset).take (P.cellsOf f1.type))=some y1∧DataW.trod enc P W base spare held n f2.type ((cs'.drop f2.offset).take (P.cellsOf f2.type))=some y2 ∧
   DataW.trod enc P W base spare held n f3.type ((cs'.drop f3.offset).take (P.cellsOf f3.type))=some y3:=by
 obtain ⟨xs,n,_,_,hl,hlen,hf⟩:=DataW.trod_struct ht h
 match xs,hlen with
 | [y0,y1,y2,y3],_=>exact ⟨y0,y1,y2,y3,n,hl,by simpa using hf 0 f0 rfl,by simpa using hf 1 f1 rfl,by simpa using hf 2 f2 rfl,by simpa using hf 3 f3 rfl⟩
theorem stop_cells {cs':List Value} (h:DataW.trod enc Tryz.prog W base (fun _=>true) held fuel 136 cs'=some x):∃ s:Sp,cs'=[.int .i64 s.kind,.int .i64 s.fn,.int .i64 s.line,.string s.name]∧s.name.size≤maxLen:=by
 obtain ⟨y0,y1,y2,y3,n,hl,g0,g1,g2,g3⟩:=trod_struct4 Tryz.underlying136 h
 rw [cellsLawStop] at hl
 match cs',hl with
 | [c0,c1,c2,c3],_ =>
  obtain ⟨k,e0,_⟩:=DataW.trod_int Tryz.underlying3 g0
  obtain ⟨t,e1,_⟩:=DataW.trod_int Tryz.underlying3 g1
  obtain ⟨l,e2,_⟩:=DataW.trod_int Tryz.underlying3 g2
  obtain ⟨s,e3,_,b3⟩:=DataW.trod_string Tryz.underlying9 g3
  rw [cellsInt'] at e0 e1 e2
  rw [cellsString'] at e3
  simp at e0 e1 e2 e3
  exact ⟨⟨k,t,l,s⟩,by rw [e0,e1,e2,e3],b3⟩
end Go.Proofs.YtmnmeaeicjhkhaaGreatDoor
