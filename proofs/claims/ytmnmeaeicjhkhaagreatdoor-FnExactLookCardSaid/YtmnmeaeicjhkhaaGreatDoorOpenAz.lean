import Derived.Test.YtmnmeaeicjhkhaaGreatDoorOpenTz
import Derived.Test.YtmnmeaeicjhkhaaGreatDoorGXcz
set_option maxRecDepth 100000
namespace Go.Proofs.YtmnmeaeicjhkhaaGreatDoor
open Go.RowKit Go.ChangeShapes Go.WideShapes Go.Deep Go.Joins
variable {H:Type} {enc:TypeId × Value→H} {W:World} {base b0:Nat} {held:Bool} {r:Reach} {fuel:Nat} {cs:List Value} {x:DataW H × List MemPlace}
theorem cellsLawAsk:Tryz.prog.cellsOf 138=7:=by kernel_rfl
theorem ask_cells {cs':List Value} (h:DataW.trod enc Tryz.prog W base (fun _=>true) held fuel 138 cs'=some x):∃ a:Ak,cs'=[.int .i64 a.op,.int .i64 a.n,.string a.name,.int .i64 a.stop.kind,.int .i64 a.stop.fn,.int .i64 a.stop.line,.string a.stop.name]∧a.name.size≤maxLen∧a.stop.name.size≤maxLen:=by
 obtain ⟨y0,y1,y2,y3,n,hl,g0,g1,g2,g3⟩:=trod_struct4 Tryz.underlying138 h
 rw [cellsLawAsk] at hl
 match cs',hl with
 | [c0,c1,c2,c3,c4,c5,c6],_ =>
  obtain ⟨k,e0,_⟩:=DataW.trod_int Tryz.underlying3 g0
  obtain ⟨t,e1,_⟩:=DataW.trod_int Tryz.underlying3 g1
  obtain ⟨s,e2,_,b2⟩:=DataW.trod_string Tryz.underlying9 g2
  rw [cellsLawStop] at g3
  obtain ⟨sp,e3,b3⟩:=stop_cells g3
  rw [cellsInt'] at e0 e1
  rw [cellsString'] at e2
  simp at e0 e1 e2 e3
  obtain ⟨e3,e4,e5,e6⟩:=e3
  exact ⟨⟨k,t,s,sp⟩,by rw [e0,e1,e2,e3,e4,e5,e6],b2,b3⟩
theorem asks_open' (h:DataW.trod enc Tryz.prog W base (fun _=>true) held fuel 60 cs=some x):∃ v n A,cs=[v]∧AksAt 0 W v n A:=by
 rcases open_slice Tryz.underlying60 h with ⟨rfl,_⟩ | ⟨a,len,cap,m,n,D,Pl,rfl,_,hl,hm,hmm,_,hx⟩
 ·exact ⟨_,0,fun _=>⟨0,0,ByteArray.empty,0,0,0,ByteArray.empty⟩,rfl,none,0,rfl,Nat.zero_le _,fun i hi=>absurd hi (Nat.not_lt_zero _)⟩
 ·rw [cellsLawAsk] at hx
  have hm':m=cap:=by simpa using hmm
  obtain ⟨A,hf⟩:=@choose_lt Ak ⟨⟨0,0,ByteArray.empty,0,0,0,ByteArray.empty⟩⟩ m (fun i s=>W.cell? (a.add (i * 7))=some (.int .i64 s.op)∧W.cell? ((a.add (i * 7)).add 1)=some (.int .i64 s.n)∧W.cell? ((a.add (i * 7)).add 2)=some (.string s.name)∧W.cell? ((a.add (i * 7)).add 3)=some (.int .i64 s.stop.kind)∧W.cell? ((a.add (i * 7)).add 4)=some (.int .i64 s.stop.fn)∧W.cell? ((a.add (i * 7)).add 5)=some (.int .i64 s.stop.line)∧W.cell? ((a.add (i * 7)).add 6)=some (.string s.stop.name)∧s.name.size≤maxLen∧s.stop.name.size≤maxLen) (fun i hi=>by
   obtain ⟨cs',h1,h2⟩:=hx i hi
   obtain ⟨_,h3⟩:=two_cells h1
   obtain ⟨s,rfl,b0,b1⟩:=ask_cells h2
   exact ⟨s,h3 0 (by omega),h3 1 (by omega),h3 2 (by omega),h3 3 (by omega),h3 4 (by omega),h3 5 (by omega),h3 6 (by omega),b0,b1⟩)
  refine ⟨_,len,A,rfl,some a,cap,rfl,Nat.le_trans hl hm,fun i hi=>?_⟩
  have h0:=hf 0 (by omega)
  have e:=addr_form h0.1
  obtain ⟨k0,k1,k2,k3,k4,k5,k6,b0,b1⟩:=hf i (by omega)
  rw [e,add_form _ rfl] at k0
  rw [add_add,e,add_form _ rfl,← Nat.add_assoc] at k1 k2 k3 k4 k5 k6
  exact ⟨a.block,a.off,by rw [← e],k0,k1,k2,k3,k4,k5,k6,b0,b1,fun j _=>⟨Nat.zero_le _,fun h=>absurd rfl h⟩⟩
theorem asks_open {v:Value} {d:DataW H} {p:List MemPlace} (hv:Value.okWide Tryz.prog W r b0 60 v) (h:DataW.Trod enc Tryz.prog W base (fun _=>true) held 60 v d p):∃ n A,AksAt 0 W v n A:=by
 obtain ⟨a,len,cap,rfl⟩:=okWide_slice Tryz.underlying60 hv
 obtain ⟨fuel,hf⟩:=h
 obtain ⟨v',n,A,e,hs⟩:=asks_open' hf
 simp [Value.cells] at e
 subst e
 exact ⟨n,A,hs⟩
end Go.Proofs.YtmnmeaeicjhkhaaGreatDoor
