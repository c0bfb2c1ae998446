import Derived.Stop.Asserts
import Derived.RowKitTokens
import Derived.Test.YtmnmeaeicjhkhaaGreatDoorGXcx
import Derived.Test.YtmnmeaeicjhkhaaGreatDoorGEex
set_option maxRecDepth 100000
set_option maxHeartbeats 16000000
namespace Go.Proofs.YtmnmeaeicjhkhaaGreatDoor
section
open Go.RowKit Go.Extern.Stop Go.Stop Go.Extern
theorem as_nil (t:Value) (w:World):Calls Tryz.prog 116 #[.nilIface,t] w fun e w'=>e=.returned (.bool false)/\w'=w:=by
 go_enter Tryz.func116,Tryz.ntmps116
 go_wp2
 go_ret
 exact ⟨rfl,rfl⟩
theorem as_valueOfP (t:Addr) (w:World):(ReflectliteValue.unpack (.iface 182 (.pointer (some t)))).run Tryz.prog w
  = .ok (.agg #[.pointer (some ⟨4,182,none⟩),.pointer (some ⟨w.heap.size,0,none⟩),.int .u64 150]) (w.alloc (.cells #[.pointer (some t)] 182)):=by kernel_rfl
theorem as_typeP (a:Addr) (w:World):(ReflectliteValue.methodAny (ReflectliteValue.valueError "reflectlite.Value.Type" 0) (fun t _ _ _=>ReflectliteType.toType t) #[.agg #[.pointer (some ⟨4,182,none⟩),.pointer (some a),.int .u64 150]]).run Tryz.prog w
  = .ok (.iface 298 (.agg #[.pointer (some ⟨4,182,none⟩)])) w:=by kernel_rfl
theorem as_mKind (h:Value) (w:World):(Go.method 486 298 (.agg #[h]) "Kind").run Tryz.prog w=.ok (262,h) w:=by kernel_rfl
theorem as_kindP (w:World):((ReflectliteType.abiMethod fun t=>(fun a:Nat=>Value.int IntKind.u8 (a:Int)) <$> Rtype.kind t) #[.pointer (some ⟨4,182,none⟩)]).run Tryz.prog w=.ok (.int .u8 22) w:=by kernel_rfl
theorem as_kindR (w:World):((ReflectliteType.abiMethod fun t=>(fun a:Nat=>Value.int IntKind.u8 (a:Int)) <$> Rtype.kind t) #[.pointer (some ⟨4,180,none⟩)]).run Tryz.prog w=.ok (.int .u8 25) w:=by kernel_rfl
theorem as_rlm (z:Sem Value) (f:TypeId->Addr->Nat->Nat->Sem Value) (v:Value) :
  ReflectliteValue.method z f #[v]=(do match <- ReflectliteValue.parts v with | none=>z | some (t,a,fl)=>f t a fl (fl % 32)):=rfl
theorem bR6 (a:Addr) (w:World):(ReflectliteValue.parts (.agg #[.pointer (some ⟨4,182,none⟩),.pointer (some a),.int .u64 150])).run Tryz.prog w=.ok (some (182,a,150)) w:=by kernel_rfl
theorem as_isNilP (a p:Addr) (W:World) (ha:W.cell? a=some (.pointer (some p))) :
  (ReflectliteValue.method (ReflectliteValue.valueError "reflectlite.Value.IsNil" 0) ReflectliteValue.isNil #[.agg #[.pointer (some ⟨4,182,none⟩),.pointer (some a),.int .u64 150]]).run Tryz.prog W=.ok (.bool false) W:=by
 rw [as_rlm]
 simp only [Sem.run_bind,bR6,Result.andThen]
 simp [ReflectliteValue.isNil,loadVar,isAgg,underlying,Tryz.underlying182,ha,Result.andThen]
theorem as_mElem (h:Value) (w:World):(Go.method 486 298 (.agg #[h]) "Elem").run Tryz.prog w=.ok (274,.agg #[h]) w:=by kernel_rfl
theorem as_mImpl (h:Value) (w:World):(Go.method 486 298 (.agg #[h]) "Implements").run Tryz.prog w=.ok (275,.agg #[h]) w:=by kernel_rfl
theorem as_mAssign (h:Value) (w:World):(Go.method 486 298 (.agg #[h]) "AssignableTo").run Tryz.prog w=.ok (272,.agg #[h]) w:=by kernel_rfl
theorem as_elemP (w:World):(ReflectliteType.method ReflectliteType.elem #[.agg #[.pointer (some ⟨4,182,none⟩)]]).run Tryz.prog w=.ok (.iface 298 (.agg #[.pointer (some ⟨4,180,none⟩)])) w:=by kernel_rfl
theorem as_implR (w:World):(ReflectliteType.relation "Implements" ReflectliteType.implements_ #[.agg #[.pointer (some ⟨4,180,none⟩)],.iface 298 (.agg #[.pointer (some ⟨4,99,none⟩)])]).run Tryz.prog w=.ok (.bool true) w:=by kernel_rfl
theorem as_typeOfR (v:Value) (w:World):(ReflectliteType.typeOf #[.iface 180 v]).run Tryz.prog w=.ok (.iface 298 (.agg #[.pointer (some ⟨4,180,none⟩)])) w:=by kernel_rfl
theorem as_assignR (w:World):(ReflectliteType.relation "AssignableTo" ReflectliteType.assignableTo #[.agg #[.pointer (some ⟨4,180,none⟩)],.iface 298 (.agg #[.pointer (some ⟨4,180,none⟩)])]).run Tryz.prog w=.ok (.bool true) w:=by kernel_rfl
theorem as_valueOfR (c:Int) (w:World):(ReflectliteValue.unpack (.iface 180 (.agg #[.int .i64 c]))).run Tryz.prog w
  = .ok (.agg #[.pointer (some ⟨4,180,none⟩),.pointer (some ⟨w.heap.size,0,none⟩),.int .u64 153]) (w.alloc (.cells #[.int .i64 c] 180)):=by kernel_rfl
theorem as_elemOfP (w:World):(Rtype.elem? 182).run Tryz.prog w=.ok (some 180) w:=by kernel_rfl
theorem as_mkR (p:Addr) (w:World):(ReflectliteValue.mk 180 p ReflectliteValue.flagAddr).run Tryz.prog w=.ok (.agg #[.pointer (some ⟨4,180,none⟩),.pointer (some p),.int .u64 409]) w:=by kernel_rfl
theorem as_elemV (a p:Addr) (W:World) (ha:W.cell? a=some (.pointer (some p))) :
  (ReflectliteValue.method (ReflectliteValue.valueError "reflectlite.Value.Elem" 0) ReflectliteValue.elem #[.agg #[.pointer (some ⟨4,182,none⟩),.pointer (some a),.int .u64 150]]).run Tryz.prog W
   = .ok (.agg #[.pointer (some ⟨4,180,none⟩),.pointer (some p),.int .u64 409]) W:=by
 rw [as_rlm]
 simp only [Sem.run_bind,bR6,Result.andThen]
 simp [ReflectliteValue.elem,loadVar,isAgg,underlying,Tryz.underlying182,ha,Result.andThen,as_elemOfP,as_mkR]
theorem as_rls (v x:Value):ReflectliteValue.set #[v,x]=(do
  let (some (dst,a,fl),some (src,b,_)):=(<- ReflectliteValue.parts v,<- ReflectliteValue.parts x)
   | unsupported (.noEntry "extern/(internal/reflectlite.Value).Set.zeroValue")
  if fl / ReflectliteValue.flagAddr % 2 == 0 then unsupported (.noEntry "extern/(internal/reflectlite.Value).Set.unaddressable")
  let val <- loadVar src b
  if <- Rtype.directlyAssignable dst src then storeVar dst a val
  else if <- Rtype.implements dst src then
   if (<- Rtype.kind src) == 20 then
    match val with
    | .nilIface=>unsupported (.noEntry "extern/reflectlite: a nil value of one interface type handed on as a value of another")
    | _=>storeVar dst a val
   else storeVar dst a (.iface src val)
  else panicString ("reflectlite.Set: value of type " ++ (<- Rtype.spelt src) ++ " is not assignable to type " ++ (<- Rtype.spelt dst))
  pure (.tuple #[])):=rfl
theorem as_partsRa (a:Addr) (w:World):(ReflectliteValue.parts (.agg #[.pointer (some ⟨4,180,none⟩),.pointer (some a),.int .u64 409])).run Tryz.prog w=.ok (some (180,a,409)) w:=by kernel_rfl
theorem as_partsR (a:Addr) (w:World):(ReflectliteValue.parts (.agg #[.pointer (some ⟨4,180,none⟩),.pointer (some a),.int .u64 153])).run Tryz.prog w=.ok (some (180,a,153)) w:=by kernel_rfl
theorem as_directR (w:World):(Rtype.directlyAssignable 180 180).run Tryz.prog w=.ok true w:=by kernel_rfl
theorem as_set (tb b:Nat) (c:Int) (old:Value) (W:World) (hb:W.cell? ⟨b,0,none⟩=some (.int .i64 c)) (ht:W.cell? ⟨tb,0,none⟩=some old) (hf:W.frozen? ⟨tb,0,none⟩=false) :
  (ReflectliteValue.set #[.agg #[.pointer (some ⟨4,180,none⟩),.pointer (some ⟨tb,0,none⟩),.int .u64 409],.agg #[.pointer (some ⟨4,180,none⟩),.pointer (some ⟨b,0,none⟩),.int .u64 153]]).run Tryz.prog W
   = .ok (.tuple #[]) (W.setCell ⟨tb,0,none⟩ (.int .i64 c)):=by
 rw [as_rls]
 simp only [Sem.run_bind,as_partsRa,as_partsR,Result.andThen]
 simp [ReflectliteValue.flagAddr,loadVar,Result.andThen,as_directR,storeVar,Value.cells,storeCells,Addr.add]
 have hl:(loadCells ⟨b,0,none⟩ 1).run Tryz.prog W=.ok #[.int .i64 c] W:=by
  simp [loadCells,loadCellsFrom,Addr.add,hb]
 rw [hl]
 simp [storeCells,Addr.add]
 rw [run_store Tryz.prog W ⟨tb,0,none⟩ _ _ (by rfl)]
 simp [ht,hf]
theorem as_hit (c:Int) (tb:Nat) (old:Value) (w:World) (hg:w.cell? ⟨0,0,none⟩=some (.iface 298 (.agg #[.pointer (some ⟨4,99,none⟩)]))) (ht0:w.cell? ⟨tb,0,none⟩=some old) (hf0:w.frozen? ⟨tb,0,none⟩=false) :
  Calls Tryz.prog 116 #[.iface 180 (.agg #[.int .i64 c]),.iface 182 (.pointer (some ⟨tb,0,none⟩))] w fun ev w'=>ev=.returned (.bool true)/\w'=((((w.alloc (.cells #[.pointer (some ⟨tb,0,none⟩)] 182)).alloc (.cells #[.pointer (some ⟨4,182,none⟩),.pointer (some ⟨w.heap.size,0,none⟩),.int .u64 150] 244)).alloc (.cells #[.pointer (some ⟨4,182,none⟩),.pointer (some ⟨w.heap.size,0,none⟩),.int .u64 150] 244)).alloc (.cells #[.int .i64 c] 180)).setCell ⟨tb,0,none⟩ (.int .i64 c):=by
 obtain ⟨t,ht⟩:∃ t:Addr,t=⟨tb,0,none⟩:=⟨_,rfl⟩
 rw [<- ht] at ht0 hf0 ⊢
 have h6:=@run_callFunc_extern Tryz.prog 159 _ (fun args=>ReflectliteValue.unpack (args.getD 0 (.tuple #[]))) Tryz.func159 (by kernel_rfl) (by kernel_rfl) (by kernel_rfl) (by kernel_rfl)
 have h7:=@run_callFunc_extern Tryz.prog 160 _ (ReflectliteValue.methodAny (ReflectliteValue.valueError "reflectlite.Value.Type" 0) (fun t _ _ _=>ReflectliteType.toType t)) Tryz.func160 (by kernel_rfl) (by kernel_rfl) (by kernel_rfl) (by kernel_rfl)
 have h8:=@run_callFunc_extern Tryz.prog 161 _ (ReflectliteValue.method (ReflectliteValue.valueError "reflectlite.Value.IsNil" 0) ReflectliteValue.isNil) Tryz.func161 (by kernel_rfl) (by kernel_rfl) (by kernel_rfl) (by kernel_rfl)
 have h27:=@run_callFunc_extern Tryz.prog 262 _ (ReflectliteType.abiMethod fun t=>do pure (.int .u8 (<- Rtype.kind t))) Tryz.func262 (by kernel_rfl) (by kernel_rfl) (by kernel_rfl) (by kernel_rfl)
 have h37:=@run_callFunc_extern Tryz.prog 274 _ (ReflectliteType.method ReflectliteType.elem) Tryz.func274 (by kernel_rfl) (by kernel_rfl) (by kernel_rfl) (by kernel_rfl)
 have h38:=@run_callFunc_extern Tryz.prog 275 _ (ReflectliteType.relation "Implements" ReflectliteType.implements_) Tryz.func275 (by kernel_rfl) (by kernel_rfl) (by kernel_rfl) (by kernel_rfl)
 have h10:=@run_callFunc_extern Tryz.prog 193 _ ReflectliteType.typeOf Tryz.func193 (by kernel_rfl) (by kernel_rfl) (by kernel_rfl) (by kernel_rfl)
 have h35:=@run_callFunc_extern Tryz.prog 272 _ (ReflectliteType.relation "AssignableTo" ReflectliteType.assignableTo) Tryz.func272 (by kernel_rfl) (by kernel_rfl) (by kernel_rfl) (by kernel_rfl)
 have h11:=@run_callFunc_extern Tryz.prog 194 _ (ReflectliteValue.method (ReflectliteValue.valueError "reflectlite.Value.Elem" 0) ReflectliteValue.elem) Tryz.func194 (by kernel_rfl) (by kernel_rfl) (by kernel_rfl) (by kernel_rfl)
 have h12:=@run_callFunc_extern Tryz.prog 195 _ ReflectliteValue.set Tryz.func195 (by kernel_rfl) (by kernel_rfl) (by kernel_rfl) (by kernel_rfl)
 have tO:=as_typeOfR
 have mA:=as_mAssign
 have a25:=as_assignR
 have v25:=as_valueOfR
 have f6:=as_valueOfP
 have f7:=as_typeP
 have mK:=as_mKind
 have mE:=as_mElem
 have mI:=as_mImpl
 have k27:=as_kindP
 have k25:=as_kindR
 have e27:=as_elemP
 have i25:=as_implR
 have n8:=as_isNilP ⟨w.heap.size,0,none⟩ t ((w.alloc (.cells #[.pointer (some t)] 182)).alloc (.cells #[.pointer (some ⟨4,182,none⟩),.pointer (some ⟨w.heap.size,0,none⟩),.int .u64 150] 244)) (by simp)
 have hlt:0<w.heap.size:=by
  rcases Nat.eq_zero_or_pos w.heap.size with h0 | h
  ·simp [World.cell?,h0] at hg
  exact h
 have hg2:((w.alloc (.cells #[.pointer (some t)] 182)).alloc (.cells #[.pointer (some ⟨4,182,none⟩),.pointer (some ⟨w.heap.size,0,none⟩),.int .u64 150] 244)).cell? ⟨0,0,none⟩=some (.iface 298 (.agg #[.pointer (some ⟨4,99,none⟩)])):=by
  rw [World.cell?_alloc_lt _ _ ⟨0,0,none⟩ (by simp),World.cell?_alloc_lt _ _ ⟨0,0,none⟩ hlt];exact hg
 have htl:t.block<w.heap.size:=by
  rcases Nat.lt_or_ge t.block w.heap.size with h | h
  ·exact h
  simp [World.cell?,Array.getElem?_eq_none h] at ht0
 have el:=as_elemV ⟨w.heap.size,0,none⟩ t (((w.alloc (.cells #[.pointer (some t)] 182)).alloc (.cells #[.pointer (some ⟨4,182,none⟩),.pointer (some ⟨w.heap.size,0,none⟩),.int .u64 150] 244)).alloc (.cells #[.pointer (some ⟨4,182,none⟩),.pointer (some ⟨w.heap.size,0,none⟩),.int .u64 150] 244)) (by rw [World.cell?_alloc_lt _ _ ⟨w.heap.size,0,none⟩ (by simp;omega)];simp)
 have st:=as_set tb (w.heap.size+1+1+1) c old ((((w.alloc (.cells #[.pointer (some t)] 182)).alloc (.cells #[.pointer (some ⟨4,182,none⟩),.pointer (some ⟨w.heap.size,0,none⟩),.int .u64 150] 244)).alloc (.cells #[.pointer (some ⟨4,182,none⟩),.pointer (some ⟨w.heap.size,0,none⟩),.int .u64 150] 244)).alloc (.cells #[.int .i64 c] 180))
  (by rw [World.cell?_alloc_at _ _ _ _ (by simp)];rfl)
  (by rw [<- ht,World.cell?_alloc_lt _ _ t (by simp;omega),World.cell?_alloc_lt _ _ t (by simp;omega),World.cell?_alloc_lt _ _ t (by simp;omega),World.cell?_alloc_lt _ _ t htl];exact ht0)
  (by rw [<- ht,World.frozen?_alloc_old _ _ t (by simp;omega),World.frozen?_alloc_old _ _ t (by simp;omega),World.frozen?_alloc_old _ _ t (by simp;omega),World.frozen?_alloc_old _ _ t (Nat.ne_of_lt htl)];exact hf0)
 rw [<- ht] at st
 have HT:=O ht
 clear ht
 go_enter Tryz.func116,Tryz.ntmps116
 go_wp2
 refine wp_loop_rounds 1 ?_
 rw [rounds_succ]
 go_wp2
 go_ret
 exact ⟨rfl,by rw [Z HT]⟩
end
section
open Go.RowKit
def dB (t:TypeId):Prop:=t≠176/\t≠228/\t≠1
theorem dB.no:¬ dB 176:=fun h=>h.1 rfl
theorem jD.same {P:TypeId->Prop} {W W':World} {v mv:Value} {n:Nat} {f:Nat->M} {s:Sp} (h:jD W v mv n f s) (hs:bM P W W') (p1:P 24) (p2:P 45) (p3:P 157) (p4:P 4):jD W' v mv n f s:=by
 rcases h with ⟨e,mb,sb,h1,h2,h4⟩ | ⟨e,mb,sb,h1,h2,h4⟩ | ⟨e,ib,b,h1,h2,h3⟩ | ⟨e,mb,h1,h2⟩
 ·exact .inl ⟨e,mb,sb,h1,hs _ _ _ _ h2 p1,hs _ _ _ _ h4 p2⟩
 ·exact .inr (.inl ⟨e,mb,sb,h1,hs _ _ _ _ h2 p1,hs _ _ _ _ h4 p2⟩)
 ·exact .inr (.inr (.inl ⟨e,ib,b,h1,hs _ _ _ _ h2 p3,h3.same hs p4⟩))
 exact .inr (.inr (.inr ⟨e,mb,h1,hs _ _ _ _ h2 p1⟩))
theorem fU.same {P:TypeId->Prop} {B:Nat} {w w':World} {tv mv:Value} {ns n:Nat} {f:Nat->M} {ss:Nat->Sp} (h:fU B w tv mv ns n f ss) (hs:bM P w w') (p0:P 228) (p1:P 24) (p2:P 45) (p3:P 157) (p4:P 4):fU B w' tv mv ns n f ss:=by
 obtain ⟨vs,r,k⟩:=h
 exact ⟨vs,cK r hs p0,fun i hi=>(k i hi).same hs p1 p2 p3 p4⟩
def bL0 (W:World) (v:Value) (sb:Nat) (x:Int):Prop :=
 ∃ fb qb,v=.func (.func 187) #[] #[.pointer (some ⟨fb,0,none⟩),.pointer (some ⟨qb,0,none⟩)]/\W.heap[fb]?=some (.cells #[.int .i64 x] 3 (0,0))/\W.heap[qb]?=some (.cells #[.pointer (some ⟨sb,0,none⟩)] 87 (0,0))
theorem bL0.same {P:TypeId->Prop} {W W':World} {v:Value} {sb:Nat} {x:Int} (h:bL0 W v sb x) (hs:bM P W W') (p1:P 3) (p2:P 87):bL0 W' v sb x:=by
 obtain ⟨fb,qb,e,h1,h2⟩:=h
 exact ⟨fb,qb,e,hs _ _ _ _ h1 p1,hs _ _ _ _ h2 p2⟩
def rY (B:Nat) (W:World) (uv:Value) (sb:Nat) (p:List Int):Prop :=
 ∃ us:List Value,W.ownsRow B 1 1 uv p.length us/\∀ (i:Nat) (x:Int),p[i]?=some x->∃ v,us[i]?=some v/\bL0 W v sb x
theorem rY.same {P:TypeId->Prop} {B:Nat} {W W':World} {uv:Value} {sb:Nat} {p:List Int} (h:rY B W uv sb p) (hs:bM P W W') (p0:P 1) (p1:P 3) (p2:P 87):rY B W' uv sb p:=by
 obtain ⟨us,r,k⟩:=h
 refine ⟨us,cK r hs p0,fun i x hx=>?_⟩
 obtain ⟨v,e,hu⟩:=k i x hx
 exact ⟨v,e,hu.same hs p1 p2⟩
def jY (W:World) (sb:Nat) (mv pv:Value) (k:Int) (tv uv:Value) (D:Nat->Value):Prop :=
 ∃ cs,W.heap[sb]?=some (.cells cs 176 (0,0))/\cs.size=75/\cs[0]?=some mv/\cs[1]?=some pv/\cs[2]?=some (.int .i64 k)/\cs[3]?=some tv/\cs[4]?=some uv/\∀ j,5<=j->j<75->cs[j]?=some (D j)
structure SS (B:Nat) (W:World) (sb:Nat) (mv pv:Value) (n:Nat) (f:Nat->M) (s:LS) (tv uv:Value) (D:Nat->Value):Prop where
 box:jY W sb mv pv s.at_ tv uv D
 tests:fU B W tv mv s.stops.length n f s.ss
 undos:rY B W uv sb s.past
 sbB:B<=sb
section
variable {B sb n:Nat} {W W':World} {mv pv tv uv:Value} {f:Nat->M} {s:LS} {D:Nat->Value} {k:Int}
theorem jY.block (h:jY W sb mv pv k tv uv D):∃ cs,W.heap[sb]?=some (.cells cs 176 (0,0)):=by obtain ⟨cs,h,-⟩:=h;exact ⟨cs,h⟩
theorem jY.same {P:TypeId->Prop} (h:jY W sb mv pv k tv uv D) (hs:bM P W W') (hp:P 176):jY W' sb mv pv k tv uv D:=by
 obtain ⟨cs,hh,r⟩:=h
 exact ⟨cs,hs _ _ _ _ hh hp,r⟩
theorem jY.set2 (h:jY W sb mv pv k tv uv D) (z:Int):jY (W.setCell ⟨sb,2,none⟩ (.int .i64 z)) sb mv pv z tv uv D:=by
 obtain ⟨cs,hh,hz,c0,c1,c2,c3,c4,c5⟩:=h
 refine ⟨cs.setIfInBounds 2 (.int .i64 z),by simp [World.setCell,Array.getElem?_modify,hh],by simpa using hz,?_,?_,?_,?_,?_,fun j h1 h2=>?_⟩
 ·rw [Array.getElem?_setIfInBounds_ne (by omega)];exact c0
 ·rw [Array.getElem?_setIfInBounds_ne (by omega)];exact c1
 ·rw [Array.getElem?_setIfInBounds_self_of_lt (by omega)]
 ·rw [Array.getElem?_setIfInBounds_ne (by omega)];exact c3
 ·rw [Array.getElem?_setIfInBounds_ne (by omega)];exact c4
 rw [Array.getElem?_setIfInBounds_ne (by omega)];exact c5 j h1 h2
theorem jY.set3 (h:jY W sb mv pv k tv uv D) (z:Value):jY (W.setCell ⟨sb,3,none⟩ z) sb mv pv k z uv D:=by
 obtain ⟨cs,hh,hz,c0,c1,c2,c3,c4,c5⟩:=h
 refine ⟨cs.setIfInBounds 3 z,by simp [World.setCell,Array.getElem?_modify,hh],by simpa using hz,?_,?_,?_,?_,?_,fun j h1 h2=>?_⟩
 ·rw [Array.getElem?_setIfInBounds_ne (by omega)];exact c0
 ·rw [Array.getElem?_setIfInBounds_ne (by omega)];exact c1
 ·rw [Array.getElem?_setIfInBounds_ne (by omega)];exact c2
 ·rw [Array.getElem?_setIfInBounds_self_of_lt (by omega)]
 ·rw [Array.getElem?_setIfInBounds_ne (by omega)];exact c4
 rw [Array.getElem?_setIfInBounds_ne (by omega)];exact c5 j h1 h2
theorem jY.set4 (h:jY W sb mv pv k tv uv D) (z:Value):jY (W.setCell ⟨sb,4,none⟩ z) sb mv pv k tv z D:=by
 obtain ⟨cs,hh,hz,c0,c1,c2,c3,c4,c5⟩:=h
 refine ⟨cs.setIfInBounds 4 z,by simp [World.setCell,Array.getElem?_modify,hh],by simpa using hz,?_,?_,?_,?_,?_,fun j h1 h2=>?_⟩
 ·rw [Array.getElem?_setIfInBounds_ne (by omega)];exact c0
 ·rw [Array.getElem?_setIfInBounds_ne (by omega)];exact c1
 ·rw [Array.getElem?_setIfInBounds_ne (by omega)];exact c2
 ·rw [Array.getElem?_setIfInBounds_ne (by omega)];exact c3
 ·rw [Array.getElem?_setIfInBounds_self_of_lt (by omega)]
 rw [Array.getElem?_setIfInBounds_ne (by omega)];exact c5 j h1 h2
theorem jY.c0 (h:jY W sb mv pv k tv uv D):W.cell? ⟨sb,0,none⟩=some mv:=by obtain ⟨cs,hh,hz,c0,c1,c2,c3,c4,c5⟩:=h;rw [cell_of_row W _ _ _ _ _ hh];exact c0
theorem jY.c1 (h:jY W sb mv pv k tv uv D):W.cell? ⟨sb,1,none⟩=some pv:=by obtain ⟨cs,hh,hz,c0,c1,c2,c3,c4,c5⟩:=h;rw [cell_of_row W _ _ _ _ _ hh];exact c1
theorem jY.c2 (h:jY W sb mv pv k tv uv D):W.cell? ⟨sb,2,none⟩=some (.int .i64 k):=by obtain ⟨cs,hh,hz,c0,c1,c2,c3,c4,c5⟩:=h;rw [cell_of_row W _ _ _ _ _ hh];exact c2
theorem jY.c3 (h:jY W sb mv pv k tv uv D):W.cell? ⟨sb,3,none⟩=some tv:=by obtain ⟨cs,hh,hz,c0,c1,c2,c3,c4,c5⟩:=h;rw [cell_of_row W _ _ _ _ _ hh];exact c3
theorem jY.c4 (h:jY W sb mv pv k tv uv D):W.cell? ⟨sb,4,none⟩=some uv:=by obtain ⟨cs,hh,hz,c0,c1,c2,c3,c4,c5⟩:=h;rw [cell_of_row W _ _ _ _ _ hh];exact c4
theorem jY.fz (h:jY W sb mv pv k tv uv D) (i:Nat):W.frozen? ⟨sb,i,none⟩=false:=by obtain ⟨cs,hh,-⟩:=h;exact frozen_of_row _ _ _ _ _ hh
theorem SS.same {P:TypeId->Prop} (h:SS B W sb mv pv n f s tv uv D) (hs:bM P W W') (p0:P 176) (p1:P 228) (p2:P 1) (p3:P 3) (p4:P 87) (p5:P 24) (p6:P 45) (p7:P 157) (p8:P 4):SS B W' sb mv pv n f s tv uv D :=
 ⟨h.box.same hs p0,h.tests.same hs p1 p5 p6 p7 p8,h.undos.same hs p2 p3 p4,h.sbB⟩
theorem SS.below (h:SS B W sb mv pv n f s tv uv D) (hb:Below W.heap.size W W'):SS B W' sb mv pv n f s tv uv D :=
 h.same (P:=fun _=>True) (bM.of_below hb) trivial trivial trivial trivial trivial trivial trivial trivial trivial
theorem SS.lt (h:SS B W sb mv pv n f s tv uv D):sb<W.heap.size:=by obtain ⟨cs,hh⟩:=h.box.block;exact cJ hh
theorem SS.tslice (h:SS B W sb mv pv n f s tv uv D):∃ a cap,tv=.slice a s.stops.length cap:=by obtain ⟨vs,r,_⟩:=h.tests;exact bR r
theorem SS.uslice (h:SS B W sb mv pv n f s tv uv D):∃ a cap,uv=.slice a s.past.length cap:=by obtain ⟨us,r,_⟩:=h.undos;exact bR r
theorem SS.setAt (h:SS B W sb mv pv n f s tv uv D) (z:Int):SS B (W.setCell ⟨sb,2,none⟩ (.int .i64 z)) sb mv pv n f ⟨z,s.stops,s.past⟩ tv uv D:=by
 obtain ⟨cs,hh⟩:=h.box.block
 have hs:bM (fun t=>t≠176) W (W.setCell ⟨sb,2,none⟩ (.int .i64 z)):=bM.set hh (fun q=>q rfl)
 exact ⟨h.box.set2 z,h.tests.same hs (by decide) (by decide) (by decide) (by decide) (by decide),h.undos.same hs (by decide) (by decide) (by decide),h.sbB⟩
theorem SS.setUndos (h:SS B W sb mv pv n f s tv uv D) {uv':Value} {p:List Int} (ho:rY B W uv' sb p):SS B (W.setCell ⟨sb,4,none⟩ uv') sb mv pv n f ⟨s.at_,s.stops,p⟩ tv uv' D:=by
 obtain ⟨cs,hh⟩:=h.box.block
 have hs:bM (fun t=>t≠176) W (W.setCell ⟨sb,4,none⟩ uv'):=bM.set hh (fun q=>q rfl)
 exact ⟨h.box.set4 uv',h.tests.same hs (by decide) (by decide) (by decide) (by decide) (by decide),ho.same hs (by decide) (by decide) (by decide),h.sbB⟩
end
theorem info_func:(Tryz.prog.info? 1).map (fun i=>(i.zero,i.size,i.bytes))=some (some .nilFunc,1,8):=by kernel_rfl
theorem rZ (B sb:Nat) (mv pv tv uv:Value) (D:Nat->Value) (n:Nat) (f:Nat->M) (s:LS) (z:Int) (w:World) (h:SS B w sb mv pv n f s tv uv D) (hp:s.past.length<=100000) (hB:B<=w.heap.size) :
  Calls Tryz.prog 149 #[.pointer (some ⟨sb,0,none⟩),.int .i64 z] w fun e w'=>e=.returned (.tuple #[.agg #[.int .i64 0,.int .i64 0,.int .i64 0,.string ⟨#[]⟩,.slice none 0 0,.slice none 0 0],.nilIface])/\(∃ uv',SS B w' sb mv pv n f ⟨z,s.stops,s.past ++ [s.at_]⟩ tv uv' D)/\Below B w w'/\bM dB w w':=by
 obtain ⟨ua,uc,rfl⟩:=h.uslice
 obtain ⟨m,hm⟩:∃ m,m=s.past.length:=⟨_,rfl⟩
 have H:=O h
 rw [<- hm] at H hp
 have HM:=O hm
 clear h hm
 obtain ⟨i0,hi0,hz0,hz1,hz2⟩:=info_parts info_func
 have II:=O (And.intro hi0 (And.intro hz0 (And.intro hz1 hz2)));clear hi0 hz0 hz1 hz2
 obtain ⟨k,hk⟩:∃ k,k=s.at_:=⟨_,rfl⟩
 have c2:=(Z H).box.c2
 rw [<- hk] at c2
 have HK:=O hk
 clear hk
 have hlt:=(Z H).lt
 have HBW:Hid (Below w.heap.size w (((w.alloc (.cells #[.pointer (some ⟨sb,0,none⟩)] 87)).alloc tz0).alloc (.cells #[.int .i64 k] 3))):=O (((bH w (.cells #[.pointer (some ⟨sb,0,none⟩)] 87)).alloc (by simp) tz0).alloc (by simp;omega) (.cells #[.int .i64 k] 3))
 have HQ:Hid ((((w.alloc (.cells #[.pointer (some ⟨sb,0,none⟩)] 87)).alloc tz0).alloc (.cells #[.int .i64 k] 3)).heap[w.heap.size]?=some (.cells #[.pointer (some ⟨sb,0,none⟩)] 87 (0,0))):=O (by rw [Below.heap_alloc _ _ _ (by simp;omega),Below.heap_alloc _ _ _ (by simp)];exact heap_alloc_new w _)
 have HRB:Hid ((((w.alloc (.cells #[.pointer (some ⟨sb,0,none⟩)] 87)).alloc tz0).alloc (.cells #[.int .i64 k] 3)).heap[w.heap.size+1]?=some (.cells #[.int .i64 0,.int .i64 0,.int .i64 0,.string ⟨#[]⟩,.slice none 0 0,.slice none 0 0] 38 (0,0))):=O (by rw [Below.heap_alloc _ _ _ (by simp)];have:=heap_alloc_new (w.alloc (.cells #[.pointer (some ⟨sb,0,none⟩)] 87)) tz0;rw [World.size_alloc] at this;exact this)
 have HFB:Hid ((((w.alloc (.cells #[.pointer (some ⟨sb,0,none⟩)] 87)).alloc tz0).alloc (.cells #[.int .i64 k] 3)).heap[w.heap.size+2]?=some (.cells #[.int .i64 k] 3 (0,0))):=O (by have:=heap_alloc_new ((w.alloc (.cells #[.pointer (some ⟨sb,0,none⟩)] 87)).alloc tz0) (.cells #[.int .i64 k] 3);rw [World.size_alloc,World.size_alloc] at this;exact this)
 have HS0:=O ((Z H).below (Z HBW))
 go_enter Tryz.func149,Tryz.ntmps149
 go_upto_region 2 with fail
 obtain ⟨w0,hw0⟩:∃ w0,w0=(((w.alloc (.cells #[.pointer (some ⟨sb,0,none⟩)] 87)).alloc tz0).alloc (.cells #[.int .i64 k] 3)):=⟨_,rfl⟩
 rw [<- hw0] at HBW HQ HRB HFB HS0 ⊢
 clear hw0 c2
 have hsz0:w.heap.size+3<=w0.heap.size:=cJ (Z HFB)
 have HSS:Hid (∀ W,Below w0.heap.size w0 W->W.cell? ⟨w.heap.size,0,none⟩=some (.pointer (some ⟨sb,0,none⟩))):=O (fun W hb=>bG hb (by rw [cell_of_row w0 _ 0 _ _ _ (Z HQ)];rfl))
 have HC4:Hid (∀ W,Below w0.heap.size w0 W->W.cell? ⟨sb,4,none⟩=some (.slice ua m uc)):=O (fun W hb=>bG hb (Z HS0).box.c4)
 refine wp_region_held_drew (S:=fun W=>W.cell? ⟨w.heap.size,0,none⟩=some (.pointer (some ⟨sb,0,none⟩))) (by kernel_rfl) (Z HSS _ (Below.refl _ _).drew) (fun hHeld=>?_)
 refine tka 0 11 hHeld ?_
 refine tka 1 12 hHeld ?_
 refine tka 2 13 hHeld ?_
 refine tka 3 14 hHeld ?_
 refine tka 5 16 hHeld ?_
 have HB0:=O ((Below.refl w0.heap.size w0).drew)
 have HB1:Hid (Below w0.heap.size w0 (w0.alloc (.cells #[.func (.func 187) #[] #[.pointer (some ⟨w.heap.size+1+1,0,none⟩),.pointer (some ⟨w.heap.size,0,none⟩)]] 1)).drew):=O (bH w0 (.cells #[.func (.func 187) #[] #[.pointer (some ⟨w.heap.size+1+1,0,none⟩),.pointer (some ⟨w.heap.size,0,none⟩)]] 1)).drew
 refine wpAnyH_ready (rs:=[4,6]) (by kernel_rfl) (by simp) ?_
 refine AllReadyH.cons rfl (fun KK hK=>?_) (AllReadyH.cons rfl (fun KK hK=>?_) AllReadyH.nil)
 ·have q4:=Z HC4 _ (Z HB0)
  go_simp
  refine hK.out _ _ (Z HSS _ (Z HB0)) (fun hHeld=>?_)
  clear hK KK q4
  try simp only [Act.put,sy]
  refine rdy 6 fun KK hK=>?_
  go_simp
  refine hK.out _ _ (Z HSS _ (Z HB1)) (fun hHeld=>?_)
  clear hK KK
  try simp only [Act.put,sy]
  obtain ⟨us,hus,hun⟩:=(Z HS0).undos
  rw [<- Z HM] at hus
  have hrw:=bN hus (Z HB1)
  have hul:us.length=m:=by have:=hus.1;omega
  refine rdy 7 fun KK hK=>?_
  refine step_append_lies _ (by rfl) _ _ _ (by rfl) B 1 i0 _ 1 8 Tryz.underlying170 (Z II).1 (Z II).2.1 (Z II).2.2.1 (Z II).2.2.2 rfl (by omega) (.slice ua m uc) m us (by rfl) hrw
   ⟨w0.heap.size,0,none⟩ 1 1 [.func (.func 187) #[] #[.pointer (some ⟨w.heap.size+1+1,0,none⟩),.pointer (some ⟨w.heap.size,0,none⟩)]] (by rfl) (by rfl) (World.news_of_block (cs:=#[.func (.func 187) #[] #[.pointer (some ⟨w.heap.size+1+1,0,none⟩),.pointer (some ⟨w.heap.size,0,none⟩)]]) (t:=1) (fr:=(0,0)) (heap_alloc_new w0 _)) (by simp [Value.oneCell'])
   (by omega) (by unfold maxLen;omega) (by omega) (by have:=(Z HB1).size;omega) _ rfl ?_
  intro g2 cp2 w7 hown hgrow _ _
  have s7:bM (fun t=>t≠1) w0 w7:=(bM.of_below (Z HB1)).trans (bM.grown hrw hgrow (fun q=>q rfl))
  have b7:Below B w w7:=(((Z HBW).mono hB).trans ((Z HB1).mono (by omega))).grown hgrow (by have:=(Z HB1).size;omega) (fun b e=>(eM hrw b e).1)
  have x7:jY w7 sb mv pv s.at_ tv (.slice ua m uc) D:=(Z HS0).box.same s7 (by decide)
  have HT7:=O ((Z HS0).tests.same s7 (by decide) (by decide) (by decide) (by decide) (by decide))
  have HU7:Hid (rY B w7 (.slice (some ⟨g2,0,none⟩) (m+1) cp2) sb (s.past ++ [s.at_])):=O (by
   refine ⟨us ++ [.func (.func 187) #[] #[.pointer (some ⟨w.heap.size+1+1,0,none⟩),.pointer (some ⟨w.heap.size,0,none⟩)]],by rw [List.length_append,<- Z HM];exact hown,fun i x hx=>?_⟩
   by_cases hi:i<s.past.length
   ·rw [List.getElem?_append_left hi] at hx
    obtain ⟨v,ev,hu⟩:=hun i x hx
    exact ⟨v,by rw [List.getElem?_append_left (by rw [hul,Z HM];exact hi)];exact ev,hu.same s7 (by decide) (by decide)⟩
   rw [List.getElem?_append_right (by omega)] at hx
   have hi2:i=s.past.length:=by
    rcases Nat.lt_or_ge (i - s.past.length) 1 with q | q
    ·omega
    rw [List.getElem?_eq_none (by simpa using q)] at hx;cases hx
   subst hi2
   rw [Nat.sub_self] at hx
   obtain rfl:s.at_=x:=by simpa using hx
   refine ⟨_,by rw [List.getElem?_append_right (by rw [hul,Z HM];exact Nat.le_refl _),hul,Z HM,Nat.sub_self];rfl,w.heap.size+1+1,w.heap.size,rfl,?_,s7 _ _ _ _ (Z HQ) (by decide)⟩
   rw [<- Z HK]
   exact s7 _ _ _ _ (Z HFB) (by decide))
  have HX7:=O x7
  have HB7:=O b7
  have HS7:Hid (bM dB w w7):=O ((bM.of_below (Z HBW)).trans (s7.mono (fun t q=>q.2.2)))
  have HR7:=O (s7 _ _ _ _ (Z HRB) (by decide))
  have HQ7:=O (s7 _ _ _ _ (Z HQ) (by decide))
  clear hown hgrow hus hun hrw hul s7 b7 x7
  have k0:w7.cell? ⟨w.heap.size,0,none⟩=some (.pointer (some ⟨sb,0,none⟩)):=by rw [cell_of_row w7 _ 0 _ _ _ (Z HQ7)];rfl
  have k4:=(Z HX7).c4
  have f4:=(Z HX7).fz 4
  refine hK.out _ _ k0 (fun hHeld=>?_)
  clear hK KK
  try simp only [Act.put,sy]
  refine tka 8 19 hHeld ?_
  refine tka 9 20 hHeld ?_
  refine rdy 10 fun KK hK=>?_
  go_simp
  have hl0:w.heap.size≠sb:=by omega
  have HL:Hid (SS B (w7.setCell ⟨sb,4,none⟩ (.slice (some ⟨g2,0,none⟩) (m+1) cp2)) sb mv pv n f ⟨s.at_,s.stops,s.past ++ [s.at_]⟩ tv (.slice (some ⟨g2,0,none⟩) (m+1) cp2) D):=O (by
   obtain ⟨cs,hh⟩:=(Z HX7).block
   have hs:bM (fun t=>t≠176) w7 (w7.setCell ⟨sb,4,none⟩ (.slice (some ⟨g2,0,none⟩) (m+1) cp2)):=bM.set hh (fun q=>q rfl)
   exact ⟨(Z HX7).set4 _,(Z HT7).same hs (by decide) (by decide) (by decide) (by decide) (by decide),(Z HU7).same hs (by decide) (by decide) (by decide),(Z H).sbB⟩)
  have HBL:Hid (Below B w (w7.setCell ⟨sb,4,none⟩ (.slice (some ⟨g2,0,none⟩) (m+1) cp2))):=O ((Z HB7).setCell (p:=⟨sb,4,none⟩) (Z H).sbB _)
  have HKL:Hid (bM dB w (w7.setCell ⟨sb,4,none⟩ (.slice (some ⟨g2,0,none⟩) (m+1) cp2))):=O ((Z HS7).trans (by obtain ⟨cs,hh⟩:=(Z HX7).block;exact bM.set hh dB.no))
  have HR8:Hid ((w7.setCell ⟨sb,4,none⟩ (.slice (some ⟨g2,0,none⟩) (m+1) cp2)).heap[w.heap.size+1]?=some (.cells #[.int .i64 0,.int .i64 0,.int .i64 0,.string ⟨#[]⟩,.slice none 0 0,.slice none 0 0] 38 (0,0))):=O (by rw [heap_setCell_other _ _ _ _ (by show w.heap.size+1≠sb;omega)];exact Z HR7)
  have d0:(w7.setCell ⟨sb,4,none⟩ (.slice (some ⟨g2,0,none⟩) (m+1) cp2)).cell? ⟨w.heap.size,0,none⟩=some (.pointer (some ⟨sb,0,none⟩)):=by rw [World.cell?_setCell_far _ _ _ _ (by show sb≠w.heap.size;omega)];exact k0
  refine hK.out _ _ d0 (fun hHeld=>?_)
  clear hK KK hHeld k0 k4 f4
  try simp only [Act.put,sy]
  refine wpAnyH_done (by kernel_rfl) ?_ _
  obtain ⟨w8,hw8⟩:∃ w8,w8=w7.setCell ⟨sb,4,none⟩ (.slice (some ⟨g2,0,none⟩) (m+1) cp2):=⟨_,rfl⟩
  rw [<- hw8] at HL HBL HKL HR8 d0 ⊢
  clear hw8 HX7 HT7 HU7 HB7 HS7 HR7 HQ7
  have k2:=(Z HL).box.c2
  have f2:=(Z HL).box.fz 2
  have r0:w8.cell? ⟨w.heap.size+1,0,none⟩=some (.int .i64 0):=by rw [cell_of_row w8 _ _ _ _ _ (Z HR8)];rfl
  have r1:w8.cell? ⟨w.heap.size+1,1,none⟩=some (.int .i64 0):=by rw [cell_of_row w8 _ _ _ _ _ (Z HR8)];rfl
  have r2:w8.cell? ⟨w.heap.size+1,2,none⟩=some (.int .i64 0):=by rw [cell_of_row w8 _ _ _ _ _ (Z HR8)];rfl
  have r3:w8.cell? ⟨w.heap.size+1,3,none⟩=some (.string ⟨#[]⟩):=by rw [cell_of_row w8 _ _ _ _ _ (Z HR8)];rfl
  have r4:w8.cell? ⟨w.heap.size+1,4,none⟩=some (.slice none 0 0):=by rw [cell_of_row w8 _ _ _ _ _ (Z HR8)];rfl
  have r5:w8.cell? ⟨w.heap.size+1,5,none⟩=some (.slice none 0 0):=by rw [cell_of_row w8 _ _ _ _ _ (Z HR8)];rfl
  have x0:w8.frozen? ⟨w.heap.size+1,0,none⟩=false:=frozen_of_row _ _ _ _ _ (Z HR8)
  have x1:w8.frozen? ⟨w.heap.size+1,1,none⟩=false:=frozen_of_row _ _ _ _ _ (Z HR8)
  have x2:w8.frozen? ⟨w.heap.size+1,2,none⟩=false:=frozen_of_row _ _ _ _ _ (Z HR8)
  have x3:w8.frozen? ⟨w.heap.size+1,3,none⟩=false:=frozen_of_row _ _ _ _ _ (Z HR8)
  have x4:w8.frozen? ⟨w.heap.size+1,4,none⟩=false:=frozen_of_row _ _ _ _ _ (Z HR8)
  have x5:w8.frozen? ⟨w.heap.size+1,5,none⟩=false:=frozen_of_row _ _ _ _ _ (Z HR8)
  have hl1:sb≠w.heap.size+1:=by omega
  have hl2:w.heap.size+1≠sb:=by omega
  go_wp2
  refine bodyPost_ret (v:=.tuple #[.agg #[.int .i64 0,.int .i64 0,.int .i64 0,.string ⟨#[]⟩,.slice none 0 0,.slice none 0 0],.nilIface]) (by simp [results,Tryz.results149,go_sem,r0,r1,r2,r3,r4,r5]) rfl ?_
  have hR9:(w8.setCell ⟨sb,2,none⟩ (.int .i64 z)).heap[w.heap.size+1]?=some (.cells #[.int .i64 0,.int .i64 0,.int .i64 0,.string ⟨#[]⟩,.slice none 0 0,.slice none 0 0] 38 (0,0)):=by rw [heap_setCell_other _ _ _ _ (by show w.heap.size+1≠sb;omega)];exact Z HR8
  have hst:bM (fun t=>t≠38) (w8.setCell ⟨sb,2,none⟩ (.int .i64 z)) (dA (w8.setCell ⟨sb,2,none⟩ (.int .i64 z)) (w.heap.size+1) 0 0 ⟨#[]⟩ (.slice none 0 0) (.slice none 0 0)):=fK hR9 (fun q=>q rfl)
  refine ⟨rfl,⟨_,((Z HL).setAt z).same hst (by decide) (by decide) (by decide) (by decide) (by decide) (by decide) (by decide) (by decide) (by decide)⟩,mY ((Z HBL).setCell (p:=⟨sb,2,none⟩) (Z H).sbB _) (by omega),qL ((Z HKL).trans (by obtain ⟨cs,hh⟩:=(Z HL).box.block;exact bM.set hh dB.no)) (by omega)⟩
 go_simp
 refine hK.out _ _ (Z HSS _ (Z HB1)) (fun hHeld=>?_)
 clear hK KK
 try simp only [Act.put,sy]
 refine rdy 4 fun KK hK=>?_
 have q4:=Z HC4 _ (Z HB1)
 go_simp
 refine hK.out _ _ (Z HSS _ (Z HB1)) (fun hHeld=>?_)
 clear hK KK q4
 try simp only [Act.put,sy]
 obtain ⟨us,hus,hun⟩:=(Z HS0).undos
 rw [<- Z HM] at hus
 have hrw:=bN hus (Z HB1)
 have hul:us.length=m:=by have:=hus.1;omega
 refine rdy 7 fun KK hK=>?_
 refine step_append_lies _ (by rfl) _ _ _ (by rfl) B 1 i0 _ 1 8 Tryz.underlying170 (Z II).1 (Z II).2.1 (Z II).2.2.1 (Z II).2.2.2 rfl (by omega) (.slice ua m uc) m us (by rfl) hrw
  ⟨w0.heap.size,0,none⟩ 1 1 [.func (.func 187) #[] #[.pointer (some ⟨w.heap.size+1+1,0,none⟩),.pointer (some ⟨w.heap.size,0,none⟩)]] (by rfl) (by rfl) (World.news_of_block (cs:=#[.func (.func 187) #[] #[.pointer (some ⟨w.heap.size+1+1,0,none⟩),.pointer (some ⟨w.heap.size,0,none⟩)]]) (t:=1) (fr:=(0,0)) (heap_alloc_new w0 _)) (by simp [Value.oneCell'])
  (by omega) (by unfold maxLen;omega) (by omega) (by have:=(Z HB1).size;omega) _ rfl ?_
 intro g2 cp2 w7 hown hgrow _ _
 have s7:bM (fun t=>t≠1) w0 w7:=(bM.of_below (Z HB1)).trans (bM.grown hrw hgrow (fun q=>q rfl))
 have b7:Below B w w7:=(((Z HBW).mono hB).trans ((Z HB1).mono (by omega))).grown hgrow (by have:=(Z HB1).size;omega) (fun b e=>(eM hrw b e).1)
 have x7:jY w7 sb mv pv s.at_ tv (.slice ua m uc) D:=(Z HS0).box.same s7 (by decide)
 have HT7:=O ((Z HS0).tests.same s7 (by decide) (by decide) (by decide) (by decide) (by decide))
 have HU7:Hid (rY B w7 (.slice (some ⟨g2,0,none⟩) (m+1) cp2) sb (s.past ++ [s.at_])):=O (by
  refine ⟨us ++ [.func (.func 187) #[] #[.pointer (some ⟨w.heap.size+1+1,0,none⟩),.pointer (some ⟨w.heap.size,0,none⟩)]],by rw [List.length_append,<- Z HM];exact hown,fun i x hx=>?_⟩
  by_cases hi:i<s.past.length
  ·rw [List.getElem?_append_left hi] at hx
   obtain ⟨v,ev,hu⟩:=hun i x hx
   exact ⟨v,by rw [List.getElem?_append_left (by rw [hul,Z HM];exact hi)];exact ev,hu.same s7 (by decide) (by decide)⟩
  rw [List.getElem?_append_right (by omega)] at hx
  have hi2:i=s.past.length:=by
   rcases Nat.lt_or_ge (i - s.past.length) 1 with q | q
   ·omega
   rw [List.getElem?_eq_none (by simpa using q)] at hx;cases hx
  subst hi2
  rw [Nat.sub_self] at hx
  obtain rfl:s.at_=x:=by simpa using hx
  refine ⟨_,by rw [List.getElem?_append_right (by rw [hul,Z HM];exact Nat.le_refl _),hul,Z HM,Nat.sub_self];rfl,w.heap.size+1+1,w.heap.size,rfl,?_,s7 _ _ _ _ (Z HQ) (by decide)⟩
  rw [<- Z HK]
  exact s7 _ _ _ _ (Z HFB) (by decide))
 have HX7:=O x7
 have HB7:=O b7
 have HS7:Hid (bM dB w w7):=O ((bM.of_below (Z HBW)).trans (s7.mono (fun t q=>q.2.2)))
 have HR7:=O (s7 _ _ _ _ (Z HRB) (by decide))
 have HQ7:=O (s7 _ _ _ _ (Z HQ) (by decide))
 clear hown hgrow hus hun hrw hul s7 b7 x7
 have k0:w7.cell? ⟨w.heap.size,0,none⟩=some (.pointer (some ⟨sb,0,none⟩)):=by rw [cell_of_row w7 _ 0 _ _ _ (Z HQ7)];rfl
 have k4:=(Z HX7).c4
 have f4:=(Z HX7).fz 4
 refine hK.out _ _ k0 (fun hHeld=>?_)
 clear hK KK
 try simp only [Act.put,sy]
 refine tka 8 19 hHeld ?_
 refine tka 9 20 hHeld ?_
 refine rdy 10 fun KK hK=>?_
 go_simp
 have hl0:w.heap.size≠sb:=by omega
 have HL:Hid (SS B (w7.setCell ⟨sb,4,none⟩ (.slice (some ⟨g2,0,none⟩) (m+1) cp2)) sb mv pv n f ⟨s.at_,s.stops,s.past ++ [s.at_]⟩ tv (.slice (some ⟨g2,0,none⟩) (m+1) cp2) D):=O (by
  obtain ⟨cs,hh⟩:=(Z HX7).block
  have hs:bM (fun t=>t≠176) w7 (w7.setCell ⟨sb,4,none⟩ (.slice (some ⟨g2,0,none⟩) (m+1) cp2)):=bM.set hh (fun q=>q rfl)
  exact ⟨(Z HX7).set4 _,(Z HT7).same hs (by decide) (by decide) (by decide) (by decide) (by decide),(Z HU7).same hs (by decide) (by decide) (by decide),(Z H).sbB⟩)
 have HBL:Hid (Below B w (w7.setCell ⟨sb,4,none⟩ (.slice (some ⟨g2,0,none⟩) (m+1) cp2))):=O ((Z HB7).setCell (p:=⟨sb,4,none⟩) (Z H).sbB _)
 have HKL:Hid (bM dB w (w7.setCell ⟨sb,4,none⟩ (.slice (some ⟨g2,0,none⟩) (m+1) cp2))):=O ((Z HS7).trans (by obtain ⟨cs,hh⟩:=(Z HX7).block;exact bM.set hh dB.no))
 have HR8:Hid ((w7.setCell ⟨sb,4,none⟩ (.slice (some ⟨g2,0,none⟩) (m+1) cp2)).heap[w.heap.size+1]?=some (.cells #[.int .i64 0,.int .i64 0,.int .i64 0,.string ⟨#[]⟩,.slice none 0 0,.slice none 0 0] 38 (0,0))):=O (by rw [heap_setCell_other _ _ _ _ (by show w.heap.size+1≠sb;omega)];exact Z HR7)
 have d0:(w7.setCell ⟨sb,4,none⟩ (.slice (some ⟨g2,0,none⟩) (m+1) cp2)).cell? ⟨w.heap.size,0,none⟩=some (.pointer (some ⟨sb,0,none⟩)):=by rw [World.cell?_setCell_far _ _ _ _ (by show sb≠w.heap.size;omega)];exact k0
 refine hK.out _ _ d0 (fun hHeld=>?_)
 clear hK KK hHeld k0 k4 f4
 try simp only [Act.put,sy]
 refine wpAnyH_done (by kernel_rfl) ?_ _
 obtain ⟨w8,hw8⟩:∃ w8,w8=w7.setCell ⟨sb,4,none⟩ (.slice (some ⟨g2,0,none⟩) (m+1) cp2):=⟨_,rfl⟩
 rw [<- hw8] at HL HBL HKL HR8 d0 ⊢
 clear hw8 HX7 HT7 HU7 HB7 HS7 HR7 HQ7
 have k2:=(Z HL).box.c2
 have f2:=(Z HL).box.fz 2
 have r0:w8.cell? ⟨w.heap.size+1,0,none⟩=some (.int .i64 0):=by rw [cell_of_row w8 _ _ _ _ _ (Z HR8)];rfl
 have r1:w8.cell? ⟨w.heap.size+1,1,none⟩=some (.int .i64 0):=by rw [cell_of_row w8 _ _ _ _ _ (Z HR8)];rfl
 have r2:w8.cell? ⟨w.heap.size+1,2,none⟩=some (.int .i64 0):=by rw [cell_of_row w8 _ _ _ _ _ (Z HR8)];rfl
 have r3:w8.cell? ⟨w.heap.size+1,3,none⟩=some (.string ⟨#[]⟩):=by rw [cell_of_row w8 _ _ _ _ _ (Z HR8)];rfl
 have r4:w8.cell? ⟨w.heap.size+1,4,none⟩=some (.slice none 0 0):=by rw [cell_of_row w8 _ _ _ _ _ (Z HR8)];rfl
 have r5:w8.cell? ⟨w.heap.size+1,5,none⟩=some (.slice none 0 0):=by rw [cell_of_row w8 _ _ _ _ _ (Z HR8)];rfl
 have x0:w8.frozen? ⟨w.heap.size+1,0,none⟩=false:=frozen_of_row _ _ _ _ _ (Z HR8)
 have x1:w8.frozen? ⟨w.heap.size+1,1,none⟩=false:=frozen_of_row _ _ _ _ _ (Z HR8)
 have x2:w8.frozen? ⟨w.heap.size+1,2,none⟩=false:=frozen_of_row _ _ _ _ _ (Z HR8)
 have x3:w8.frozen? ⟨w.heap.size+1,3,none⟩=false:=frozen_of_row _ _ _ _ _ (Z HR8)
 have x4:w8.frozen? ⟨w.heap.size+1,4,none⟩=false:=frozen_of_row _ _ _ _ _ (Z HR8)
 have x5:w8.frozen? ⟨w.heap.size+1,5,none⟩=false:=frozen_of_row _ _ _ _ _ (Z HR8)
 have hl1:sb≠w.heap.size+1:=by omega
 have hl2:w.heap.size+1≠sb:=by omega
 go_wp2
 refine bodyPost_ret (v:=.tuple #[.agg #[.int .i64 0,.int .i64 0,.int .i64 0,.string ⟨#[]⟩,.slice none 0 0,.slice none 0 0],.nilIface]) (by simp [results,Tryz.results149,go_sem,r0,r1,r2,r3,r4,r5]) rfl ?_
 have hR9:(w8.setCell ⟨sb,2,none⟩ (.int .i64 z)).heap[w.heap.size+1]?=some (.cells #[.int .i64 0,.int .i64 0,.int .i64 0,.string ⟨#[]⟩,.slice none 0 0,.slice none 0 0] 38 (0,0)):=by rw [heap_setCell_other _ _ _ _ (by show w.heap.size+1≠sb;omega)];exact Z HR8
 have hst:bM (fun t=>t≠38) (w8.setCell ⟨sb,2,none⟩ (.int .i64 z)) (dA (w8.setCell ⟨sb,2,none⟩ (.int .i64 z)) (w.heap.size+1) 0 0 ⟨#[]⟩ (.slice none 0 0) (.slice none 0 0)):=fK hR9 (fun q=>q rfl)
 refine ⟨rfl,⟨_,((Z HL).setAt z).same hst (by decide) (by decide) (by decide) (by decide) (by decide) (by decide) (by decide) (by decide) (by decide)⟩,mY ((Z HBL).setCell (p:=⟨sb,2,none⟩) (Z H).sbB _) (by omega),qL ((Z HKL).trans (by obtain ⟨cs,hh⟩:=(Z HL).box.block;exact bM.set hh dB.no)) (by omega)⟩
end
section
open Go.RowKit
def pK (B sb:Nat) (mv pv:Value) (n:Nat) (f:Nat->M) (D:Nat->Value) (s:LS) (a:Ak) (w:World) (e:Ending) (w':World):Prop :=
 ∃ s' d m t v5 v6 er,e=.returned (.tuple #[.agg #[.int .i64 0,.int .i64 0,.int .i64 m,.string t,v5,v6],er])/\bU n f s a s' d/\((d.code=0/\er=.nilIface/\m=d.num/\t=d.text)∨(d=Td.bad d.code/\d.code≠0/\er=.iface 180 (.agg #[.int .i64 d.code])))/\(∃ tv' uv',SS B w' sb mv pv n f s' tv' uv' D)/\eA w.heap.size w' v5 d.fr/\dD w.heap.size w' v6 d.vs/\Below B w w'/\bM dB w w'
structure DB (w:World) (a:Ak) (W:World):Prop where
 ak:W.heap[w.heap.size]?=some (.cells #[.int .i64 a.op,.int .i64 a.n,.string a.name,.int .i64 a.stop.kind,.int .i64 a.stop.fn,.int .i64 a.stop.line,.string a.stop.name] 47 (0,0))
 rb:W.heap[w.heap.size+1]?=some (.cells #[.int .i64 0,.int .i64 0,.int .i64 0,.string ⟨#[]⟩,.slice none 0 0,.slice none 0 0] 38 (0,0))
section
variable {w W W':World} {a:Ak}
theorem DB.new (w:World) (a:Ak):DB w a ((w.alloc (.cells #[.int .i64 a.op,.int .i64 a.n,.string a.name,.int .i64 a.stop.kind,.int .i64 a.stop.fn,.int .i64 a.stop.line,.string a.stop.name] 47)).alloc tz0):=by
 have n1:=heap_alloc_new w (.cells #[.int .i64 a.op,.int .i64 a.n,.string a.name,.int .i64 a.stop.kind,.int .i64 a.stop.fn,.int .i64 a.stop.line,.string a.stop.name] 47)
 have n2:=heap_alloc_new (w.alloc (.cells #[.int .i64 a.op,.int .i64 a.n,.string a.name,.int .i64 a.stop.kind,.int .i64 a.stop.fn,.int .i64 a.stop.line,.string a.stop.name] 47)) tz0
 rw [World.size_alloc] at n2
 exact ⟨by rw [Below.heap_alloc _ _ _ (by simp)];exact n1,n2⟩
theorem DB.size (h:DB w a W):w.heap.size+2<=W.heap.size:=cJ h.rb
theorem DB.same (h:DB w a W) (hs:bM dB W W'):DB w a W':=⟨hs _ _ _ _ h.ak (by unfold dB;decide),hs _ _ _ _ h.rb (by unfold dB;decide)⟩
theorem DB.go (h:DB w a W) (hb:Below W.heap.size W W'):DB w a W':=h.same (bM.of_below hb)
theorem DB.a1 (h:DB w a W):W.cell? ⟨w.heap.size,1,none⟩=some (.int .i64 a.n):=by rw [cell_of_row W _ 1 _ _ _ h.ak];rfl
theorem DB.a2 (h:DB w a W):W.cell? ⟨w.heap.size,2,none⟩=some (.string a.name):=by rw [cell_of_row W _ 2 _ _ _ h.ak];rfl
theorem DB.a3 (h:DB w a W):W.cell? ⟨w.heap.size,3,none⟩=some (.int .i64 a.stop.kind):=by rw [cell_of_row W _ 3 _ _ _ h.ak];rfl
theorem DB.a4 (h:DB w a W):W.cell? ⟨w.heap.size,4,none⟩=some (.int .i64 a.stop.fn):=by rw [cell_of_row W _ 4 _ _ _ h.ak];rfl
theorem DB.a5 (h:DB w a W):W.cell? ⟨w.heap.size,5,none⟩=some (.int .i64 a.stop.line):=by rw [cell_of_row W _ 5 _ _ _ h.ak];rfl
theorem DB.a6 (h:DB w a W):W.cell? ⟨w.heap.size,6,none⟩=some (.string a.stop.name):=by rw [cell_of_row W _ 6 _ _ _ h.ak];rfl
theorem DB.rc (h:DB w a W):(W.cell? ⟨w.heap.size+1,0,none⟩=some (.int .i64 0)/\W.cell? ⟨w.heap.size+1,1,none⟩=some (.int .i64 0)/\W.cell? ⟨w.heap.size+1,2,none⟩=some (.int .i64 0)/\W.cell? ⟨w.heap.size+1,3,none⟩=some (.string ⟨#[]⟩)/\W.cell? ⟨w.heap.size+1,4,none⟩=some (.slice none 0 0)/\W.cell? ⟨w.heap.size+1,5,none⟩=some (.slice none 0 0)) /\
  (W.frozen? ⟨w.heap.size+1,0,none⟩=false/\W.frozen? ⟨w.heap.size+1,1,none⟩=false/\W.frozen? ⟨w.heap.size+1,2,none⟩=false/\W.frozen? ⟨w.heap.size+1,3,none⟩=false/\W.frozen? ⟨w.heap.size+1,4,none⟩=false/\W.frozen? ⟨w.heap.size+1,5,none⟩=false):=by
 refine ⟨⟨?_,?_,?_,?_,?_,?_⟩,?_,?_,?_,?_,?_,?_⟩
 all_goals first | (rw [cell_of_row W _ _ _ _ _ h.rb];rfl) | exact frozen_of_row _ _ _ _ _ h.rb
end
theorem cX {B sb:Nat} {mv pv tv' uv' v5 v6 er:Value} {n:Nat} {f:Nat->M} {D:Nat->Value} {s s':LS} {a:Ak} {d:Td} {m:Int} {t:ByteArray} {w W:World} (hI:bU n f s a s' d) (hd:(d.code=0/\er=.nilIface/\m=d.num/\t=d.text)∨(d=Td.bad d.code/\d.code≠0/\er=.iface 180 (.agg #[.int .i64 d.code]))) (hL:SS B W sb mv pv n f s' tv' uv' D) (hA:DB w a W)
  (h5:eA w.heap.size W v5 d.fr) (h6:dD w.heap.size W v6 d.vs) (hb:Below B w W) (hk:bM dB w W) (hB:B<=w.heap.size) :
  pK B sb mv pv n f D s a w (.returned (.tuple #[.agg #[.int .i64 0,.int .i64 0,.int .i64 m,.string t,v5,v6],er])) (dA W (w.heap.size+1) 0 m t v5 v6):=by
 have hs:bM (fun q=>q≠38) W (dA W (w.heap.size+1) 0 m t v5 v6):=fK hA.rb (fun q=>q rfl)
 exact ⟨s',d,m,t,v5,v6,er,rfl,hI,hd,⟨tv',uv',hL.same hs (by decide) (by decide) (by decide) (by decide) (by decide) (by decide) (by decide) (by decide) (by decide)⟩,cK h5 hs (by decide),h6.same hs (by decide),mY hb (by omega),qL hk (by omega)⟩
theorem goOn_any (B sb lo lp:Nat) (mv pv tv uv:Value) (D:Nat->Value) (nf:Nat) (fns:Nat->ByteArray) (n:Nat) (f:Nat->M) (s:LS) (nn:Int) (name:ByteArray) (kd fn line:Int) (sn:ByteArray) (w:World) (h:SS B w sb mv pv n f s tv uv D) (h2:∀ W,Below B w W->bQ lo W mv n f) (hp:∀ W,Below B w W->bW lp W pv n f) (hs:cB nf fns n f) (hok:gF n s) (hpl:s.past.length<=10000) (hB:B<=w.heap.size) (ho:cL (⟨3,nn,name,⟨kd,fn,line,sn⟩⟩:Ak)) :
  Calls Tryz.prog 106 #[.pointer (some ⟨sb,0,none⟩),.agg #[.int .i64 3,.int .i64 nn,.string name,.int .i64 kd,.int .i64 fn,.int .i64 line,.string sn]] w fun e w'=>pK B sb mv pv n f D s (⟨3,nn,name,⟨kd,fn,line,sn⟩⟩:Ak) w e w':=by
 have H:=O h
 have H2:=O h2
 have HP:=O hp
 have HS:=O hs
 have HOK:=O hok
 have HPL:=O hpl
 have HO:=O ho
 have A1:=O (DB.new w (⟨3,nn,name,⟨kd,fn,line,sn⟩⟩:Ak))
 have HB1:Hid (Below w.heap.size w ((w.alloc (.cells #[.int .i64 3,.int .i64 nn,.string name,.int .i64 kd,.int .i64 fn,.int .i64 line,.string sn] 47)).alloc tz0)):=O ((bH w (.cells #[.int .i64 3,.int .i64 nn,.string name,.int .i64 kd,.int .i64 fn,.int .i64 line,.string sn] 47)).alloc (by simp) tz0)
 have H1:=O ((Z H).below (Z HB1))
 clear h h2 hp hs hok hpl
 obtain ⟨a2,cap2,e2,hn2,-⟩:=Z H2 _ ((Z HB1).mono hB)
 subst e2
 clear hn2
 obtain ⟨ta,tc,hte⟩:=(Z H).tslice
 obtain ⟨ns,hns⟩:∃ ns,ns=s.stops.length:=⟨_,rfl⟩
 rw [<- hns] at hte
 subst hte
 have HNS:=O hns
 have hn3:n<=3000:=(Z HS).1.2.2.1
 have hk0:=(Z HOK).lo
 have hk1:=(Z HOK).hi
 obtain ⟨k,hk⟩:∃ k,k=s.at_:=⟨_,rfl⟩
 rw [<- hk] at hk0 hk1
 have HK:=O hk
 clear hk hns
 go_enter Tryz.func106,Tryz.ntmps106
 go_upto_region 1 with fail
 obtain ⟨w1,hw1⟩:∃ w1,w1=((w.alloc (.cells #[.int .i64 3,.int .i64 nn,.string name,.int .i64 kd,.int .i64 fn,.int .i64 line,.string sn] 47)).alloc tz0):=⟨_,rfl⟩
 rw [<- hw1] at A1 HB1 H1 ⊢
 clear hw1
 have HSS:Hid (∀ W,Below w1.heap.size w1 W->W.cell? ⟨sb,3,none⟩=some (.slice ta ns tc)/\W.cell? ⟨sb,0,none⟩=some (.slice a2 n cap2)):=O (fun W hb=>⟨bG hb (Z H1).box.c3,bG hb (Z H1).box.c0⟩)
 have HC2:Hid (∀ W,Below w1.heap.size w1 W->W.cell? ⟨sb,2,none⟩=some (.int .i64 k)):=O (fun W hb=>by rw [Z HK];exact bG hb (Z H1).box.c2)
 refine wp_region_held_drew (S:=fun W=>W.cell? ⟨sb,3,none⟩=some (.slice ta ns tc)/\W.cell? ⟨sb,0,none⟩=some (.slice a2 n cap2)) (by kernel_rfl) (Z HSS _ (Below.refl _ _).drew) (fun hHeld=>?_)
 refine tka 0 6 hHeld ?_
 refine tka 1 7 hHeld ?_
 refine tka 2 8 hHeld ?_
 refine tka 3 9 hHeld ?_
 refine tka 4 10 hHeld ?_
 refine tka 5 11 hHeld ?_
 refine tka 6 12 hHeld ?_
 refine tka 7 13 hHeld ?_
 refine tka 9 15 hHeld ?_
 refine tka 10 16 hHeld ?_
 refine tka 11 17 hHeld ?_
 refine tka 12 18 hHeld ?_
 refine tka 13 19 hHeld ?_
 refine rdy 8 fun KK hK=>?_
 have q2:=Z HC2 _ (Below.refl w1.heap.size w1).drew
 go_simp
 refine hK.out _ _ (Z HSS _ (Below.refl _ _).drew) (fun hHeld=>?_)
 clear hK KK q2
 try simp only [Act.put,sy]
 refine rdy 14 fun KK hK=>?_
 have hdr:=(Below.refl w1.heap.size w1).drew
 go_simp
 refine (nextHit_any B lo _ _ n f ns s.ss k _ (by have hh:=(Z H1).tests;rw [<- Z HNS] at hh;exact hh.below hdr) ((Z H2 _ ((Z HB1).mono hB)).below hdr) (by rw [Z HNS];exact (Z HOK).st) (by omega) hk0 hk1).mono ?_
 rintro e w2 ⟨⟨z,rfl,hz⟩,hbx⟩
 have hb2:Below w1.heap.size w1 w2:=hdr.trans hbx
 have HZ:=O hz
 have H2b:=O ((Z H1).below hb2)
 have A2:=O ((Z A1).go hb2)
 have HB2:=hT HB1 hb2
 refine hK.out _ _ (Z HSS _ hb2) (fun hHeld=>?_)
 clear hK KK hdr hbx hz
 try simp only [Act.put,sy]
 refine rdy 15 fun KK hK=>?_
 go_simp
 refine (rZ B sb _ pv _ uv D n f s z w2 (Z H2b) (by have:=Z HPL;omega) (Nat.le_trans hB (Z HB2).size)).mono ?_
 rintro e w3 ⟨rfl,⟨uv',hl3⟩,hb3,hk3⟩
 have A3:=O ((Z A2).same hk3)
 have HL3:=O hl3
 have HB3:=O (((Z HB2).mono hB).trans hb3)
 have HK3:=O ((bM.of_below (P:=dB) (Z HB2)).trans hk3)
 have HSA:Hid (w3.cell? ⟨sb,3,none⟩=some (.slice ta ns tc)/\w3.cell? ⟨sb,0,none⟩=some (.slice a2 n cap2)):=O (⟨hl3.box.c3,hl3.box.c0⟩)
 refine hK.out _ _ (Z HSA) (fun hHeld=>?_)
 clear hK KK hb3 hb2 hk3 hl3
 try simp only [Act.put,sy]
 refine tka 16 22 hHeld ?_
 refine tka 17 23 hHeld ?_
 obtain ⟨⟨r0,r1,r2,r3,r4,r5⟩,x0,x1,x2,x3,x4,x5⟩:=(Z A3).rc
 refine rdy 18 fun KK hK=>?_
 go_simp
 have hst:bM (fun q=>q≠38) w3 (dA w3 (w.heap.size+1) 0 0 ⟨#[]⟩ (.slice none 0 0) (.slice none 0 0)):=fK (Z A3).rb (fun q=>q rfl)
 refine hK.out _ _ ⟨(((Z HL3).box.same hst (by decide))).c3,(((Z HL3).box.same hst (by decide))).c0⟩ (fun hHeld=>?_)
 clear hK KK hst
 try simp only [Act.put,sy]
 refine tka 19 5 hHeld ?_
 refine wpAnyH_done (by kernel_rfl) ?_ _
 clear hHeld
 go_wp2
 refine bodyPost_ret (v:=.tuple #[.agg #[.int .i64 0,.int .i64 0,.int .i64 0,.string ⟨#[]⟩,.slice none 0 0,.slice none 0 0],.nilIface]) (by simp [results,Tryz.results106,go_sem,r0,r1,r2,r3,r4,r5]) rfl ?_
 exact cX (bU.move (z:=z) (Z HO) (.inl ⟨by show (3:Int)<=3;omega,by show (3:Int)<=7;omega⟩) (by unfold gM;rw [if_pos rfl];have hz:=Z HZ;rw [Z HNS,Z HK] at hz;exact hz)) (.inl ⟨rfl,rfl,rfl,rfl⟩) (Z HL3) (Z A3) (cD _ _) (dD.nil _ _) (Z HB3) (Z HK3) hB
theorem goBack_any (B sb lo lp:Nat) (mv pv tv uv:Value) (D:Nat->Value) (nf:Nat) (fns:Nat->ByteArray) (n:Nat) (f:Nat->M) (s:LS) (nn:Int) (name:ByteArray) (kd fn line:Int) (sn:ByteArray) (w:World) (h:SS B w sb mv pv n f s tv uv D) (h2:∀ W,Below B w W->bQ lo W mv n f) (hp:∀ W,Below B w W->bW lp W pv n f) (hs:cB nf fns n f) (hok:gF n s) (hpl:s.past.length<=10000) (hB:B<=w.heap.size) (ho:cL (⟨4,nn,name,⟨kd,fn,line,sn⟩⟩:Ak)) :
  Calls Tryz.prog 107 #[.pointer (some ⟨sb,0,none⟩),.agg #[.int .i64 4,.int .i64 nn,.string name,.int .i64 kd,.int .i64 fn,.int .i64 line,.string sn]] w fun e w'=>pK B sb mv pv n f D s (⟨4,nn,name,⟨kd,fn,line,sn⟩⟩:Ak) w e w':=by
 have H:=O h
 have H2:=O h2
 have HP:=O hp
 have HS:=O hs
 have HOK:=O hok
 have HPL:=O hpl
 have HO:=O ho
 have A1:=O (DB.new w (⟨4,nn,name,⟨kd,fn,line,sn⟩⟩:Ak))
 have HB1:Hid (Below w.heap.size w ((w.alloc (.cells #[.int .i64 4,.int .i64 nn,.string name,.int .i64 kd,.int .i64 fn,.int .i64 line,.string sn] 47)).alloc tz0)):=O ((bH w (.cells #[.int .i64 4,.int .i64 nn,.string name,.int .i64 kd,.int .i64 fn,.int .i64 line,.string sn] 47)).alloc (by simp) tz0)
 have H1:=O ((Z H).below (Z HB1))
 clear h h2 hp hs hok hpl
 obtain ⟨a2,cap2,e2,hn2,-⟩:=Z H2 _ ((Z HB1).mono hB)
 subst e2
 clear hn2
 obtain ⟨ta,tc,hte⟩:=(Z H).tslice
 obtain ⟨ns,hns⟩:∃ ns,ns=s.stops.length:=⟨_,rfl⟩
 rw [<- hns] at hte
 subst hte
 have HNS:=O hns
 have hn3:n<=3000:=(Z HS).1.2.2.1
 have hk0:=(Z HOK).lo
 have hk1:=(Z HOK).hi
 obtain ⟨k,hk⟩:∃ k,k=s.at_:=⟨_,rfl⟩
 rw [<- hk] at hk0 hk1
 have HK:=O hk
 clear hk hns
 go_enter Tryz.func107,Tryz.ntmps107
 go_upto_region 1 with fail
 obtain ⟨w1,hw1⟩:∃ w1,w1=((w.alloc (.cells #[.int .i64 4,.int .i64 nn,.string name,.int .i64 kd,.int .i64 fn,.int .i64 line,.string sn] 47)).alloc tz0):=⟨_,rfl⟩
 rw [<- hw1] at A1 HB1 H1 ⊢
 clear hw1
 have HSS:Hid (∀ W,Below w1.heap.size w1 W->W.cell? ⟨sb,3,none⟩=some (.slice ta ns tc)):=O (fun W hb=>bG hb (Z H1).box.c3)
 have HC2:Hid (∀ W,Below w1.heap.size w1 W->W.cell? ⟨sb,2,none⟩=some (.int .i64 k)):=O (fun W hb=>by rw [Z HK];exact bG hb (Z H1).box.c2)
 refine wp_region_held_drew (S:=fun W=>W.cell? ⟨sb,3,none⟩=some (.slice ta ns tc)) (by kernel_rfl) (Z HSS _ (Below.refl _ _).drew) (fun hHeld=>?_)
 refine tka 0 6 hHeld ?_
 refine tka 1 7 hHeld ?_
 refine tka 2 8 hHeld ?_
 refine tka 3 9 hHeld ?_
 refine tka 4 10 hHeld ?_
 refine tka 5 11 hHeld ?_
 refine tka 6 12 hHeld ?_
 refine tka 7 13 hHeld ?_
 refine rdy 8 fun KK hK=>?_
 have q2:=Z HC2 _ (Below.refl w1.heap.size w1).drew
 go_simp
 refine hK.out _ _ (Z HSS _ (Below.refl _ _).drew) (fun hHeld=>?_)
 clear hK KK q2
 try simp only [Act.put,sy]
 refine rdy 9 fun KK hK=>?_
 have hdr:=(Below.refl w1.heap.size w1).drew
 go_simp
 refine (lastHit_any B lo _ _ n f ns s.ss k _ (by have hh:=(Z H1).tests;rw [<- Z HNS] at hh;exact hh.below hdr) ((Z H2 _ ((Z HB1).mono hB)).below hdr) (by rw [Z HNS];exact (Z HOK).st) (by omega) hk0 hk1).mono ?_
 rintro e w2 ⟨⟨z,rfl,hz⟩,hbx⟩
 have hb2:Below w1.heap.size w1 w2:=hdr.trans hbx
 have HZ:=O hz
 have H2b:=O ((Z H1).below hb2)
 have A2:=O ((Z A1).go hb2)
 have HB2:=hT HB1 hb2
 refine hK.out _ _ (Z HSS _ hb2) (fun hHeld=>?_)
 clear hK KK hdr hbx hz
 try simp only [Act.put,sy]
 refine rdy 10 fun KK hK=>?_
 go_simp
 refine (rZ B sb _ pv _ uv D n f s z w2 (Z H2b) (by have:=Z HPL;omega) (Nat.le_trans hB (Z HB2).size)).mono ?_
 rintro e w3 ⟨rfl,⟨uv',hl3⟩,hb3,hk3⟩
 have A3:=O ((Z A2).same hk3)
 have HL3:=O hl3
 have HB3:=O (((Z HB2).mono hB).trans hb3)
 have HK3:=O ((bM.of_below (P:=dB) (Z HB2)).trans hk3)
 have HSA:Hid (w3.cell? ⟨sb,3,none⟩=some (.slice ta ns tc)):=O (hl3.box.c3)
 refine hK.out _ _ (Z HSA) (fun hHeld=>?_)
 clear hK KK hb3 hb2 hk3 hl3
 try simp only [Act.put,sy]
 refine tka 11 17 hHeld ?_
 refine tka 12 18 hHeld ?_
 obtain ⟨⟨r0,r1,r2,r3,r4,r5⟩,x0,x1,x2,x3,x4,x5⟩:=(Z A3).rc
 refine rdy 13 fun KK hK=>?_
 go_simp
 have hst:bM (fun q=>q≠38) w3 (dA w3 (w.heap.size+1) 0 0 ⟨#[]⟩ (.slice none 0 0) (.slice none 0 0)):=fK (Z A3).rb (fun q=>q rfl)
 refine hK.out _ _ (((Z HL3).box.same hst (by decide))).c3 (fun hHeld=>?_)
 clear hK KK hst
 try simp only [Act.put,sy]
 refine tka 14 5 hHeld ?_
 refine wpAnyH_done (by kernel_rfl) ?_ _
 clear hHeld
 go_wp2
 refine bodyPost_ret (v:=.tuple #[.agg #[.int .i64 0,.int .i64 0,.int .i64 0,.string ⟨#[]⟩,.slice none 0 0,.slice none 0 0],.nilIface]) (by simp [results,Tryz.results107,go_sem,r0,r1,r2,r3,r4,r5]) rfl ?_
 exact cX (bU.move (z:=z) (Z HO) (.inl ⟨by show (3:Int)<=4;omega,by show (4:Int)<=7;omega⟩) (by unfold gM;rw [if_neg (by show ¬ (4:Int)=3;omega)];rw [if_pos rfl];have hz:=Z HZ;rw [Z HNS,Z HK] at hz;exact hz)) (.inl ⟨rfl,rfl,rfl,rfl⟩) (Z HL3) (Z A3) (cD _ _) (dD.nil _ _) (Z HB3) (Z HK3) hB
def StepC (q:Nat):Prop:=∀ (lo lp:Nat) (mv pv:Value) (nf:Nat) (fns:Nat->ByteArray) (n:Nat) (f:Nat->M) (k:Int) (w:World),bQ lo w mv n f->bW lp w pv n f->cB nf fns n f->-1<=k->k<=n ->
  Calls Tryz.prog 127 #[mv,pv,.int .i64 k,.int .i64 (q:Int)] w fun e w'=>(∃ z,e=.returned (.int .i64 z)/\jE n f k q z)/\Below w.heap.size w w'
theorem bA4 (q:Nat) (op:Int) (hop:3<=op/\op<=7) (hst:StepC q) (B sb lo lp:Nat) (mv pv tv uv:Value) (D:Nat->Value) (nf:Nat) (fns:Nat->ByteArray) (n:Nat) (f:Nat->M) (s:LS) (nn:Int) (name:ByteArray) (kd fn line:Int) (sn:ByteArray) (w:World) (h:SS B w sb mv pv n f s tv uv D) (h2:∀ W,Below B w W->bQ lo W mv n f) (hp:∀ W,Below B w W->bW lp W pv n f) (hs:cB nf fns n f) (hok:gF n s) (hpl:s.past.length<=10000) (hB:B<=w.heap.size) (ho:cL (⟨op,nn,name,⟨kd,fn,line,sn⟩⟩:Ak)) (b1 b2:Nat) (g1:w.heap[b1]?=some (.cells #[.pointer (some ⟨sb,0,none⟩)] 87 (0,0))) (g2:w.heap[b2]?=some (.cells #[.int .i64 (q:Int)] 3 (0,0))) (hmv:∀ z,jE n f s.at_ q z->gM n f s (⟨op,nn,name,⟨kd,fn,line,sn⟩⟩:Ak) z) :
  Calls Tryz.prog 152 #[.agg #[.int .i64 op,.int .i64 nn,.string name,.int .i64 kd,.int .i64 fn,.int .i64 line,.string sn],.pointer (some ⟨b1,0,none⟩),.pointer (some ⟨b2,0,none⟩)] w fun e w'=>pK B sb mv pv n f D s (⟨op,nn,name,⟨kd,fn,line,sn⟩⟩:Ak) w e w':=by
 have HST:=O hst
 have HMV:=O hmv
 clear hst hmv
 have HY1:=O g1
 have HY2:=O g2
 have HX1:Hid (w.cell? ⟨b1,0,none⟩=some (.pointer (some ⟨sb,0,none⟩))):=O (by rw [cell_of_row _ _ 0 _ _ _ g1];rfl)
 have HX2:Hid (w.cell? ⟨b2,0,none⟩=some (.int .i64 (q:Int))):=O (by rw [cell_of_row _ _ 0 _ _ _ g2];rfl)
 clear g1 g2
 have H:=O h
 have H2:=O h2
 have HP:=O hp
 have HS:=O hs
 have HOK:=O hok
 have HPL:=O hpl
 have HO:=O ho
 have A1:=O (DB.new w (⟨op,nn,name,⟨kd,fn,line,sn⟩⟩:Ak))
 have HB1:Hid (Below w.heap.size w ((w.alloc (.cells #[.int .i64 op,.int .i64 nn,.string name,.int .i64 kd,.int .i64 fn,.int .i64 line,.string sn] 47)).alloc tz0)):=O ((bH w (.cells #[.int .i64 op,.int .i64 nn,.string name,.int .i64 kd,.int .i64 fn,.int .i64 line,.string sn] 47)).alloc (by simp) tz0)
 have H1:=O ((Z H).below (Z HB1))
 clear h h2 hp hs hok hpl
 obtain ⟨a2,cap2,e2,hn2,-⟩:=Z H2 _ ((Z HB1).mono hB)
 subst e2
 clear hn2
 obtain ⟨ta,tc,hte⟩:=(Z H).tslice
 obtain ⟨ns,hns⟩:∃ ns,ns=s.stops.length:=⟨_,rfl⟩
 rw [<- hns] at hte
 subst hte
 have HNS:=O hns
 have hn3:n<=3000:=(Z HS).1.2.2.1
 have hk0:=(Z HOK).lo
 have hk1:=(Z HOK).hi
 obtain ⟨k,hk⟩:∃ k,k=s.at_:=⟨_,rfl⟩
 rw [<- hk] at hk0 hk1
 have HK:=O hk
 clear hk hns
 go_enter Tryz.func152,Tryz.ntmps152
 go_upto_region 1 with fail
 obtain ⟨w1,hw1⟩:∃ w1,w1=((w.alloc (.cells #[.int .i64 op,.int .i64 nn,.string name,.int .i64 kd,.int .i64 fn,.int .i64 line,.string sn] 47)).alloc tz0):=⟨_,rfl⟩
 rw [<- hw1] at A1 HB1 H1 ⊢
 clear hw1
 have HSS:Hid (∀ W,Below w1.heap.size w1 W->W.cell? ⟨b1,0,none⟩=some (.pointer (some ⟨sb,0,none⟩))/\W.cell? ⟨b2,0,none⟩=some (.int .i64 (q:Int))/\W.cell? ⟨sb,0,none⟩=some (.slice a2 n cap2)/\W.cell? ⟨sb,1,none⟩=some pv):=O (fun W hb=>⟨bG hb (bG (Z HB1) (Z HX1)),bG hb (bG (Z HB1) (Z HX2)),bG hb (Z H1).box.c0,bG hb (Z H1).box.c1⟩)
 have HC2:Hid (∀ W,Below w1.heap.size w1 W->W.cell? ⟨sb,2,none⟩=some (.int .i64 k)):=O (fun W hb=>by rw [Z HK];exact bG hb (Z H1).box.c2)
 refine wp_region_held_drew (S:=fun W=>W.cell? ⟨b1,0,none⟩=some (.pointer (some ⟨sb,0,none⟩))/\W.cell? ⟨b2,0,none⟩=some (.int .i64 (q:Int))/\W.cell? ⟨sb,0,none⟩=some (.slice a2 n cap2)/\W.cell? ⟨sb,1,none⟩=some pv) (by kernel_rfl) (Z HSS _ (Below.refl _ _).drew) (fun hHeld=>?_)
 refine tka 0 6 hHeld ?_
 refine tka 1 7 hHeld ?_
 refine tka 2 8 hHeld ?_
 refine tka 3 9 hHeld ?_
 refine tka 4 10 hHeld ?_
 refine tka 5 11 hHeld ?_
 refine tka 6 12 hHeld ?_
 refine tka 7 13 hHeld ?_
 refine tka 8 14 hHeld ?_
 refine tka 9 15 hHeld ?_
 refine tka 10 16 hHeld ?_
 refine tka 11 17 hHeld ?_
 refine tka 13 19 hHeld ?_
 refine rdy 12 fun KK hK=>?_
 have q2:=Z HC2 _ (Below.refl w1.heap.size w1).drew
 go_simp
 refine hK.out _ _ (Z HSS _ (Below.refl _ _).drew) (fun hHeld=>?_)
 clear hK KK q2
 try simp only [Act.put,sy]
 refine rdy 14 fun KK hK=>?_
 have hdr:=(Below.refl w1.heap.size w1).drew
 go_simp
 refine (Z HST lo lp _ _ nf fns n f k _ ((Z H2 _ ((Z HB1).mono hB)).below hdr) ((Z HP _ ((Z HB1).mono hB)).below hdr) (Z HS) hk0 hk1).mono ?_
 rintro e w2 ⟨⟨z,rfl,hz⟩,hbx⟩
 have hb2:Below w1.heap.size w1 w2:=hdr.trans hbx
 have HZ:=O hz
 have H2b:=O ((Z H1).below hb2)
 have A2:=O ((Z A1).go hb2)
 have HB2:=hT HB1 hb2
 refine hK.out _ _ (Z HSS _ hb2) (fun hHeld=>?_)
 clear hK KK hdr hbx hz
 try simp only [Act.put,sy]
 refine rdy 15 fun KK hK=>?_
 go_simp
 refine (rZ B sb _ pv _ uv D n f s z w2 (Z H2b) (by have:=Z HPL;omega) (Nat.le_trans hB (Z HB2).size)).mono ?_
 rintro e w3 ⟨rfl,⟨uv',hl3⟩,hb3,hk3⟩
 have A3:=O ((Z A2).same hk3)
 have HL3:=O hl3
 have HB3:=O (((Z HB2).mono hB).trans hb3)
 have HK3:=O ((bM.of_below (P:=dB) (Z HB2)).trans hk3)
 have HSA:Hid (w3.cell? ⟨b1,0,none⟩=some (.pointer (some ⟨sb,0,none⟩))/\w3.cell? ⟨b2,0,none⟩=some (.int .i64 (q:Int))/\w3.cell? ⟨sb,0,none⟩=some (.slice a2 n cap2)/\w3.cell? ⟨sb,1,none⟩=some pv):=O (⟨by rw [cell_of_row _ _ 0 _ _ _ ((Z HK3) _ _ _ _ (Z HY1) (by unfold dB;decide))];rfl,by rw [cell_of_row _ _ 0 _ _ _ ((Z HK3) _ _ _ _ (Z HY2) (by unfold dB;decide))];rfl,hl3.box.c0,hl3.box.c1⟩)
 refine hK.out _ _ (Z HSA) (fun hHeld=>?_)
 clear hK KK hb3 hb2 hk3 hl3
 try simp only [Act.put,sy]
 refine tka 16 22 hHeld ?_
 refine tka 17 23 hHeld ?_
 obtain ⟨⟨r0,r1,r2,r3,r4,r5⟩,x0,x1,x2,x3,x4,x5⟩:=(Z A3).rc
 refine rdy 18 fun KK hK=>?_
 go_simp
 have hst:bM (fun q=>q≠38) w3 (dA w3 (w.heap.size+1) 0 0 ⟨#[]⟩ (.slice none 0 0) (.slice none 0 0)):=fK (Z A3).rb (fun q=>q rfl)
 refine hK.out _ _ ⟨(show (dA w3 (w.heap.size+1) 0 0 ⟨#[]⟩ (.slice none 0 0) (.slice none 0 0)).cell? ⟨b1,0,none⟩=some (.pointer (some ⟨sb,0,none⟩)) from by rw [cell_of_row _ _ 0 _ _ _ (hst _ _ _ _ ((Z HK3) _ _ _ _ (Z HY1) (by unfold dB;decide)) (by decide))];rfl),(show (dA w3 (w.heap.size+1) 0 0 ⟨#[]⟩ (.slice none 0 0) (.slice none 0 0)).cell? ⟨b2,0,none⟩=some (.int .i64 (q:Int)) from by rw [cell_of_row _ _ 0 _ _ _ (hst _ _ _ _ ((Z HK3) _ _ _ _ (Z HY2) (by unfold dB;decide)) (by decide))];rfl),(((Z HL3).box.same hst (by decide))).c0,(((Z HL3).box.same hst (by decide))).c1⟩ (fun hHeld=>?_)
 clear hK KK hst
 try simp only [Act.put,sy]
 refine tka 19 5 hHeld ?_
 refine wpAnyH_done (by kernel_rfl) ?_ _
 clear hHeld
 go_wp2
 refine bodyPost_ret (v:=.tuple #[.agg #[.int .i64 0,.int .i64 0,.int .i64 0,.string ⟨#[]⟩,.slice none 0 0,.slice none 0 0],.nilIface]) (by simp [results,Tryz.results152,go_sem,r0,r1,r2,r3,r4,r5]) rfl ?_
 exact cX (bU.move (z:=z) (Z HO) (.inl hop) (Z HMV _ (by rw [<- Z HK];exact Z HZ))) (.inl ⟨rfl,rfl,rfl,rfl⟩) (Z HL3) (Z A3) (cD _ _) (dD.nil _ _) (Z HB3) (Z HK3) hB
theorem stepInto_any (B sb lo lp:Nat) (mv pv tv uv:Value) (D:Nat->Value) (nf:Nat) (fns:Nat->ByteArray) (n:Nat) (f:Nat->M) (s:LS) (nn:Int) (name:ByteArray) (kd fn line:Int) (sn:ByteArray) (w:World) (h:SS B w sb mv pv n f s tv uv D) (h2:∀ W,Below B w W->bQ lo W mv n f) (hp:∀ W,Below B w W->bW lp W pv n f) (hs:cB nf fns n f) (hok:gF n s) (hpl:s.past.length<=10000) (hB:B<=w.heap.size) (ho:cL (⟨5,nn,name,⟨kd,fn,line,sn⟩⟩:Ak)) (b1 b2:Nat) (g1:w.heap[b1]?=some (.cells #[.pointer (some ⟨sb,0,none⟩)] 87 (0,0))) (g2:w.heap[b2]?=some (.cells #[.int .i64 0] 3 (0,0))) :
  Calls Tryz.prog 152 #[.agg #[.int .i64 5,.int .i64 nn,.string name,.int .i64 kd,.int .i64 fn,.int .i64 line,.string sn],.pointer (some ⟨b1,0,none⟩),.pointer (some ⟨b2,0,none⟩)] w fun e w'=>pK B sb mv pv n f D s (⟨5,nn,name,⟨kd,fn,line,sn⟩⟩:Ak) w e w' :=
 bA4 0 5 ⟨by decide,by decide⟩ (fun lo lp mv pv nf fns n f k w a b c d e=>bN0 lo lp mv pv nf fns n f k w a b c d e) B sb lo lp mv pv tv uv D nf fns n f s nn name kd fn line sn w h h2 hp hs hok hpl hB ho b1 b2 g1 g2 (fun z hz=>by unfold gM;rw [if_neg (by show ¬ (5:Int)=3;omega),if_neg (by show ¬ (5:Int)=4;omega),if_pos rfl];exact hz)
theorem stepOver_any (B sb lo lp:Nat) (mv pv tv uv:Value) (D:Nat->Value) (nf:Nat) (fns:Nat->ByteArray) (n:Nat) (f:Nat->M) (s:LS) (nn:Int) (name:ByteArray) (kd fn line:Int) (sn:ByteArray) (w:World) (h:SS B w sb mv pv n f s tv uv D) (h2:∀ W,Below B w W->bQ lo W mv n f) (hp:∀ W,Below B w W->bW lp W pv n f) (hs:cB nf fns n f) (hok:gF n s) (hpl:s.past.length<=10000) (hB:B<=w.heap.size) (ho:cL (⟨6,nn,name,⟨kd,fn,line,sn⟩⟩:Ak)) (b1 b2:Nat) (g1:w.heap[b1]?=some (.cells #[.pointer (some ⟨sb,0,none⟩)] 87 (0,0))) (g2:w.heap[b2]?=some (.cells #[.int .i64 1] 3 (0,0))) :
  Calls Tryz.prog 152 #[.agg #[.int .i64 6,.int .i64 nn,.string name,.int .i64 kd,.int .i64 fn,.int .i64 line,.string sn],.pointer (some ⟨b1,0,none⟩),.pointer (some ⟨b2,0,none⟩)] w fun e w'=>pK B sb mv pv n f D s (⟨6,nn,name,⟨kd,fn,line,sn⟩⟩:Ak) w e w' :=
 bA4 1 6 ⟨by decide,by decide⟩ (fun lo lp mv pv nf fns n f k w a b c d e=>bN1 lo lp mv pv nf fns n f k w a b c d e) B sb lo lp mv pv tv uv D nf fns n f s nn name kd fn line sn w h h2 hp hs hok hpl hB ho b1 b2 g1 g2 (fun z hz=>by unfold gM;rw [if_neg (by show ¬ (6:Int)=3;omega),if_neg (by show ¬ (6:Int)=4;omega),if_neg (by show ¬ (6:Int)=5;omega),if_pos rfl];exact hz)
theorem stepOut_any (B sb lo lp:Nat) (mv pv tv uv:Value) (D:Nat->Value) (nf:Nat) (fns:Nat->ByteArray) (n:Nat) (f:Nat->M) (s:LS) (nn:Int) (name:ByteArray) (kd fn line:Int) (sn:ByteArray) (w:World) (h:SS B w sb mv pv n f s tv uv D) (h2:∀ W,Below B w W->bQ lo W mv n f) (hp:∀ W,Below B w W->bW lp W pv n f) (hs:cB nf fns n f) (hok:gF n s) (hpl:s.past.length<=10000) (hB:B<=w.heap.size) (ho:cL (⟨7,nn,name,⟨kd,fn,line,sn⟩⟩:Ak)) (b1 b2:Nat) (g1:w.heap[b1]?=some (.cells #[.pointer (some ⟨sb,0,none⟩)] 87 (0,0))) (g2:w.heap[b2]?=some (.cells #[.int .i64 2] 3 (0,0))) :
  Calls Tryz.prog 152 #[.agg #[.int .i64 7,.int .i64 nn,.string name,.int .i64 kd,.int .i64 fn,.int .i64 line,.string sn],.pointer (some ⟨b1,0,none⟩),.pointer (some ⟨b2,0,none⟩)] w fun e w'=>pK B sb mv pv n f D s (⟨7,nn,name,⟨kd,fn,line,sn⟩⟩:Ak) w e w' :=
 bA4 2 7 ⟨by decide,by decide⟩ (fun lo lp mv pv nf fns n f k w a b c d e=>bN2 lo lp mv pv nf fns n f k w a b c d e) B sb lo lp mv pv tv uv D nf fns n f s nn name kd fn line sn w h h2 hp hs hok hpl hB ho b1 b2 g1 g2 (fun z hz=>by unfold gM;rw [if_neg (by show ¬ (7:Int)=3;omega),if_neg (by show ¬ (7:Int)=4;omega),if_neg (by show ¬ (7:Int)=5;omega),if_neg (by show ¬ (7:Int)=6;omega),if_pos rfl];exact hz)
theorem goTo_any (B sb lo lp:Nat) (mv pv tv uv:Value) (D:Nat->Value) (nf:Nat) (fns:Nat->ByteArray) (n:Nat) (f:Nat->M) (s:LS) (nn:Int) (name:ByteArray) (kd fn line:Int) (sn:ByteArray) (w:World) (h:SS B w sb mv pv n f s tv uv D) (h2:∀ W,Below B w W->bQ lo W mv n f) (hp:∀ W,Below B w W->bW lp W pv n f) (hs:cB nf fns n f) (hok:gF n s) (hpl:s.past.length<=10000) (hB:B<=w.heap.size) (ho:cL (⟨9,nn,name,⟨kd,fn,line,sn⟩⟩:Ak)) :
  Calls Tryz.prog 110 #[.pointer (some ⟨sb,0,none⟩),.agg #[.int .i64 9,.int .i64 nn,.string name,.int .i64 kd,.int .i64 fn,.int .i64 line,.string sn]] w fun e w'=>pK B sb mv pv n f D s (⟨9,nn,name,⟨kd,fn,line,sn⟩⟩:Ak) w e w':=by
 have H:=O h
 have H2:=O h2
 have HP:=O hp
 have HS:=O hs
 have HOK:=O hok
 have HPL:=O hpl
 have HO:=O ho
 have A1:=O (DB.new w (⟨9,nn,name,⟨kd,fn,line,sn⟩⟩:Ak))
 have HB1:Hid (Below w.heap.size w ((w.alloc (.cells #[.int .i64 9,.int .i64 nn,.string name,.int .i64 kd,.int .i64 fn,.int .i64 line,.string sn] 47)).alloc tz0)):=O ((bH w (.cells #[.int .i64 9,.int .i64 nn,.string name,.int .i64 kd,.int .i64 fn,.int .i64 line,.string sn] 47)).alloc (by simp) tz0)
 have H1:=O ((Z H).below (Z HB1))
 clear h h2 hp hs hok hpl
 obtain ⟨a2,cap2,e2,hn2,-⟩:=Z H2 _ ((Z HB1).mono hB)
 subst e2
 clear hn2
 obtain ⟨ta,tc,hte⟩:=(Z H).tslice
 obtain ⟨ns,hns⟩:∃ ns,ns=s.stops.length:=⟨_,rfl⟩
 rw [<- hns] at hte
 subst hte
 have HNS:=O hns
 have hn3:n<=3000:=(Z HS).1.2.2.1
 have hk0:=(Z HOK).lo
 have hk1:=(Z HOK).hi
 obtain ⟨k,hk⟩:∃ k,k=s.at_:=⟨_,rfl⟩
 rw [<- hk] at hk0 hk1
 have HK:=O hk
 clear hk hns
 go_enter Tryz.func110,Tryz.ntmps110
 go_upto_region 1 with fail
 obtain ⟨w1,hw1⟩:∃ w1,w1=((w.alloc (.cells #[.int .i64 9,.int .i64 nn,.string name,.int .i64 kd,.int .i64 fn,.int .i64 line,.string sn] 47)).alloc tz0):=⟨_,rfl⟩
 rw [<- hw1] at A1 HB1 H1 ⊢
 clear hw1
 have c0:=(Z H1).box.c0
 have a1:w1.cell? ⟨w.heap.size,1,none⟩=some (.int .i64 nn):=(Z A1).a1
 by_cases hgt:(n:Int)<nn
 ·have HGT:=O hgt
  go_quiet (fail)
  generalize hW2:w1.drewN _=w2
  have hb2:Below w1.heap.size w1 w2:=by rw [<- hW2];exact bP _ _
  have A2:=O ((Z A1).go hb2)
  have HL2:=O ((Z H1).below hb2)
  have HB2:=hT HB1 hb2
  clear hb2 hW2 c0 a1
  obtain ⟨⟨r0,r1,r2,r3,r4,r5⟩,x0,x1,x2,x3,x4,x5⟩:=(Z A2).rc
  go_wp2
  refine bodyPost_ret (v:=.tuple #[.agg #[.int .i64 0,.int .i64 0,.int .i64 0,.string ⟨#[]⟩,.slice none 0 0,.slice none 0 0],.iface 180 (.agg #[.int .i64 4])]) (by simp [results,Tryz.results110,go_sem,r0,r1,r2,r3,r4,r5]) rfl ?_
  exact cX (bU.to4 (Z HO) rfl (Z HGT)) (.inr ⟨rfl,by show (4:Int)≠0;omega,rfl⟩) (Z HL2) (Z A2) (cD _ _) (dD.nil _ _) ((Z HB2).mono hB) (bM.of_below (Z HB2)) hB
 have hgt':decide ((n:Int)<nn)=false:=by simpa using hgt
 have HGT:=O hgt
 clear hgt
 go_quiet (fail)
 generalize hW2:w1.drewN _=w2
 have hb2:Below w1.heap.size w1 w2:=by rw [<- hW2];exact bP _ _
 have A2:=O ((Z A1).go hb2)
 have HL2:=O ((Z H1).below hb2)
 have HB2:=hT HB1 hb2
 clear hb2 hW2 c0 a1
 have a1:w2.cell? ⟨w.heap.size,1,none⟩=some (.int .i64 nn):=(Z A2).a1
 go_wp2_with fail
 refine (rZ B sb _ pv _ uv D n f s nn w2 (Z HL2) (by have:=Z HPL;omega) (Nat.le_trans hB (Z HB2).size)).mono ?_
 rintro e w3 ⟨rfl,⟨uv',hl3⟩,hb3,hk3⟩
 have A3:=O ((Z A2).same hk3)
 have HL3:=O hl3
 have HB3:=O (((Z HB2).mono hB).trans hb3)
 have HK3:=O ((bM.of_below (P:=dB) (Z HB2)).trans hk3)
 clear hl3 hb3 hk3 a1
 obtain ⟨⟨r0,r1,r2,r3,r4,r5⟩,x0,x1,x2,x3,x4,x5⟩:=(Z A3).rc
 go_wp2
 refine bodyPost_ret (v:=.tuple #[.agg #[.int .i64 0,.int .i64 0,.int .i64 0,.string ⟨#[]⟩,.slice none 0 0,.slice none 0 0],.nilIface]) (by simp [results,Tryz.results110,go_sem,r0,r1,r2,r3,r4,r5]) rfl ?_
 exact cX (bU.move (z:=nn) (Z HO) (.inr ⟨rfl,by show nn<=(n:Int);have:=Z HGT;omega⟩) (by unfold gM;rw [if_neg (by show ¬ (9:Int)=3;omega),if_neg (by show ¬ (9:Int)=4;omega),if_neg (by show ¬ (9:Int)=5;omega),if_neg (by show ¬ (9:Int)=6;omega),if_neg (by show ¬ (9:Int)=7;omega)])) (.inl ⟨rfl,rfl,rfl,rfl⟩) (Z HL3) (Z A3) (cD _ _) (dD.nil _ _) (Z HB3) (Z HK3) hB
theorem moveTo1_any (sb fb qb:Nat) (x old:Int) (w:World) (h1:w.heap[fb]?=some (.cells #[.int .i64 x] 3 (0,0))) (h2:w.heap[qb]?=some (.cells #[.pointer (some ⟨sb,0,none⟩)] 87 (0,0))) (h3:w.cell? ⟨sb,2,none⟩=some (.int .i64 old)) (h4:w.frozen? ⟨sb,2,none⟩=false) :
  Calls Tryz.prog 187 #[.pointer (some ⟨fb,0,none⟩),.pointer (some ⟨qb,0,none⟩)] w fun e w'=>e=.returned (.tuple #[])/\w'=w.setCell ⟨sb,2,none⟩ (.int .i64 x):=by
 have c1:w.cell? ⟨fb,0,none⟩=some (.int .i64 x):=by rw [cell_of_row _ _ 0 _ _ _ h1];rfl
 have c2:w.cell? ⟨qb,0,none⟩=some (.pointer (some ⟨sb,0,none⟩)):=by rw [cell_of_row _ _ 0 _ _ _ h2];rfl
 clear h1 h2
 go_enter Tryz.func187,Tryz.ntmps187
 go_wp2
 go_end0
 exact ⟨rfl,rfl⟩
theorem undo_any (B sb lo lp:Nat) (mv pv tv uv:Value) (D:Nat->Value) (nf:Nat) (fns:Nat->ByteArray) (n:Nat) (f:Nat->M) (s:LS) (nn:Int) (name:ByteArray) (kd fn line:Int) (sn:ByteArray) (w:World) (h:SS B w sb mv pv n f s tv uv D) (h2:∀ W,Below B w W->bQ lo W mv n f) (hp:∀ W,Below B w W->bW lp W pv n f) (hs:cB nf fns n f) (hok:gF n s) (hpl:s.past.length<=10000) (hB:B<=w.heap.size) (ho:cL (⟨8,nn,name,⟨kd,fn,line,sn⟩⟩:Ak)) :
  Calls Tryz.prog 109 #[.pointer (some ⟨sb,0,none⟩),.agg #[.int .i64 8,.int .i64 nn,.string name,.int .i64 kd,.int .i64 fn,.int .i64 line,.string sn]] w fun e w'=>pK B sb mv pv n f D s (⟨8,nn,name,⟨kd,fn,line,sn⟩⟩:Ak) w e w':=by
 have H:=O h
 have H2:=O h2
 have HP:=O hp
 have HS:=O hs
 have HOK:=O hok
 have HPL:=O hpl
 have HO:=O ho
 have A1:=O (DB.new w (⟨8,nn,name,⟨kd,fn,line,sn⟩⟩:Ak))
 have HB1:Hid (Below w.heap.size w ((w.alloc (.cells #[.int .i64 8,.int .i64 nn,.string name,.int .i64 kd,.int .i64 fn,.int .i64 line,.string sn] 47)).alloc tz0)):=O ((bH w (.cells #[.int .i64 8,.int .i64 nn,.string name,.int .i64 kd,.int .i64 fn,.int .i64 line,.string sn] 47)).alloc (by simp) tz0)
 have H1:=O ((Z H).below (Z HB1))
 clear h h2 hp hs hok hpl
 obtain ⟨ua,uc,hue⟩:=(Z H).uslice
 obtain ⟨m,hm⟩:∃ m,m=s.past.length:=⟨_,rfl⟩
 rw [<- hm] at hue
 subst hue
 have HM:=O hm
 have hm1:m<=10000:=by rw [hm];exact Z HPL
 clear hm
 have hlt:=(Z H).lt
 go_enter Tryz.func109,Tryz.ntmps109
 go_upto_region 1 with fail
 obtain ⟨w1,hw1⟩:∃ w1,w1=((w.alloc (.cells #[.int .i64 8,.int .i64 nn,.string name,.int .i64 kd,.int .i64 fn,.int .i64 line,.string sn] 47)).alloc tz0):=⟨_,rfl⟩
 rw [<- hw1] at A1 HB1 H1 ⊢
 clear hw1
 have c4:=(Z H1).box.c4
 have wj:IntKind.i64.wrap ((m:Int) - 1)=(m:Int) - 1:=by rw [IntKind.wrap_i64];omega
 by_cases h0:m=0
 ·have HE:Hid (s.past=[]):=O (List.length_eq_zero_iff.1 (by rw [<- Z HM];exact h0))
  have hneg:decide ((m:Int) - 1<0)=true:=by simp;omega
  have hneg':(m:Int) - 1<0:=by omega
  clear h0
  obtain ⟨⟨r0,r1,r2,r3,r4,r5⟩,x0,x1,x2,x3,x4,x5⟩:=(Z A1).rc
  go_wp2
  refine bodyPost_ret (v:=.tuple #[.agg #[.int .i64 0,.int .i64 0,.int .i64 0,.string ⟨#[]⟩,.slice none 0 0,.slice none 0 0],.iface 180 (.agg #[.int .i64 4])]) (by simp [results,Tryz.results109,go_sem,r0,r1,r2,r3,r4,r5]) rfl ?_
  exact cX (bU.undo4 (Z HO) rfl (Z HE)) (.inr ⟨rfl,by show (4:Int)≠0;omega,rfl⟩) (Z H1) (Z A1) (cD _ _) (dD.nil _ _) ((Z HB1).mono hB) (bM.of_below (Z HB1)) hB
 obtain ⟨j,rfl⟩:∃ j,m=j+1:=⟨m - 1,by omega⟩
 have wj':IntKind.i64.wrap (((j+1:Nat):Int) - 1)=(j:Int):=by rw [IntKind.wrap_i64];omega
 have hneg:decide ((j:Int)<0)=false:=by simp
 have hneg':¬ (j:Int)<0:=by omega
 have j0:(0:Int)<=(j:Int):=by omega
 have j1:(j:Int)<((j+1:Nat):Int):=by omega
 have hjl:j<s.past.length:=by rw [<- Z HM];omega
 obtain ⟨x,hx⟩:∃ x,s.past[j]?=some x:=⟨_,List.getElem?_eq_getElem hjl⟩
 have HX:Hid (s.past.getLast?=some x):=O (by rw [List.getLast?_eq_getElem?,<- Z HM];exact hx)
 obtain ⟨us,hus,hun⟩:=(Z H1).undos
 rw [<- Z HM] at hus
 obtain ⟨v,hv,fb,qb,rfl,hf,hq⟩:=hun j x hx
 obtain ⟨g,cap,eg,hBg,hcm,hcn⟩:=pE hus (by omega)
 cases eg
 have q0:=(bL hus j _ hv).1
 have HUS:=O hus
 have HUN:=O hun
 have HF:=O hf
 have HQ:=O hq
 have j2:(j:Int)<=(uc:Int):=by omega
 clear hus hun hf hq hx hv h0 wj
 unfold maxLen at hcm
 go_wp2_with fail
 refine (moveTo1_any sb fb qb x _ _ (Z HF) (Z HQ) (Z H1).box.c2 ((Z H1).box.fz 2)).mono ?_
 rintro e w2 ⟨rfl,rfl⟩
 have HL2:=O ((Z H1).setAt x)
 obtain ⟨cs,hh⟩:=(Z H1).box.block
 have SK2:Hid (bM dB w1 (w1.setCell ⟨sb,2,none⟩ (.int .i64 x))):=O (bM.set hh dB.no)
 have SX2:Hid (bM (fun t=>t≠176) w1 (w1.setCell ⟨sb,2,none⟩ (.int .i64 x))):=O (bM.set hh (fun q=>q rfl))
 have A2:=O ((Z A1).same (Z SK2))
 have HB2:Hid (Below B w (w1.setCell ⟨sb,2,none⟩ (.int .i64 x))):=O (((Z HB1).mono hB).setCell (p:=⟨sb,2,none⟩) (Z H).sbB _)
 have HUS2:=O (cK (Z HUS) (Z SX2) (by decide))
 have HUN2:Hid (∀ (i:Nat) (y:Int),s.past[i]?=some y->∃ v,us[i]?=some v/\bL0 (w1.setCell ⟨sb,2,none⟩ (.int .i64 x)) v sb y):=O (fun i y hy=>by obtain ⟨v,e,hu⟩:=Z HUN i y hy;exact ⟨v,e,hu.same (Z SX2) (by decide) (by decide)⟩)
 obtain ⟨w2,hw2⟩:∃ w2,w2=w1.setCell ⟨sb,2,none⟩ (.int .i64 x):=⟨_,rfl⟩
 rw [<- hw2] at HL2 SK2 SX2 A2 HB2 HUS2 HUN2 ⊢
 clear hw2 hh c4 q0
 have c4:=(Z HL2).box.c4
 have f4:=(Z HL2).box.fz 4
 have HL3:Hid (SS B (w2.setCell ⟨sb,4,none⟩ (.slice (some ⟨g,0,none⟩) j uc)) sb mv pv n f ⟨x,s.stops,s.past.dropLast⟩ tv (.slice (some ⟨g,0,none⟩) j uc) D):=O ((Z HL2).setUndos (p:=s.past.dropLast) (by
  have e1:s.past.dropLast.length=j:=by rw [List.length_dropLast,<- Z HM];rfl
  obtain ⟨hsh,-⟩:=bH5 (v:=.slice none 0 0) (Z HUS2) (Nat.le_succ j)
  refine ⟨us.take j,by rw [e1];exact hsh,fun i y hy=>?_⟩
  have hij:i<j:=by
   rcases Nat.lt_or_ge i j with q | q
   ·exact q
   rw [List.getElem?_eq_none (by rw [e1];exact q)] at hy;cases hy
  rw [List.getElem?_dropLast,if_pos (by rw [<- Z HM];omega)] at hy
  obtain ⟨v,ev,hu⟩:=Z HUN2 i y hy
  exact ⟨v,by rw [List.getElem?_take,if_pos hij];exact ev,hu⟩))
 have SK3:Hid (bM dB w2 (w2.setCell ⟨sb,4,none⟩ (.slice (some ⟨g,0,none⟩) j uc))):=O (by obtain ⟨cs,hh⟩:=(Z HL2).box.block;exact bM.set hh dB.no)
 have A3:=O ((Z A2).same (Z SK3))
 have hl1:sb≠w.heap.size+1:=by omega
 have hl2:w.heap.size+1≠sb:=by omega
 obtain ⟨⟨r0,r1,r2,r3,r4,r5⟩,x0,x1,x2,x3,x4,x5⟩:=(Z A2).rc
 go_wp2
 refine bodyPost_ret (v:=.tuple #[.agg #[.int .i64 0,.int .i64 0,.int .i64 0,.string ⟨#[]⟩,.slice none 0 0,.slice none 0 0],.nilIface]) (by simp [results,Tryz.results109,go_sem,r0,r1,r2,r3,r4,r5]) rfl ?_
 exact cX (bU.undo (Z HO) rfl (Z HX)) (.inl ⟨rfl,rfl,rfl,rfl⟩) (Z HL3) (Z A3) (cD _ _) (dD.nil _ _) ((Z HB2).setCell (p:=⟨sb,4,none⟩) (Z H).sbB _) (((bM.of_below (P:=dB) (Z HB1)).trans (Z SK2)).trans (Z SK3)) hB
end
section
open Go.RowKit
theorem addStop_any (B sb lo lp:Nat) (mv pv tv uv:Value) (D:Nat->Value) (nf:Nat) (fns:Nat->ByteArray) (n:Nat) (f:Nat->M) (s:LS) (nn:Int) (name:ByteArray) (kd fn line:Int) (sn:ByteArray) (w:World) (h:SS B w sb mv pv n f s tv uv D) (h2:∀ W,Below B w W->bQ lo W mv n f) (hp:∀ W,Below B w W->bW lp W pv n f) (hs:cB nf fns n f) (hok:gF n s) (hpl:s.past.length<=10000) (hB:B<=w.heap.size) (ho:cL (⟨1,nn,name,⟨kd,fn,line,sn⟩⟩:Ak)) :
  Calls Tryz.prog 104 #[.pointer (some ⟨sb,0,none⟩),.agg #[.int .i64 1,.int .i64 nn,.string name,.int .i64 kd,.int .i64 fn,.int .i64 line,.string sn]] w fun e w'=>pK B sb mv pv n f D s (⟨1,nn,name,⟨kd,fn,line,sn⟩⟩:Ak) w e w':=by
 have H:=O h
 have H2:=O h2
 have HP:=O hp
 have HS:=O hs
 have HOK:=O hok
 have HPL:=O hpl
 have HO:=O ho
 have A1:=O (DB.new w (⟨1,nn,name,⟨kd,fn,line,sn⟩⟩:Ak))
 have HB1:Hid (Below w.heap.size w ((w.alloc (.cells #[.int .i64 1,.int .i64 nn,.string name,.int .i64 kd,.int .i64 fn,.int .i64 line,.string sn] 47)).alloc tz0)):=O ((bH w (.cells #[.int .i64 1,.int .i64 nn,.string name,.int .i64 kd,.int .i64 fn,.int .i64 line,.string sn] 47)).alloc (by simp) tz0)
 have H1:=O ((Z H).below (Z HB1))
 clear h h2 hp hs hok hpl
 obtain ⟨ta,tc,hte⟩:=(Z H).tslice
 obtain ⟨ns,hns⟩:∃ ns,ns=s.stops.length:=⟨_,rfl⟩
 rw [<- hns] at hte
 subst hte
 have HNS:=O hns
 have hn50:ns<=50:=by rw [hns];exact (Z HOK).st
 clear hns
 have hlt:=(Z H).lt
 go_enter Tryz.func104,Tryz.ntmps104
 go_upto_region 1 with fail
 obtain ⟨w1,hw1⟩:∃ w1,w1=((w.alloc (.cells #[.int .i64 1,.int .i64 nn,.string name,.int .i64 kd,.int .i64 fn,.int .i64 line,.string sn] 47)).alloc tz0):=⟨_,rfl⟩
 rw [<- hw1] at A1 HB1 H1 ⊢
 clear hw1
 have c3:=(Z H1).box.c3
 by_cases h50:ns=50
 ·have hb50:decide ((50:Int)<=(ns:Int))=true:=by rw [h50];rfl
  have hb50':(50:Int)<=(ns:Int):=by omega
  have HE:Hid (s.stops.length=50):=O (by rw [<- Z HNS];exact h50)
  clear h50
  obtain ⟨⟨r0,r1,r2,r3,r4,r5⟩,x0,x1,x2,x3,x4,x5⟩:=(Z A1).rc
  go_wp2
  refine bodyPost_ret (v:=.tuple #[.agg #[.int .i64 0,.int .i64 0,.int .i64 0,.string ⟨#[]⟩,.slice none 0 0,.slice none 0 0],.iface 180 (.agg #[.int .i64 2])]) (by simp [results,Tryz.results104,go_sem,r0,r1,r2,r3,r4,r5]) rfl ?_
  exact cX (bU.stop50 (Z HO) rfl (Z HE)) (.inr ⟨rfl,by show (2:Int)≠0;omega,rfl⟩) (Z H1) (Z A1) (cD _ _) (dD.nil _ _) ((Z HB1).mono hB) (bM.of_below (Z HB1)) hB
 have hb50:decide ((50:Int)<=(ns:Int))=false:=by simp;omega
 have hb50':¬ (50:Int)<=(ns:Int):=by omega
 obtain ⟨i0,hi0,hz0,hz1,hz2⟩:=info_parts bQ0
 have II:=O (And.intro hi0 (And.intro hz0 (And.intro hz1 hz2)));clear hi0 hz0 hz1 hz2
 obtain ⟨vs,hrow,hbo⟩:=(Z H1).tests
 rw [<- Z HNS] at hrow hbo
 have HROW:=O hrow
 have HBO:=O hbo
 clear hrow hbo
 have HSS:Hid (∀ W,Below w1.heap.size w1 W->W.cell? ⟨sb,0,none⟩=some mv/\W.cell? ⟨sb,1,none⟩=some pv/\W.cell? ⟨w.heap.size,3,none⟩=some (.int .i64 kd)/\W.cell? ⟨w.heap.size,4,none⟩=some (.int .i64 fn)/\W.cell? ⟨w.heap.size,5,none⟩=some (.int .i64 line)/\W.cell? ⟨w.heap.size,6,none⟩=some (.string sn)):=O (fun W hb=>⟨bG hb (Z H1).box.c0,bG hb (Z H1).box.c1,bG hb (Z A1).a3,bG hb (Z A1).a4,bG hb (Z A1).a5,bG hb (Z A1).a6⟩)
 have HC3:Hid (∀ W,Below w1.heap.size w1 W->W.cell? ⟨sb,3,none⟩=some (.slice ta ns tc)):=O (fun W hb=>bG hb (Z H1).box.c3)
 go_upto_region 3 with fail
 clear c3
 refine wp_region_held_drew (S:=fun W=>W.cell? ⟨sb,0,none⟩=some mv/\W.cell? ⟨sb,1,none⟩=some pv/\W.cell? ⟨w.heap.size,3,none⟩=some (.int .i64 kd)/\W.cell? ⟨w.heap.size,4,none⟩=some (.int .i64 fn)/\W.cell? ⟨w.heap.size,5,none⟩=some (.int .i64 line)/\W.cell? ⟨w.heap.size,6,none⟩=some (.string sn)) (by kernel_rfl) (Z HSS _ (Below.refl _ _).drew) (fun hHeld=>?_)
 refine tka 0 15 hHeld ?_
 refine tka 1 16 hHeld ?_
 refine tka 2 17 hHeld ?_
 refine tka 3 18 hHeld ?_
 refine tka 5 20 hHeld ?_
 refine tka 6 21 hHeld ?_
 refine tka 7 22 hHeld ?_
 refine tka 8 23 hHeld ?_
 refine tka 9 24 hHeld ?_
 refine tka 10 25 hHeld ?_
 refine tka 11 26 hHeld ?_
 refine tka 12 27 hHeld ?_
 refine tka 13 28 hHeld ?_
 refine tka 14 29 hHeld ?_
 have HB0:=O ((Below.refl w1.heap.size w1).drew)
 refine wpAnyH_ready (rs:=[4,15]) (by kernel_rfl) (by simp) ?_
 refine AllReadyH.cons rfl (fun KK hK=>?_) (AllReadyH.cons rfl (fun KK hK=>?_) AllReadyH.nil)
 ·have q3:=Z HC3 _ (Z HB0)
  go_simp
  refine hK.out _ _ (Z HSS _ (Z HB0)) (fun hHeld=>?_)
  clear hK KK q3
  try simp only [Act.put,sy]
  refine rdy 15 fun KK hK=>?_
  go_simp
  refine (bH0 lo lp _ _ nf fns n f ⟨kd,fn,line,sn⟩ _ ((Z H2 _ ((Z HB1).mono hB)).below (Z HB0)) ((Z HP _ ((Z HB1).mono hB)).below (Z HB0)) (Z HS) (tW.1 (Z HO)).2.2).mono ?_
  rintro e w2 ⟨⟨v,rfl,hbo⟩,hbx⟩
  obtain ⟨gf,lf,rfl⟩:=hbo.form
  have hb2:Below w1.heap.size w1 w2:=(Z HB0).trans hbx
  have HB2:=O hb2
  have HN1:=O hbo
  have HB3:Hid (Below w1.heap.size w1 (w2.alloc (.cells #[.func (.func gf) #[] lf] 228))):=O (hb2.trans ((bH w2 _).mono hb2.size))
  refine hK.out _ _ (Z HSS _ hb2) (fun hHeld=>?_)
  clear hK KK hb2 hbo hbx
  try simp only [Act.put,sy]
  refine rdy 16 fun KK hK=>?_
  go_simp
  refine hK.out _ _ (Z HSS _ (Z HB3)) (fun hHeld=>?_)
  clear hK KK
  try simp only [Act.put,sy]
  have hrw:=bN (Z HROW) (Z HB3)
  refine rdy 17 fun KK hK=>?_
  refine step_append_lies _ (by rfl) _ _ _ (by rfl) B 228 i0 _ 1 8 Tryz.underlying169 (Z II).1 (Z II).2.1 (Z II).2.2.1 (Z II).2.2.2 rfl (by omega) (.slice ta ns tc) ns _ (by rfl) hrw
   ⟨w2.heap.size,0,none⟩ 1 1 [.func (.func gf) #[] lf] (by rfl) (by rfl) (World.news_of_block (cs:=#[.func (.func gf) #[] lf]) (t:=228) (fr:=(0,0)) (heap_alloc_new w2 _)) (by simp [Value.oneCell'])
   (by omega) (by unfold maxLen;omega) (by omega) (by have:=(Z HB3).size;have:=(Z HB1).size;omega) _ rfl ?_
  intro g2 cp2 w7 hown hgrow _ _
  have s7:bM (fun t=>t≠228) (w2.alloc (.cells #[.func (.func gf) #[] lf] 228)) w7:=bM.grown hrw hgrow (fun q=>q rfl)
  have s71:bM (fun t=>t≠228) w1 w7:=(bM.of_below (Z HB3)).trans s7
  have b7:Below B w w7:=(((Z HB1).mono hB).trans ((Z HB3).mono (Nat.le_trans hB (Z HB1).size))).grown hgrow (by have:=(Z HB3).size;have:=(Z HB1).size;omega) (fun b e=>(eM hrw b e).1)
  have HX7:=O ((Z H1).box.same s71 (by decide))
  have HU7:=O ((Z H1).undos.same s71 (by decide) (by decide) (by decide))
  have HT7:Hid (fU B w7 (.slice (some ⟨g2,0,none⟩) (ns+1) cp2) mv (ns+1) n f (LS.ss ⟨s.at_,s.stops ++ [⟨kd,fn,line,sn⟩],s.past⟩)):=O ⟨fun i=>if i=ns then .func (.func gf) #[] lf else vs i,by rw [xL];exact hown,fun i hi=>by
   by_cases q:i=ns
   ·subst q
    dsimp only
    rw [if_pos rfl]
    have e2:=(kP (s:=s) (st:=⟨kd,fn,line,sn⟩)).2
    rw [<- Z HNS] at e2
    rw [e2]
    exact ((Z HN1).below (bH w2 _)).same s7 (by decide) (by decide) (by decide) (by decide)
   dsimp only
   rw [if_neg q,kP.1 i (by rw [<- Z HNS];omega)]
   exact (((Z HBO) i (by omega)).below (Z HB3)).same s7 (by decide) (by decide) (by decide) (by decide)⟩
  have HL:Hid (SS B (w7.setCell ⟨sb,3,none⟩ (.slice (some ⟨g2,0,none⟩) (ns+1) cp2)) sb mv pv n f ⟨s.at_,s.stops ++ [⟨kd,fn,line,sn⟩],s.past⟩ (.slice (some ⟨g2,0,none⟩) (ns+1) cp2) uv D):=O (by
   obtain ⟨cs,hh⟩:=(Z HX7).block
   have hs7:bM (fun t=>t≠176) w7 (w7.setCell ⟨sb,3,none⟩ (.slice (some ⟨g2,0,none⟩) (ns+1) cp2)):=bM.set hh (fun q=>q rfl)
   have el:(s.stops ++ [(⟨kd,fn,line,sn⟩:Sp)]).length=ns+1:=by rw [List.length_append,<- Z HNS];rfl
   exact ⟨(Z HX7).set3 _,by rw [el];exact (Z HT7).same hs7 (by decide) (by decide) (by decide) (by decide) (by decide),(Z HU7).same hs7 (by decide) (by decide) (by decide),(Z H).sbB⟩)
  have HS7:Hid (bM dB w1 w7):=O (s71.mono (fun t q=>q.2.1))
  have HSA:Hid (bM dB w1 (w7.setCell ⟨sb,3,none⟩ (.slice (some ⟨g2,0,none⟩) (ns+1) cp2))):=O ((Z HS7).trans (by obtain ⟨cs,hh⟩:=(Z HX7).block;exact bM.set hh dB.no))
  have HBL:Hid (Below B w (w7.setCell ⟨sb,3,none⟩ (.slice (some ⟨g2,0,none⟩) (ns+1) cp2))):=O (b7.setCell (p:=⟨sb,3,none⟩) (Z H).sbB _)
  have A7:=O ((Z A1).same (Z HS7))
  have A8:=O ((Z A1).same (Z HSA))
  clear hown hgrow s7 s71 b7 hrw
  have k3:=(Z HX7).c3
  have f3:=(Z HX7).fz 3
  refine hK.out _ _ ⟨(Z HX7).c0,(Z HX7).c1,(Z A7).a3,(Z A7).a4,(Z A7).a5,(Z A7).a6⟩ (fun hHeld=>?_)
  clear hK KK
  try simp only [Act.put,sy]
  refine tka 18 33 hHeld ?_
  refine tka 19 34 hHeld ?_
  refine rdy 20 fun KK hK=>?_
  go_simp
  have d3:=(Z HL).box.c3
  refine hK.out _ _ ⟨(Z HL).box.c0,(Z HL).box.c1,(Z A8).a3,(Z A8).a4,(Z A8).a5,(Z A8).a6⟩ (fun hHeld=>?_)
  clear hK KK hHeld k3 f3
  try simp only [Act.put,sy]
  refine wpAnyH_done (by kernel_rfl) ?_ _
  obtain ⟨W8,hW8⟩:∃ W8,W8=w7.setCell ⟨sb,3,none⟩ (.slice (some ⟨g2,0,none⟩) (ns+1) cp2):=⟨_,rfl⟩
  rw [<- hW8] at HL HSA HBL A8 d3 ⊢
  clear hW8 HX7 HT7 HU7 HS7 A7
  have wn:IntKind.i64.wrap (((ns+1:Nat):Int) - 1)=(ns:Int):=by rw [IntKind.wrap_i64];omega
  obtain ⟨⟨r0,r1,r2,r3,r4,r5⟩,x0,x1,x2,x3,x4,x5⟩:=(Z A8).rc
  go_wp2
  refine bodyPost_ret (v:=.tuple #[.agg #[.int .i64 0,.int .i64 0,.int .i64 (ns:Int),.string ⟨#[]⟩,.slice none 0 0,.slice none 0 0],.nilIface]) (by simp [results,Tryz.results104,go_sem,r0,r1,r2,r3,r4,r5]) rfl ?_
  exact cX (bU.stop (Z HO) rfl (by rw [<- Z HNS];exact h50)) (.inl ⟨rfl,rfl,by rw [Z HNS],rfl⟩) (Z HL) (Z A8) (cD _ _) (dD.nil _ _) (Z HBL) ((bM.of_below (Z HB1)).trans (Z HSA)) hB
 go_simp
 refine (bH0 lo lp _ _ nf fns n f ⟨kd,fn,line,sn⟩ _ ((Z H2 _ ((Z HB1).mono hB)).below (Z HB0)) ((Z HP _ ((Z HB1).mono hB)).below (Z HB0)) (Z HS) (tW.1 (Z HO)).2.2).mono ?_
 rintro e w2 ⟨⟨v,rfl,hbo⟩,hbx⟩
 obtain ⟨gf,lf,rfl⟩:=hbo.form
 have hb2:Below w1.heap.size w1 w2:=(Z HB0).trans hbx
 have HB2:=O hb2
 have HN1:=O hbo
 have HB3:Hid (Below w1.heap.size w1 (w2.alloc (.cells #[.func (.func gf) #[] lf] 228))):=O (hb2.trans ((bH w2 _).mono hb2.size))
 refine hK.out _ _ (Z HSS _ hb2) (fun hHeld=>?_)
 clear hK KK hb2 hbo hbx
 try simp only [Act.put,sy]
 refine wpAnyH_ready (rs:=[4,16]) (by kernel_rfl) (by simp) ?_
 refine AllReadyH.cons rfl (fun KK hK=>?_) (AllReadyH.cons rfl (fun KK hK=>?_) AllReadyH.nil)
 ·have q3:=Z HC3 _ (Z HB2)
  go_simp
  refine hK.out _ _ (Z HSS _ (Z HB2)) (fun hHeld=>?_)
  clear hK KK q3
  try simp only [Act.put,sy]
  refine rdy 16 fun KK hK=>?_
  go_simp
  refine hK.out _ _ (Z HSS _ (Z HB3)) (fun hHeld=>?_)
  clear hK KK
  try simp only [Act.put,sy]
  have hrw:=bN (Z HROW) (Z HB3)
  refine rdy 17 fun KK hK=>?_
  refine step_append_lies _ (by rfl) _ _ _ (by rfl) B 228 i0 _ 1 8 Tryz.underlying169 (Z II).1 (Z II).2.1 (Z II).2.2.1 (Z II).2.2.2 rfl (by omega) (.slice ta ns tc) ns _ (by rfl) hrw
   ⟨w2.heap.size,0,none⟩ 1 1 [.func (.func gf) #[] lf] (by rfl) (by rfl) (World.news_of_block (cs:=#[.func (.func gf) #[] lf]) (t:=228) (fr:=(0,0)) (heap_alloc_new w2 _)) (by simp [Value.oneCell'])
   (by omega) (by unfold maxLen;omega) (by omega) (by have:=(Z HB3).size;have:=(Z HB1).size;omega) _ rfl ?_
  intro g2 cp2 w7 hown hgrow _ _
  have s7:bM (fun t=>t≠228) (w2.alloc (.cells #[.func (.func gf) #[] lf] 228)) w7:=bM.grown hrw hgrow (fun q=>q rfl)
  have s71:bM (fun t=>t≠228) w1 w7:=(bM.of_below (Z HB3)).trans s7
  have b7:Below B w w7:=(((Z HB1).mono hB).trans ((Z HB3).mono (Nat.le_trans hB (Z HB1).size))).grown hgrow (by have:=(Z HB3).size;have:=(Z HB1).size;omega) (fun b e=>(eM hrw b e).1)
  have HX7:=O ((Z H1).box.same s71 (by decide))
  have HU7:=O ((Z H1).undos.same s71 (by decide) (by decide) (by decide))
  have HT7:Hid (fU B w7 (.slice (some ⟨g2,0,none⟩) (ns+1) cp2) mv (ns+1) n f (LS.ss ⟨s.at_,s.stops ++ [⟨kd,fn,line,sn⟩],s.past⟩)):=O ⟨fun i=>if i=ns then .func (.func gf) #[] lf else vs i,by rw [xL];exact hown,fun i hi=>by
   by_cases q:i=ns
   ·subst q
    dsimp only
    rw [if_pos rfl]
    have e2:=(kP (s:=s) (st:=⟨kd,fn,line,sn⟩)).2
    rw [<- Z HNS] at e2
    rw [e2]
    exact ((Z HN1).below (bH w2 _)).same s7 (by decide) (by decide) (by decide) (by decide)
   dsimp only
   rw [if_neg q,kP.1 i (by rw [<- Z HNS];omega)]
   exact (((Z HBO) i (by omega)).below (Z HB3)).same s7 (by decide) (by decide) (by decide) (by decide)⟩
  have HL:Hid (SS B (w7.setCell ⟨sb,3,none⟩ (.slice (some ⟨g2,0,none⟩) (ns+1) cp2)) sb mv pv n f ⟨s.at_,s.stops ++ [⟨kd,fn,line,sn⟩],s.past⟩ (.slice (some ⟨g2,0,none⟩) (ns+1) cp2) uv D):=O (by
   obtain ⟨cs,hh⟩:=(Z HX7).block
   have hs7:bM (fun t=>t≠176) w7 (w7.setCell ⟨sb,3,none⟩ (.slice (some ⟨g2,0,none⟩) (ns+1) cp2)):=bM.set hh (fun q=>q rfl)
   have el:(s.stops ++ [(⟨kd,fn,line,sn⟩:Sp)]).length=ns+1:=by rw [List.length_append,<- Z HNS];rfl
   exact ⟨(Z HX7).set3 _,by rw [el];exact (Z HT7).same hs7 (by decide) (by decide) (by decide) (by decide) (by decide),(Z HU7).same hs7 (by decide) (by decide) (by decide),(Z H).sbB⟩)
  have HS7:Hid (bM dB w1 w7):=O (s71.mono (fun t q=>q.2.1))
  have HSA:Hid (bM dB w1 (w7.setCell ⟨sb,3,none⟩ (.slice (some ⟨g2,0,none⟩) (ns+1) cp2))):=O ((Z HS7).trans (by obtain ⟨cs,hh⟩:=(Z HX7).block;exact bM.set hh dB.no))
  have HBL:Hid (Below B w (w7.setCell ⟨sb,3,none⟩ (.slice (some ⟨g2,0,none⟩) (ns+1) cp2))):=O (b7.setCell (p:=⟨sb,3,none⟩) (Z H).sbB _)
  have A7:=O ((Z A1).same (Z HS7))
  have A8:=O ((Z A1).same (Z HSA))
  clear hown hgrow s7 s71 b7 hrw
  have k3:=(Z HX7).c3
  have f3:=(Z HX7).fz 3
  refine hK.out _ _ ⟨(Z HX7).c0,(Z HX7).c1,(Z A7).a3,(Z A7).a4,(Z A7).a5,(Z A7).a6⟩ (fun hHeld=>?_)
  clear hK KK
  try simp only [Act.put,sy]
  refine tka 18 33 hHeld ?_
  refine tka 19 34 hHeld ?_
  refine rdy 20 fun KK hK=>?_
  go_simp
  have d3:=(Z HL).box.c3
  refine hK.out _ _ ⟨(Z HL).box.c0,(Z HL).box.c1,(Z A8).a3,(Z A8).a4,(Z A8).a5,(Z A8).a6⟩ (fun hHeld=>?_)
  clear hK KK hHeld k3 f3
  try simp only [Act.put,sy]
  refine wpAnyH_done (by kernel_rfl) ?_ _
  obtain ⟨W8,hW8⟩:∃ W8,W8=w7.setCell ⟨sb,3,none⟩ (.slice (some ⟨g2,0,none⟩) (ns+1) cp2):=⟨_,rfl⟩
  rw [<- hW8] at HL HSA HBL A8 d3 ⊢
  clear hW8 HX7 HT7 HU7 HS7 A7
  have wn:IntKind.i64.wrap (((ns+1:Nat):Int) - 1)=(ns:Int):=by rw [IntKind.wrap_i64];omega
  obtain ⟨⟨r0,r1,r2,r3,r4,r5⟩,x0,x1,x2,x3,x4,x5⟩:=(Z A8).rc
  go_wp2
  refine bodyPost_ret (v:=.tuple #[.agg #[.int .i64 0,.int .i64 0,.int .i64 (ns:Int),.string ⟨#[]⟩,.slice none 0 0,.slice none 0 0],.nilIface]) (by simp [results,Tryz.results104,go_sem,r0,r1,r2,r3,r4,r5]) rfl ?_
  exact cX (bU.stop (Z HO) rfl (by rw [<- Z HNS];exact h50)) (.inl ⟨rfl,rfl,by rw [Z HNS],rfl⟩) (Z HL) (Z A8) (cD _ _) (dD.nil _ _) (Z HBL) ((bM.of_below (Z HB1)).trans (Z HSA)) hB
 go_simp
 refine hK.out _ _ (Z HSS _ (Z HB3)) (fun hHeld=>?_)
 clear hK KK
 try simp only [Act.put,sy]
 refine rdy 4 fun KK hK=>?_
 have q3:=Z HC3 _ (Z HB3)
 go_simp
 refine hK.out _ _ (Z HSS _ (Z HB3)) (fun hHeld=>?_)
 clear hK KK q3
 try simp only [Act.put,sy]
 have hrw:=bN (Z HROW) (Z HB3)
 refine rdy 17 fun KK hK=>?_
 refine step_append_lies _ (by rfl) _ _ _ (by rfl) B 228 i0 _ 1 8 Tryz.underlying169 (Z II).1 (Z II).2.1 (Z II).2.2.1 (Z II).2.2.2 rfl (by omega) (.slice ta ns tc) ns _ (by rfl) hrw
  ⟨w2.heap.size,0,none⟩ 1 1 [.func (.func gf) #[] lf] (by rfl) (by rfl) (World.news_of_block (cs:=#[.func (.func gf) #[] lf]) (t:=228) (fr:=(0,0)) (heap_alloc_new w2 _)) (by simp [Value.oneCell'])
  (by omega) (by unfold maxLen;omega) (by omega) (by have:=(Z HB3).size;have:=(Z HB1).size;omega) _ rfl ?_
 intro g2 cp2 w7 hown hgrow _ _
 have s7:bM (fun t=>t≠228) (w2.alloc (.cells #[.func (.func gf) #[] lf] 228)) w7:=bM.grown hrw hgrow (fun q=>q rfl)
 have s71:bM (fun t=>t≠228) w1 w7:=(bM.of_below (Z HB3)).trans s7
 have b7:Below B w w7:=(((Z HB1).mono hB).trans ((Z HB3).mono (Nat.le_trans hB (Z HB1).size))).grown hgrow (by have:=(Z HB3).size;have:=(Z HB1).size;omega) (fun b e=>(eM hrw b e).1)
 have HX7:=O ((Z H1).box.same s71 (by decide))
 have HU7:=O ((Z H1).undos.same s71 (by decide) (by decide) (by decide))
 have HT7:Hid (fU B w7 (.slice (some ⟨g2,0,none⟩) (ns+1) cp2) mv (ns+1) n f (LS.ss ⟨s.at_,s.stops ++ [⟨kd,fn,line,sn⟩],s.past⟩)):=O ⟨fun i=>if i=ns then .func (.func gf) #[] lf else vs i,by rw [xL];exact hown,fun i hi=>by
  by_cases q:i=ns
  ·subst q
   dsimp only
   rw [if_pos rfl]
   have e2:=(kP (s:=s) (st:=⟨kd,fn,line,sn⟩)).2
   rw [<- Z HNS] at e2
   rw [e2]
   exact ((Z HN1).below (bH w2 _)).same s7 (by decide) (by decide) (by decide) (by decide)
  dsimp only
  rw [if_neg q,kP.1 i (by rw [<- Z HNS];omega)]
  exact (((Z HBO) i (by omega)).below (Z HB3)).same s7 (by decide) (by decide) (by decide) (by decide)⟩
 have HL:Hid (SS B (w7.setCell ⟨sb,3,none⟩ (.slice (some ⟨g2,0,none⟩) (ns+1) cp2)) sb mv pv n f ⟨s.at_,s.stops ++ [⟨kd,fn,line,sn⟩],s.past⟩ (.slice (some ⟨g2,0,none⟩) (ns+1) cp2) uv D):=O (by
  obtain ⟨cs,hh⟩:=(Z HX7).block
  have hs7:bM (fun t=>t≠176) w7 (w7.setCell ⟨sb,3,none⟩ (.slice (some ⟨g2,0,none⟩) (ns+1) cp2)):=bM.set hh (fun q=>q rfl)
  have el:(s.stops ++ [(⟨kd,fn,line,sn⟩:Sp)]).length=ns+1:=by rw [List.length_append,<- Z HNS];rfl
  exact ⟨(Z HX7).set3 _,by rw [el];exact (Z HT7).same hs7 (by decide) (by decide) (by decide) (by decide) (by decide),(Z HU7).same hs7 (by decide) (by decide) (by decide),(Z H).sbB⟩)
 have HS7:Hid (bM dB w1 w7):=O (s71.mono (fun t q=>q.2.1))
 have HSA:Hid (bM dB w1 (w7.setCell ⟨sb,3,none⟩ (.slice (some ⟨g2,0,none⟩) (ns+1) cp2))):=O ((Z HS7).trans (by obtain ⟨cs,hh⟩:=(Z HX7).block;exact bM.set hh dB.no))
 have HBL:Hid (Below B w (w7.setCell ⟨sb,3,none⟩ (.slice (some ⟨g2,0,none⟩) (ns+1) cp2))):=O (b7.setCell (p:=⟨sb,3,none⟩) (Z H).sbB _)
 have A7:=O ((Z A1).same (Z HS7))
 have A8:=O ((Z A1).same (Z HSA))
 clear hown hgrow s7 s71 b7 hrw
 have k3:=(Z HX7).c3
 have f3:=(Z HX7).fz 3
 refine hK.out _ _ ⟨(Z HX7).c0,(Z HX7).c1,(Z A7).a3,(Z A7).a4,(Z A7).a5,(Z A7).a6⟩ (fun hHeld=>?_)
 clear hK KK
 try simp only [Act.put,sy]
 refine tka 18 33 hHeld ?_
 refine tka 19 34 hHeld ?_
 refine rdy 20 fun KK hK=>?_
 go_simp
 have d3:=(Z HL).box.c3
 refine hK.out _ _ ⟨(Z HL).box.c0,(Z HL).box.c1,(Z A8).a3,(Z A8).a4,(Z A8).a5,(Z A8).a6⟩ (fun hHeld=>?_)
 clear hK KK hHeld k3 f3
 try simp only [Act.put,sy]
 refine wpAnyH_done (by kernel_rfl) ?_ _
 obtain ⟨W8,hW8⟩:∃ W8,W8=w7.setCell ⟨sb,3,none⟩ (.slice (some ⟨g2,0,none⟩) (ns+1) cp2):=⟨_,rfl⟩
 rw [<- hW8] at HL HSA HBL A8 d3 ⊢
 clear hW8 HX7 HT7 HU7 HS7 A7
 have wn:IntKind.i64.wrap (((ns+1:Nat):Int) - 1)=(ns:Int):=by rw [IntKind.wrap_i64];omega
 obtain ⟨⟨r0,r1,r2,r3,r4,r5⟩,x0,x1,x2,x3,x4,x5⟩:=(Z A8).rc
 go_wp2
 refine bodyPost_ret (v:=.tuple #[.agg #[.int .i64 0,.int .i64 0,.int .i64 (ns:Int),.string ⟨#[]⟩,.slice none 0 0,.slice none 0 0],.nilIface]) (by simp [results,Tryz.results104,go_sem,r0,r1,r2,r3,r4,r5]) rfl ?_
 exact cX (bU.stop (Z HO) rfl (by rw [<- Z HNS];exact h50)) (.inl ⟨rfl,rfl,by rw [Z HNS],rfl⟩) (Z HL) (Z A8) (cD _ _) (dD.nil _ _) (Z HBL) ((bM.of_below (Z HB1)).trans (Z HSA)) hB
end
end Go.Proofs.YtmnmeaeicjhkhaaGreatDoor
