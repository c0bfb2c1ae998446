import Derived.Test.YtmnmeaeicjhkhaaGreatDoorGEbx
import Derived.DeepKeys4
set_option maxRecDepth 100000
set_option maxHeartbeats 16000000
namespace Go.Proofs.YtmnmeaeicjhkhaaGreatDoor
section
open Go.RowKit Go.Maps
theorem laidOutK:laidOutB Tryz.prog=true:=by kernel_rfl
theorem rowK:(335:TypeId)<Tryz.prog.types.size:=of_decide_eq_true (by kernel_rfl)
theorem cellsK:Tryz.prog.cellsOf 335=2:=by kernel_rfl
theorem cellsS1:Tryz.prog.cellsOf 9=1:=by kernel_rfl
theorem cellsI1:Tryz.prog.cellsOf 3=1:=by kernel_rfl
theorem deepK:Tryz.prog.keyType 335=true:=by kernel_rfl
theorem wideK:(match Tryz.prog.underlying 335 with | some (.array _ _) | some (.struct _)=>true | _=>false)=true:=by kernel_rfl
theorem lawK:Keyed Tryz.prog 335:=Keyed.of_law (deep_law_laid laidOutK (m:=3) (by omega) rowK (by kernel_rfl) wideK)
def keyV (frm:Int) (nm:ByteArray):Value:=.agg #[.int .i64 frm,.string nm]
theorem keyV_inj {a b:Int} {nm:ByteArray} (h:keyV a nm=keyV b nm):a=b:=by unfold keyV at h;simpa using h
theorem key_ok (frm:Int) (nm:ByteArray) (hf:(Lit.int .i64 frm).wf=true) (hz:nm.size<=maxLen):∃ l,keyOf Tryz.prog 335 (keyV frm nm)=some l:=by
 obtain ⟨m,hm⟩:∃ m,Tryz.prog.types.size+1=m+1+1:=⟨Tryz.prog.types.size - 1,by
  have h:0<Tryz.prog.types.size:=Nat.lt_of_le_of_lt (Nat.zero_le _) rowK
  generalize Tryz.prog.types.size=z at h
  omega⟩
 unfold keyOf keyV
 rw [Tryz.underlying335]
 have hfo:(Value.agg #[.int .i64 frm,.string nm]).formed Tryz.prog 335=true:=by simp [Value.formed,Tryz.underlying335,cellsK]
 have hk:Tryz.prog.keyLits (Tryz.prog.types.size+1) 335 (Value.agg #[.int .i64 frm,.string nm]).cells.toList=some [.int .i64 frm,.string nm.data.toList]:=by
  rw [hm]
  simp [Program.keyLits,Tryz.underlying335,Tryz.underlying3,Tryz.underlying9,cellsK,cellsS1,cellsI1,Value.cells,hf,hz]
 refine ⟨.string (keyBytes [.int .i64 frm,.string nm.data.toList]),?_⟩
 simp only [deepK,hfo,hk]
 rfl
def varDat (nm:ByteArray):Option ByteArray->DataW Unit
 | some t=>.agg [.lit (.string nm.data.toList),.lit (.string t.data.toList)]
 | none=>.agg [.lit (.string []),.lit (.string [])]
def varElemL:List Value->Option (DataW Unit × List MemPlace)
 | [.string a,.string b]=>some (.agg [.lit (.string a.data.toList),.lit (.string b.data.toList)],[])
 | _=>none
def yM (v:Value):Option (DataW Unit × List MemPlace) :=
 match v with
 | .agg cs=>varElemL cs.toList
 | _=>none
theorem bB6 {v:Value} {a b:List UInt8} {ps:List MemPlace} (h:yM v=some (.agg [.lit (.string a),.lit (.string b)],ps)):v=.agg #[.string ⟨a.toArray⟩,.string ⟨b.toArray⟩]:=by
 unfold yM at h
 split at h
 ·rename_i cs
  unfold varElemL at h
  split at h
  ·rename_i x y e
   simp at h
   obtain ⟨⟨h1,h2⟩,-⟩:=h
   subst h1 h2
   have e2:cs=#[.string x,.string y]:=by
    apply Array.toList_inj.1
    rw [e]
   rw [e2]
  cases h
 cases h
def zN (nm:ByteArray):Option ByteArray->Value
 | some t=>.agg #[.string nm,.string t]
 | none=>.agg #[.string ⟨#[]⟩,.string ⟨#[]⟩]
theorem bB7 (nm:ByteArray) (o:Option ByteArray):yM (zN nm o)=some (varDat nm o,[]):=by cases o<;>rfl
theorem varElem_back {v:Value} {nm:ByteArray} {o:Option ByteArray} {ps:List MemPlace} (h:yM v=some (varDat nm o,ps)):v=zN nm o:=by
 cases o with
 | none=>exact bB6 h
 | some t=>have:=bB6 h;rw [this];unfold zN;cases nm;cases t;simp
def eU (w:World) (b n:Nat) (nm:ByteArray) (g:Int->Option ByteArray):Prop :=
 ∃ D:DataW Unit,w.ownsMap Tryz.prog 335 yM b n D/\∀ x l,keyOf Tryz.prog 335 (keyV x nm)=some l->has D l=(g x).isSome/\D.atKey l (varDat nm none)=varDat nm (g x)
theorem eU.made (w:World) (nm:ByteArray):eU (w.alloc (.map #[] 0)) w.heap.size 0 nm (fun _=>none) :=
 ⟨.map [],World.ownsMap_made _ _ _ _,fun _ _ _=>⟨rfl,rfl⟩⟩
theorem eU.mono {w:World} {b n n':Nat} {nm:ByteArray} {g:Int->Option ByteArray} (h:eU w b n nm g) (hn:n<=n'):eU w b n' nm g:=by
 obtain ⟨D,h1,h2⟩:=h
 exact ⟨D,h1.mono hn,h2⟩
theorem eU.lt {w:World} {b n:Nat} {nm:ByteArray} {g:Int->Option ByteArray} (h:eU w b n nm g):b<w.heap.size:=by
 obtain ⟨D,h1,_⟩:=h
 exact h1.lt
theorem eU.of_block {w w':World} {b n:Nat} {nm:ByteArray} {g:Int->Option ByteArray} (h:eU w b n nm g) (hb:w'.heap[b]?=w.heap[b]?):eU w' b n nm g:=by
 obtain ⟨D,⟨es,c,h1,h2⟩,h3⟩:=h
 exact ⟨D,⟨es,c,hb.trans h1,h2⟩,h3⟩
theorem zero_var (w:World):(zeroValue 40).run Tryz.prog w=.ok (.agg #[.string ⟨#[]⟩,.string ⟨#[]⟩]) w:=by kernel_rfl
theorem eU.look {w:World} {b n:Nat} {nm:ByteArray} {g:Int->Option ByteArray} (h:eU w b n nm g) (x:Int) (hx:(Lit.int .i64 x).wf=true) (hz:nm.size<=maxLen) :
  (Instr.lookup 332 (.map (some b)) (.agg #[.int .i64 x,.string nm]) true).run Tryz.prog w=.ok (.tuple #[zN nm (g x),.bool (g x).isSome]) w:=by
 obtain ⟨D,h1,h2⟩:=h
 obtain ⟨l,hl⟩:=key_ok x nm hx hz
 obtain ⟨e1,e2⟩:=h2 x l hl
 obtain ⟨v,ps,hr,hv⟩:=h1.look_ok lawK Tryz.underlying332 (zero_var w) (bB7 nm none) hl
 rw [e2] at hv
 rw [e1,varElem_back hv] at hr
 exact hr
theorem eU.store {w:World} {b n:Nat} {nm:ByteArray} {g:Int->Option ByteArray} (h:eU w b n nm g) (hn:n<maxLen) (x:Int) (hx:(Lit.int .i64 x).wf=true) (hz:nm.size<=maxLen) (t:ByteArray) :
  ∃ w',(Instr.mapUpdate 332 (.map (some b)) (.agg #[.int .i64 x,.string nm]) (.agg #[.string nm,.string t])).run Tryz.prog w=.ok () w'/\eU w' b (n+1) nm (fun y=>if y=x then some t else g y)/\w.grownBy w' (some b):=by
 obtain ⟨D,h1,h2⟩:=h
 have hm:IsMap D:=by obtain ⟨es,c,_,_,_,rfl⟩:=h1;exact ⟨_,rfl⟩
 obtain ⟨l,hl⟩:=key_ok x nm hx hz
 obtain ⟨w',hr,h3,h4⟩:=h1.update lawK Tryz.underlying332 hn hl (bB7 nm (some t))
 refine ⟨w',hr,⟨_,h3,fun y l' hl'=>?_⟩,h4⟩
 dsimp only
 by_cases e:y=x
 ·subst e
  rw [hl] at hl'
  cases hl'
  rw [if_pos rfl]
  exact ⟨has_put_same hm (lawK.key hl) _,atKey_put_same hm (lawK.key hl) _ _⟩
 have hne:l' ≠ l:=fun e2=>e (keyV_inj (lawK.inj (by rw [e2] at hl';exact hl') hl))
 rw [if_neg e,has_put_other hne,atKey_put_other hne]
 exact h2 y l' hl'
theorem mQ {ops:Array Oper} {rest:List Oper} {o:Oper} {a:Act} {Q:Exit->Act->World->Prop} (w:World)
  (hg:o.guard=none) (m x v:Operand) (hop:o.op=Op.mapUpdate 332 m x v) (b n:Nat) (nm:ByteArray) (g:Int->Option ByteArray)
  (hm:a.eval m=.map (some b)) (h:eU w b n nm g) (hn:n<maxLen) (k:Int) (hk:(Lit.int .i64 k).wf=true) (hz:nm.size<=maxLen) (t:ByteArray) (hx:a.eval x=.agg #[.int .i64 k,.string nm]) (hv:a.eval v=.agg #[.string nm,.string t])
  (hK:∀ w',eU w' b (n+1) nm (fun y=>if y=k then some t else g y)->w.grownBy w' (some b)->wpList Tryz.prog ops Q rest (a.put o.dst undef) w') :
  wpList Tryz.prog ops Q (o :: rest) a w:=by
 refine wpList_plain hg fun K' hK'=>?_
 obtain ⟨w',hrun,r1,r2⟩:=h.store hn k hk hz t
 unfold Oper.wp
 simp [execOp,hop,hm,hx,hv,hrun,Result.andThen]
 exact hK' _ _ (hK w' r1 r2)
end
section
open Go.RowKit Go.Maps
theorem info_bool2:(Tryz.prog.info? 4).map (fun i=>(i.zero,i.size,i.bytes))=some (some (.bool false),1,1):=by kernel_rfl
def pQ (f:Nat->M) (s:Sp) (k i:Nat):Bool:=if i<k then dF f s i else false
theorem yN {f:Nat->M} {s:Sp} {k:Nat} (i:Nat):(if i=k then dF f s k else pQ f s k i)=pQ f s (k+1) i:=by
 unfold pQ
 by_cases e:i=k
 ·rw [if_pos e,if_pos (by omega),e]
 rw [if_neg e]
 by_cases e2:i<k
 ·rw [if_pos e2,if_pos (by omega)]
 rw [if_neg e2,if_neg (by omega)]
theorem upWatch_same {f:Nat->M} {s:Sp} {k:Nat} (h:dF f s k=false) (i:Nat):pQ f s k i=pQ f s (k+1) i:=by
 rw [<- yN]
 by_cases e:i=k
 ·rw [if_pos e,h];unfold pQ;rw [if_neg (by omega)]
 rw [if_neg e]
theorem tR {f:Nat->M} {nm:ByteArray} {fn frm:Int} {k:Nat} (h:∀ fr t,eL f k=some fr->gR f nm k=some t->¬ (fr.fn=fn/\fr.frm=frm)):eR f nm fn frm (k+1)=eR f nm fn frm k:=by
 show (match eL f k,gR f nm k with | some fr,some t=>if fr.fn=fn/\fr.frm=frm then some t else eR f nm fn frm k | _,_=>eR f nm fn frm k)=_
 cases e1:eL f k with
 | none=>rfl
 | some fr =>
  cases e2:gR f nm k with
  | none=>rfl
  | some t=>dsimp only;rw [if_neg (h fr t e1 e2)]
theorem prevFn_hit {f:Nat->M} {nm:ByteArray} {fn:Int} {k:Nat} {fr:Fr} {t:ByteArray} (h1:eL f k=some fr) (h2:gR f nm k=some t) (h3:fr.fn=fn) (x:Int):eR f nm fn x (k+1)=if x=fr.frm then some t else eR f nm fn x k:=by
 show (match eL f k,gR f nm k with | some fr,some t=>if fr.fn=fn/\fr.frm=x then some t else eR f nm fn x k | _,_=>eR f nm fn x k)=_
 rw [h1,h2]
 dsimp only
 by_cases e:x=fr.frm
 ·rw [if_pos e,if_pos ⟨h3,e.symm⟩]
 rw [if_neg e,if_neg (fun h=>e h.2.symm)]
structure WaI (w:World) (s:Sp) (n:Nat) (f:Nat->M) (k:Nat) (W:World):Prop where
 below:Below w.heap.size w W
 box:W.heap[w.heap.size]?=some (.cells #[.int .i64 s.kind,.int .i64 s.fn,.int .i64 s.line,.string s.name] 45 (0,0))
 bools:eX (w.heap.size+1) W n (pQ f s k)
 ibx:W.heap[w.heap.size+1+1]?=some (.cells #[.slice (some ⟨w.heap.size+1,0,none⟩) n n] 157 (0,0))
 map:eU W (w.heap.size+1+1+1) k s.name (fun x=>eR f s.name s.fn x k)
theorem WaI.go {w:World} {s:Sp} {n:Nat} {f:Nat->M} {k:Nat} {W W':World} (h:WaI w s n f k W) (hb:Below W.heap.size W W'):WaI w s n f k W' :=
 ⟨h.below.trans (hb.mono h.below.size),by rw [hb.block _ (cY h.box)];exact h.box,h.bools.below hb,by rw [hb.block _ (cY h.ibx)];exact h.ibx,h.map.of_block (hb.block _ h.map.lt)⟩
theorem WaI.new (w:World) (s:Sp) (n:Nat) (f:Nat->M):WaI w s n f 0 ((((w.alloc (.cells #[.int .i64 s.kind,.int .i64 s.fn,.int .i64 s.line,.string s.name] 45)).alloc (.cells (madeCells #[.bool false] n) 4)).alloc (.cells #[.slice (some ⟨w.heap.size+1,0,none⟩) n n] 157)).alloc (.map #[] 0)):=by
 obtain ⟨A,hA⟩:∃ A,A=w.alloc (.cells #[.int .i64 s.kind,.int .i64 s.fn,.int .i64 s.line,.string s.name] 45):=⟨_,rfl⟩
 have sA:A.heap.size=w.heap.size+1:=by rw [hA];simp
 have kA:A.heap[w.heap.size]?=some (.cells #[.int .i64 s.kind,.int .i64 s.fn,.int .i64 s.line,.string s.name] 45 (0,0)):=by rw [hA];exact heap_alloc_new w _
 have bA:Below w.heap.size w A:=by rw [hA];exact bH _ _
 rw [<- hA]
 obtain ⟨C,hC⟩:∃ C,C=A.alloc (.cells (madeCells #[.bool false] n) 4):=⟨_,rfl⟩
 have sC:C.heap.size=w.heap.size+1+1:=by rw [hC];simp [sA]
 have kC:eX (w.heap.size+1) C n (fun _=>false):=by rw [hC,<- sA];exact eX.made A n
 have bC:Below A.heap.size A C:=by rw [hC];exact bH _ _
 rw [<- hC]
 obtain ⟨D,hD⟩:∃ D,D=C.alloc (.cells #[.slice (some ⟨w.heap.size+1,0,none⟩) n n] 157):=⟨_,rfl⟩
 have sD:D.heap.size=w.heap.size+1+1+1:=by rw [hD];simp [sC]
 have kD:D.heap[w.heap.size+1+1]?=some (.cells #[.slice (some ⟨w.heap.size+1,0,none⟩) n n] 157 (0,0)):=by rw [hD,<- sC];exact heap_alloc_new C _
 have bD:Below C.heap.size C D:=by rw [hD];exact bH _ _
 rw [<- hD]
 obtain ⟨E,hE⟩:∃ E,E=D.alloc (.map #[] 0):=⟨_,rfl⟩
 have kE:eU E (w.heap.size+1+1+1) 0 s.name (fun _=>none):=by rw [hE,<- sD];exact eU.made D s.name
 have bE:Below D.heap.size D E:=by rw [hE];exact bH _ _
 rw [<- hE]
 refine ⟨bA.trans ((bC.mono (by omega)).trans ((bD.mono (by omega)).trans (bE.mono (by omega)))),?_,?_,?_,kE⟩
 ·rw [bE.block _ (by omega),bD.block _ (by omega),bC.block _ (by omega)];exact kA
 ·exact ((kC.below bD).below bE).congr (fun i _=>rfl)
 rw [bE.block _ (by omega)];exact kD
theorem WaI.pass {w:World} {s:Sp} {n:Nat} {f:Nat->M} {k:Nat} {W:World} (h:WaI w s n f k W) (h1:dF f s k=false) (h2:∀ x,eR f s.name s.fn x (k+1)=eR f s.name s.fn x k):WaI w s n f (k+1) W:=by
 refine ⟨h.below,h.box,h.bools.congr (fun i _=>upWatch_same h1 i),h.ibx,?_⟩
 have e:(fun x=>eR f s.name s.fn x (k+1))=(fun x=>eR f s.name s.fn x k):=funext h2
 rw [e]
 exact h.map.mono (by omega)
theorem WaI.laid {w:World} {s:Sp} {n:Nat} {f:Nat->M} {k:Nat} {W w':World} {fr:Fr} {t:ByteArray} (h:WaI w s n f k W) (hk:k<n) (x:Bool) (hx:x=dF f s k) (h1:eL f k=some fr) (h2:gR f s.name k=some t) (h3:fr.fn=s.fn)
  (hm:eU w' (w.heap.size+1+1+1) (k+1) s.name (fun y=>if y=fr.frm then some t else eR f s.name s.fn y k)) (hg:(W.setCell ⟨w.heap.size+1,k,none⟩ (.bool x)).drew.grownBy w' (some (w.heap.size+1+1+1))):WaI w s n f (k+1) w':=by
 have hs:∀ b,b≠w.heap.size+1->(W.setCell ⟨w.heap.size+1,k,none⟩ (.bool x)).drew.heap[b]?=W.heap[b]?:=fun b hb=>heap_setCell_other _ _ _ _ hb
 have hq:∀ b,b<W.heap.size->b≠w.heap.size+1+1+1->w'.heap[b]?=(W.setCell ⟨w.heap.size+1,k,none⟩ (.bool x)).drew.heap[b]?:=fun b hb hne=>hg.block b (by show b<(W.setCell _ _).heap.size;simp;exact hb) (fun e=>hne (Option.some.inj e))
 have hbl:=h.below.size
 refine ⟨(h.below.setCell (p:=⟨w.heap.size+1,k,none⟩) (by show w.heap.size<=w.heap.size+1;omega) (.bool x)).drew.grown hg (by show w.heap.size<=(W.setCell _ _).heap.size;simp;exact hbl) (fun b e=>by cases e;omega),?_,?_,?_,?_⟩
 ·rw [hq _ (cY h.box) (by omega),hs _ (by omega)];exact h.box
 ·exact (((h.bools.set k hk x).of_block (w':=w') (by rw [hq _ h.bools.lt (by omega)];rfl))).congr (fun i _=>by rw [hx];exact yN i)
 ·rw [hq _ (cY h.ibx) (by omega),hs _ (by omega)];exact h.ibx
 have e:(fun y=>eR f s.name s.fn y (k+1))=(fun y=>if y=fr.frm then some t else eR f s.name s.fn y k):=funext (prevFn_hit h1 h2 h3)
 rw [e]
 exact hm
theorem xK {f:Nat->M} {s:Sp} {k:Nat} {fr:Fr} {t:ByteArray} (h1:eL f k=some fr) (h2:gR f s.name k=some t) (h3:fr.fn=s.fn):dF f s k=decide (eR f s.name s.fn fr.frm k≠some t):=by
 have e:=zL s.name h1 k
 rw [h3] at e
 rw [e]
 unfold dF
 rw [h1,h2]
 dsimp only
 rw [decide_eq_true h3]
 rfl
theorem watch_other {f:Nat->M} {s:Sp} {k:Nat} {fr:Fr} (h1:eL f k=some fr) (h2:fr.fn≠s.fn):dF f s k=false:=by
 cases hsh:gR f s.name k with
 | none=>unfold dF;rw [h1,hsh]
 | some t=>unfold dF;rw [h1,hsh];dsimp only;rw [decide_eq_false h2];rfl
theorem takeOff {P:Program} {ops:Array Oper} {Q:Exit->Act->World->Prop} {md:Region.Mode} {S:World->Prop} (i:Nat) (dst:Option Tmp) {fuel:Nat} {listed:Array Bool} {a:Act} {w:World}
  (hl:i<ops.size) (hd:(ops[i]'hl).dst=dst) (hs:Region.noSelect ops=true) (hf:Region.free md ops listed i=true) (hr:(Region.ready md ops listed).contains i=true)
  (hQ:∀ c a w,Q (.panic c) (a.put dst undef) w->Q (.panic c) a w) (hw:Region.wanted (ops[i]'hl) (yielded ops a.tmps)=false) (hS:S w)
  (h:wpAnyH P md ops Q S fuel (listed.setIfInBounds i true) (a.put dst undef) w):wpAnyH P md ops Q S (fuel+1) listed a w:=by
 subst hd
 exact wpAnyH_take (Array.getElem?_eq_getElem hl) hs hf hr hQ (Or.inr ⟨hw,rfl⟩) hS h
theorem watchOf_any (lo lp:Nat) (mv pv:Value) (nf:Nat) (fns:Nat->ByteArray) (n:Nat) (f:Nat->M) (s:Sp) (w:World) (h2:bQ lo w mv n f) (hp:bW lp w pv n f) (hs:cB nf fns n f) (hz:s.name.size<=40) :
  Calls Tryz.prog 185 #[mv,pv,.agg #[.int .i64 s.kind,.int .i64 s.fn,.int .i64 s.line,.string s.name]] w fun e w'=>(∃ ib b,e=.returned (.func (.func 220) #[] #[.pointer (some ⟨ib,0,none⟩)])/\w'.heap[ib]?=some (.cells #[.slice (some ⟨b,0,none⟩) n n] 157 (0,0))/\eX b w' n (dF f s))/\Below w.heap.size w w':=by
 have H2:=O h2
 have HP:=O hp
 have HS:=O hs
 obtain ⟨a2,cap2,rfl,hn2,-⟩:=h2
 have hn3:n<=3000:=hs.1.2.2.1
 unfold maxLen at hn2
 have hzm:s.name.size<=maxLen:=by unfold maxLen;omega
 clear hs hp
 have hmk:∀ w,(Instr.makeSlice 157 (.int .i64 n) (.int .i64 n)).run Tryz.prog w=.ok (.slice (some ⟨w.heap.size,0,none⟩) n n) (w.alloc (.cells (madeCells #[.bool false] n) 4)):=fun w=>by
  have h:=gY (P:=Tryz.prog) 157 4 _ _ _ Tryz.underlying157 info_bool2 n (by omega) (by omega) w
  rw [Nat.mul_one] at h
  exact h
 have hmm:=@run_makeMap Tryz.prog
 go_enter Tryz.func185,Tryz.ntmps185
 go_upto_region 3 with fail
 have HW0:=O (WaI.new w s n f)
 generalize (((w.alloc (.cells #[.int .i64 s.kind,.int .i64 s.fn,.int .i64 s.line,.string s.name] 45)).alloc (.cells (madeCells #[.bool false] n) 4)).alloc (.cells #[.slice (some ⟨w.heap.size+1,0,none⟩) n n] 157)).alloc (.map #[] 0)=W0 at HW0 ⊢
 clear hmk hmm
 go_wp2_with fail
 go_loopg [9,23] n (fun gg _ i W=>∃ (k:Nat),k+gg=n/\i=.int .i64 k/\WaI w s n f k W)
 case atStart=>exact ⟨0,by omega,rfl,Z HW0⟩
 case round =>
  clear HW0
  obtain ⟨k,hk,rfl,hi⟩:=hrel
  have HI:=O hi
  clear hi
  by_cases hlt:k<n
  ·obtain ⟨_,_,e,_,hv⟩:=(Z H2).below (Z HI).below
   cases e
   obtain ⟨bm,om,vv,rfl,hc0,hc1,hc2,hc3,hc4,hc5,-,hvv,-⟩:=hv k hlt
   clear hv
   have HVV:=O hvv
   obtain ⟨av,capv,rfl,-⟩:=hvv
   have hnv:(f k).nv<=200:=((Z HS).2.1 k hlt).2.1
   have hkn:(k:Int)<(n:Int):=by omega
   have hkz:(0:Int)<=(k:Int):=by omega
   have HBX:=O (heap_alloc_new wr (.cells #[.int .i64 (f k).kind,.int .i64 (f k).task,.int .i64 (f k).fn,.int .i64 (f k).line,.string (f k).text,.slice av (f k).nv capv] 108))
   have HBN:=O (bH wr (.cells #[.int .i64 (f k).kind,.int .i64 (f k).task,.int .i64 (f k).fn,.int .i64 (f k).line,.string (f k).text,.slice av (f k).nv capv] 108))
   have HJ:=O ((Z HI).go (Z HBN))
   have HVJ:=O ((Z HVV).below (Z HBN))
   go_upto_region 6 with fail
   generalize wr.alloc (.cells #[.int .i64 (f k).kind,.int .i64 (f k).task,.int .i64 (f k).fn,.int .i64 (f k).line,.string (f k).text,.slice av (f k).nv capv] 108)=W3 at HBX HBN HJ HVJ ⊢
   obtain ⟨mb,hmb⟩:∃ mb,mb=wr.heap.size:=⟨_,rfl⟩
   rw [<- hmb] at HBX ⊢
   clear hc0 hc1 hc2 hc3 hc4 hc5 HI hmb HVV HBN
   have m0:W3.cell? ⟨mb,0,none⟩=some (.int .i64 (f k).kind):=by rw [cell_of_row W3 mb 0 _ _ _ (Z HBX)];rfl
   go_wp2_with fail
   refine (shownBy_any lp pv n f k _ ((Z HP).below (Z HJ).below) hn3 hlt).mono ?_
   rintro e w4 ⟨⟨p,rfl,hli⟩,hb4⟩
   have HI4:=O ((Z HJ).go hb4)
   have HV4:=O ((Z HVJ).below hb4)
   have HX4:Hid (w4.heap[mb]?=some (.cells #[.int .i64 (f k).kind,.int .i64 (f k).task,.int .i64 (f k).fn,.int .i64 (f k).line,.string (f k).text,.slice av (f k).nv capv] 108 (0,0))):=O (by rw [hb4.block _ (cY (Z HBX))];exact Z HBX)
   have hown:eL f k=(tJ f (if (f k).kind=3 then k else k+1)).head?:=rfl
   clear HJ HVJ HBX m0 hb4
   cases hrl:tJ f (if (f k).kind=3 then k else k+1) with
   | nil =>
    rw [hrl] at hli hown
    have ep:p=none:=hli
    subst ep
    have HOWN:Hid (eL f k=none):=O hown
    clear hli hown hrl
    go_wp2_with fail
    go_quiet (fail)
    go_wp2_with fail
    go_roundg (n - (k+1))
    case measure=>omega
    case rel=>exact ⟨k+1,by omega,by go_num,((Z HI4).go (below_drewN (Below.refl _ _) _)).pass (tQ (Z HOWN)) (fun x=>tR (fun fr t h=>by rw [Z HOWN] at h;cases h))⟩
   | cons fr r =>
    rw [hrl] at hli hown
    obtain ⟨lb,p',rfl,l0,l1,l2,l3,l4,-⟩:=hli
    have HOWN:Hid (eL f k=some fr):=O hown
    have b1:w4.cell? ⟨w.heap.size,1,none⟩=some (.int .i64 s.fn):=by rw [cell_of_row w4 _ 1 _ _ _ (Z HI4).box];rfl
    clear hown hrl l1 l3 l4
    by_cases hfn:fr.fn=s.fn
    ·have hfb:(fr.fn != s.fn)=false:=by rw [hfn];simp
     have HFN:=O hfn
     clear hfn
     go_upto_region 8 with (go_quiet (fail))
     generalize hwq:w4.drewN _=wq
     have HBq:Hid (Below w4.heap.size w4 wq):=by rw [<- hwq];exact O (below_drewN (Below.refl _ _) _)
     have HIq:=O ((Z HI4).go (Z HBq))
     have HVq:=O ((Z HV4).below (Z HBq))
     have HXq:Hid (wq.heap[mb]?=some (.cells #[.int .i64 (f k).kind,.int .i64 (f k).task,.int .i64 (f k).fn,.int .i64 (f k).line,.string (f k).text,.slice av (f k).nv capv] 108 (0,0))):=O (by rw [(Z HBq).block _ (cY (Z HX4))];exact Z HX4)
     have l2q:=bG (Z HBq) l2
     have m5:wq.cell? ⟨mb,5,none⟩=some (.slice av (f k).nv capv):=by rw [cell_of_row wq mb 5 _ _ _ (Z HXq)];rfl
     have b3:wq.cell? ⟨w.heap.size,3,none⟩=some (.string s.name):=by rw [cell_of_row wq _ 3 _ _ _ (Z HIq).box];rfl
     clear hwq HI4 HV4 HX4 l0 l2 b1 hfb HBq
     go_wp2_with fail
     refine (mW lo _ (f k).nv (f k).vars s.name _ (Z HVq) hnv).mono ?_
     rintro e w5 ⟨rfl,hb5⟩
     have HI5:=O ((Z HIq).go hb5)
     have l25:=bG hb5 l2q
     have hsw:cP (f k).vars s.name (f k).nv=gR f s.name k:=rfl
     rw [hsw]
     clear hsw hb5 HIq HVq HXq l2q m5 b3
     cases hsh:gR f s.name k with
     | none =>
      have HSH:=O hsh
      clear hsh
      simp only [qZ]
      go_wp2_with fail
      go_roundg (n - (k+1))
      case measure=>omega
      case rel=>exact ⟨k+1,by omega,by go_num,((Z HI5).go (bH _ _)).pass (pZ (Z HSH)) (fun x=>tR (fun fr2 t _ h=>by rw [Z HSH] at h;cases h))⟩
     | some t =>
      have HSH:=O hsh
      clear hsh
      simp only [qZ]
      have HBV:=O (bH w5 (.cells #[.string s.name,.string t] 40))
      have HXV:=O (heap_alloc_new w5 (.cells #[.string s.name,.string t] 40))
      have HI6:=O ((Z HI5).go (Z HBV))
      have l26:=bG (Z HBV) l25
      go_upto_region 10 with fail
      generalize w5.alloc (.cells #[.string s.name,.string t] 40)=W6 at HXV HI6 l26 ⊢
      obtain ⟨vb,hvb⟩:∃ vb,vb=w5.heap.size:=⟨_,rfl⟩
      rw [<- hvb] at HXV ⊢
      clear hvb HBV HI5 l25
      have b36:W6.cell? ⟨w.heap.size,3,none⟩=some (.string s.name):=by rw [cell_of_row W6 _ 3 _ _ _ (Z HI6).box];rfl
      refine wp_region_held_drew (S:=fun w'=>w'.cell? ⟨lb,2,none⟩=some (.int .i64 fr.frm)/\w'.cell? ⟨w.heap.size,3,none⟩=some (.string s.name)) (by kernel_rfl) ⟨l26,b36⟩ (fun hHeld=>?_)
      refine tka 0 55 (by assumption) ?_
      refine tka 1 56 (by assumption) ?_
      refine tka 2 57 (by assumption) ?_
      refine tka 3 58 (by assumption) ?_
      refine tka 4 59 (by assumption) ?_
      refine tka 5 60 (by assumption) ?_
      refine tka 6 61 (by assumption) ?_
      refine tka 7 62 (by assumption) ?_
      refine wpAnyH_ready (rs:=[8]) (by kernel_rfl) (by simp) ?_
      refine AllReadyH.cons rfl (fun K hK=>?_) AllReadyH.nil
      go_simp
      have HBK:Hid (Below W6.heap.size W6 (W6.alloc (.cells #[.int .i64 0,.string ⟨#[]⟩] 335)).drew):=O ((Below.refl _ _).alloc (Nat.le_refl _) _).drew
      refine hK.out _ _ ⟨bG (Z HBK) l26,bG (Z HBK) b36⟩ (fun hHeld=>?_)
      clear hK K
      try simp only [Act.put,sy]
      refine wpAnyH_ready (rs:=[9]) (by kernel_rfl) (by simp) ?_
      refine AllReadyH.cons rfl (fun K hK=>?_) AllReadyH.nil
      go_simp
      have HBL:Hid (Below W6.heap.size W6 (W6.alloc (.cells #[.int .i64 fr.frm,.string s.name] 335)).drew):=O ((Below.refl _ _).alloc (Nat.le_refl _) _).drew
      refine hK.out _ _ ⟨bG (Z HBL) l26,bG (Z HBL) b36⟩ (fun hHeld=>?_)
      clear hK K
      refine wpAnyH_done (by kernel_rfl) ?_ _
      have HXK:Hid ((W6.alloc (.cells #[.int .i64 fr.frm,.string s.name] 335)).drew.heap[W6.heap.size]?=some (.cells #[.int .i64 fr.frm,.string s.name] 335 (0,0))):=O (heap_alloc_new W6 _)
      have HI7:=O ((Z HI6).go (Z HBL))
      have HXV7:Hid ((W6.alloc (.cells #[.int .i64 fr.frm,.string s.name] 335)).drew.heap[vb]?=some (.cells #[.string s.name,.string t] 40 (0,0))):=O (by rw [(Z HBL).block _ (cY (Z HXV))];exact Z HXV)
      obtain ⟨kb,hkb⟩:∃ kb,kb=W6.heap.size:=⟨_,rfl⟩
      rw [<- hkb] at HXK
      rw [<- hkb]
      generalize (W6.alloc (.cells #[.int .i64 fr.frm,.string s.name] 335)).drew=W7 at HXK HI7 HXV7 ⊢
      clear hkb HBK HBL hHeld HI6 HXV l26 b36
      have hfr:=bP9 (Z HOWN)
      have hwf:(Lit.int .i64 fr.frm).wf=true:=WalkArith.wf_i64 (by omega)
      have hlook:=(Z HI7).map.look fr.frm hwf hzm
      have q0:W7.cell? ⟨kb,0,none⟩=some (.int .i64 fr.frm):=by rw [cell_of_row W7 kb 0 _ _ _ (Z HXK)];rfl
      have q1:W7.cell? ⟨kb,1,none⟩=some (.string s.name):=by rw [cell_of_row W7 kb 1 _ _ _ (Z HXK)];rfl
      have HPE:=O (zL s.name (Z HOWN) k)
      cases hpg:eR f s.name s.fn fr.frm k with
      | none =>
       rw [hpg] at hlook
       simp only [zN,Option.isSome_none] at hlook
       have HPG:=O hpg
       clear hpg
       go_upto_region 12 with fail
       have HBM:=O (bH W7 (.cells #[.string ⟨#[]⟩,.string ⟨#[]⟩] 40))
       have HXB:=O (heap_alloc_new W7 (.cells #[.string ⟨#[]⟩,.string ⟨#[]⟩] 40))
       have HI8:=O ((Z HI7).go (Z HBM))
       have HXV8:Hid ((W7.alloc (.cells #[.string ⟨#[]⟩,.string ⟨#[]⟩] 40)).heap[vb]?=some (.cells #[.string s.name,.string t] 40 (0,0))):=O (by rw [(Z HBM).block _ (cY (Z HXV7))];exact Z HXV7)
       have HXK8:Hid ((W7.alloc (.cells #[.string ⟨#[]⟩,.string ⟨#[]⟩] 40)).heap[kb]?=some (.cells #[.int .i64 fr.frm,.string s.name] 335 (0,0))):=O (by rw [(Z HBM).block _ (cY (Z HXK))];exact Z HXK)
       obtain ⟨bb,hbb⟩:∃ bb,bb=W7.heap.size:=⟨_,rfl⟩
       rw [<- hbb] at HXB
       rw [<- hbb]
       generalize W7.alloc (.cells #[.string ⟨#[]⟩,.string ⟨#[]⟩] 40)=W8 at HXB HI8 HXV8 HXK8 ⊢
       clear hbb HBM HI7 HXV7 HXK hlook q0 q1
       have c0:=(Z HI8).bools.2 k hlt
       have f0:=(Z HI8).bools.frozen k
       have y0:W8.cell? ⟨w.heap.size+1+1,0,none⟩=some (.slice (some ⟨w.heap.size+1,0,none⟩) n n):=by rw [cell_of_row W8 _ 0 _ _ _ (Z HI8).ibx];rfl
       have z0:W8.cell? ⟨bb,0,none⟩=some (.string ⟨#[]⟩):=by rw [cell_of_row W8 bb 0 _ _ _ (Z HXB)];rfl
       have z1:W8.cell? ⟨bb,1,none⟩=some (.string ⟨#[]⟩):=by rw [cell_of_row W8 bb 1 _ _ _ (Z HXB)];rfl
       have v0:W8.cell? ⟨vb,0,none⟩=some (.string s.name):=by rw [cell_of_row W8 vb 0 _ _ _ (Z HXV8)];rfl
       have v1:W8.cell? ⟨vb,1,none⟩=some (.string t):=by rw [cell_of_row W8 vb 1 _ _ _ (Z HXV8)];rfl
       have n1:w.heap.size+1≠w.heap.size+1+1:=by omega
       have n2:w.heap.size+1≠bb:=fun e=>by
        obtain ⟨⟨cs,h1⟩,_⟩:=(Z HI8).bools
        rw [e,Z HXB] at h1;cases h1
       have n3:w.heap.size+1≠vb:=fun e=>by
        obtain ⟨⟨cs,h1⟩,_⟩:=(Z HI8).bools
        rw [e,Z HXV8] at h1;cases h1
       generalize pQ f s k k=u0 at c0
       refine wp_region_held_drew (S:=fun w'=>w'.cell? ⟨w.heap.size+1+1,0,none⟩=some (.slice (some ⟨w.heap.size+1,0,none⟩) n n)) (by kernel_rfl) y0 (fun hHeld=>?_)
       refine tka 0 69 (by assumption) ?_
       refine tka 1 70 (by assumption) ?_
       refine tka 2 71 (by assumption) ?_
       refine tka 3 72 (by assumption) ?_
       refine tka 4 73 (by assumption) ?_
       refine takeOff 5 (some 74) (by decide) rfl (by kernel_rfl) (by kernel_rfl) (by kernel_rfl) (fun _ _ _ h=>h) (by rfl) (by assumption) ?_
       simp only [Act.put,sx]
       refine takeOff 6 (some 75) (by decide) rfl (by kernel_rfl) (by kernel_rfl) (by kernel_rfl) (fun _ _ _ h=>h) (by rfl) (by assumption) ?_
       simp only [Act.put,sx]
       refine takeOff 7 (some 76) (by decide) rfl (by kernel_rfl) (by kernel_rfl) (by kernel_rfl) (fun _ _ _ h=>h) (by rfl) (by assumption) ?_
       simp only [Act.put,sx]
       refine tka 8 77 (by assumption) ?_
       refine tka 9 78 (by assumption) ?_
       refine wpAnyH_ready (rs:=[10]) (by kernel_rfl) (by simp) ?_
       refine AllReadyH.cons rfl (fun K hK=>?_) AllReadyH.nil
       go_simp
       refine hK.out _ _ (bJ n1 y0) (fun hHeld=>?_)
       clear hK K
       refine wpAnyH_done (by kernel_rfl) ?_ _
       have n4:w.heap.size+1≠kb:=fun e=>by
        obtain ⟨⟨cs,h1⟩,_⟩:=(Z HI8).bools
        rw [e,Z HXK8] at h1;cases h1
       have k0:(W8.setCell ⟨w.heap.size+1,k,none⟩ (.bool true)).drew.cell? ⟨kb,0,none⟩=some (.int .i64 fr.frm):=bJ n4 (by rw [cell_of_row W8 kb 0 _ _ _ (Z HXK8)];rfl)
       have k1:(W8.setCell ⟨w.heap.size+1,k,none⟩ (.bool true)).drew.cell? ⟨kb,1,none⟩=some (.string s.name):=bJ n4 (by rw [cell_of_row W8 kb 1 _ _ _ (Z HXK8)];rfl)
       have u0':(W8.setCell ⟨w.heap.size+1,k,none⟩ (.bool true)).drew.cell? ⟨vb,0,none⟩=some (.string s.name):=bJ n3 v0
       have u1':(W8.setCell ⟨w.heap.size+1,k,none⟩ (.bool true)).drew.cell? ⟨vb,1,none⟩=some (.string t):=bJ n3 v1
       have HMP:Hid (eU (W8.setCell ⟨w.heap.size+1,k,none⟩ (.bool true)).drew (w.heap.size+1+1+1) k s.name (fun y=>eR f s.name s.fn y k)):=O ((Z HI8).map.of_block (heap_setCell_other _ _ _ _ (by show w.heap.size+1+1+1≠w.heap.size+1;omega)))
       have HFI:Hid (∀ w',eU w' (w.heap.size+1+1+1) (k+1) s.name (fun y=>if y=fr.frm then some t else eR f s.name s.fn y k)->(W8.setCell ⟨w.heap.size+1,k,none⟩ (.bool true)).drew.grownBy w' (some (w.heap.size+1+1+1))->WaI w s n f (k+1) w'):=O (fun w' h1 h2=>(Z HI8).laid hlt true (by rw [xK (Z HOWN) (Z HSH) (Z HFN)];rw [Z HPG];rfl) (Z HOWN) (Z HSH) (Z HFN) h1 h2)
       generalize (W8.setCell ⟨w.heap.size+1,k,none⟩ (.bool true)).drew=W9 at k0 k1 u0' u1' HMP HFI ⊢
       clear n1 n2 n3 n4 c0 f0 y0 z0 z1 v0 v1 HXB HXV8 HXK8 HI8
       go_wp2_with (at_mapUpdate;refine mQ _ (by rfl) _ _ _ (by rfl) (w.heap.size+1+1+1) k s.name _ (by rfl) (Z HMP) (by unfold maxLen;omega) fr.frm hwf hzm t (by rfl) (by rfl) ?_;intro w10 hpm hgr;have HW10:=O (Z HFI w10 hpm hgr);clear hpm hgr)
       go_roundg (n - (k+1))
       case measure=>omega
       case rel=>exact ⟨k+1,by omega,by go_num,Z HW10⟩
      | some t' =>
       rw [hpg] at hlook
       simp only [zN,Option.isSome_some] at hlook
       have HPG:=O hpg
       clear hpg
       go_upto_region 12 with fail
       have HBM:=O (bH W7 (.cells #[.string s.name,.string t'] 40))
       have HXB:=O (heap_alloc_new W7 (.cells #[.string s.name,.string t'] 40))
       have HI8:=O ((Z HI7).go (Z HBM))
       have HXV8:Hid ((W7.alloc (.cells #[.string s.name,.string t'] 40)).heap[vb]?=some (.cells #[.string s.name,.string t] 40 (0,0))):=O (by rw [(Z HBM).block _ (cY (Z HXV7))];exact Z HXV7)
       have HXK8:Hid ((W7.alloc (.cells #[.string s.name,.string t'] 40)).heap[kb]?=some (.cells #[.int .i64 fr.frm,.string s.name] 335 (0,0))):=O (by rw [(Z HBM).block _ (cY (Z HXK))];exact Z HXK)
       obtain ⟨bb,hbb⟩:∃ bb,bb=W7.heap.size:=⟨_,rfl⟩
       rw [<- hbb] at HXB
       rw [<- hbb]
       generalize W7.alloc (.cells #[.string s.name,.string t'] 40)=W8 at HXB HI8 HXV8 HXK8 ⊢
       clear hbb HBM HI7 HXV7 HXK hlook q0 q1
       have c0:=(Z HI8).bools.2 k hlt
       have f0:=(Z HI8).bools.frozen k
       have y0:W8.cell? ⟨w.heap.size+1+1,0,none⟩=some (.slice (some ⟨w.heap.size+1,0,none⟩) n n):=by rw [cell_of_row W8 _ 0 _ _ _ (Z HI8).ibx];rfl
       have z0:W8.cell? ⟨bb,0,none⟩=some (.string s.name):=by rw [cell_of_row W8 bb 0 _ _ _ (Z HXB)];rfl
       have z1:W8.cell? ⟨bb,1,none⟩=some (.string t'):=by rw [cell_of_row W8 bb 1 _ _ _ (Z HXB)];rfl
       have v0:W8.cell? ⟨vb,0,none⟩=some (.string s.name):=by rw [cell_of_row W8 vb 0 _ _ _ (Z HXV8)];rfl
       have v1:W8.cell? ⟨vb,1,none⟩=some (.string t):=by rw [cell_of_row W8 vb 1 _ _ _ (Z HXV8)];rfl
       have n1:w.heap.size+1≠w.heap.size+1+1:=by omega
       have n2:w.heap.size+1≠bb:=fun e=>by
        obtain ⟨⟨cs,h1⟩,_⟩:=(Z HI8).bools
        rw [e,Z HXB] at h1;cases h1
       have n3:w.heap.size+1≠vb:=fun e=>by
        obtain ⟨⟨cs,h1⟩,_⟩:=(Z HI8).bools
        rw [e,Z HXV8] at h1;cases h1
       generalize pQ f s k k=u0 at c0
       by_cases het:t'=t
       ·subst het
        go_region_held3 (fun w'=>w'.cell? ⟨w.heap.size+1+1,0,none⟩=some (.slice (some ⟨w.heap.size+1,0,none⟩) n n)/\w'.cell? ⟨bb,0,none⟩=some (.string s.name)/\w'.cell? ⟨bb,1,none⟩=some (.string t')/\w'.cell? ⟨vb,0,none⟩=some (.string s.name)/\w'.cell? ⟨vb,1,none⟩=some (.string t'))
         (first | (exact ⟨y0,z0,z1,v0,v1⟩) | (exact ⟨bJ n1 y0,bJ n2 z0,bJ n2 z1,bJ n3 v0,bJ n3 v1⟩))
         (fail)
        have n4:w.heap.size+1≠kb:=fun e=>by
         obtain ⟨⟨cs,h1⟩,_⟩:=(Z HI8).bools
         rw [e,Z HXK8] at h1;cases h1
        have k0:(W8.setCell ⟨w.heap.size+1,k,none⟩ (.bool false)).drew.cell? ⟨kb,0,none⟩=some (.int .i64 fr.frm):=bJ n4 (by rw [cell_of_row W8 kb 0 _ _ _ (Z HXK8)];rfl)
        have k1:(W8.setCell ⟨w.heap.size+1,k,none⟩ (.bool false)).drew.cell? ⟨kb,1,none⟩=some (.string s.name):=bJ n4 (by rw [cell_of_row W8 kb 1 _ _ _ (Z HXK8)];rfl)
        have u0':(W8.setCell ⟨w.heap.size+1,k,none⟩ (.bool false)).drew.cell? ⟨vb,0,none⟩=some (.string s.name):=bJ n3 v0
        have u1':(W8.setCell ⟨w.heap.size+1,k,none⟩ (.bool false)).drew.cell? ⟨vb,1,none⟩=some (.string t'):=bJ n3 v1
        have HMP:Hid (eU (W8.setCell ⟨w.heap.size+1,k,none⟩ (.bool false)).drew (w.heap.size+1+1+1) k s.name (fun y=>eR f s.name s.fn y k)):=O ((Z HI8).map.of_block (heap_setCell_other _ _ _ _ (by show w.heap.size+1+1+1≠w.heap.size+1;omega)))
        have HFI:Hid (∀ w',eU w' (w.heap.size+1+1+1) (k+1) s.name (fun y=>if y=fr.frm then some t' else eR f s.name s.fn y k)->(W8.setCell ⟨w.heap.size+1,k,none⟩ (.bool false)).drew.grownBy w' (some (w.heap.size+1+1+1))->WaI w s n f (k+1) w'):=O (fun w' h1 h2=>(Z HI8).laid hlt false (by rw [xK (Z HOWN) (Z HSH) (Z HFN)];rw [Z HPG];simp) (Z HOWN) (Z HSH) (Z HFN) h1 h2)
        generalize (W8.setCell ⟨w.heap.size+1,k,none⟩ (.bool false)).drew=W9 at k0 k1 u0' u1' HMP HFI ⊢
        clear n1 n2 n3 n4 c0 f0 y0 z0 z1 v0 v1 HXB HXV8 HXK8 HI8
        go_wp2_with (at_mapUpdate;refine mQ _ (by rfl) _ _ _ (by rfl) (w.heap.size+1+1+1) k s.name _ (by rfl) (Z HMP) (by unfold maxLen;omega) fr.frm hwf hzm t' (by rfl) (by rfl) ?_;intro w10 hpm hgr;have HW10:=O (Z HFI w10 hpm hgr);clear hpm hgr)
        go_roundg (n - (k+1))
        case measure=>omega
        case rel=>exact ⟨k+1,by omega,by go_num,Z HW10⟩
       have hbe:=yH het
       have HET:=O het
       clear het
       go_region_held3 (fun w'=>w'.cell? ⟨w.heap.size+1+1,0,none⟩=some (.slice (some ⟨w.heap.size+1,0,none⟩) n n)/\w'.cell? ⟨bb,0,none⟩=some (.string s.name)/\w'.cell? ⟨bb,1,none⟩=some (.string t')/\w'.cell? ⟨vb,0,none⟩=some (.string s.name)/\w'.cell? ⟨vb,1,none⟩=some (.string t))
        (first | (exact ⟨y0,z0,z1,v0,v1⟩) | (exact ⟨bJ n1 y0,bJ n2 z0,bJ n2 z1,bJ n3 v0,bJ n3 v1⟩))
        (fail)
       have n4:w.heap.size+1≠kb:=fun e=>by
        obtain ⟨⟨cs,h1⟩,_⟩:=(Z HI8).bools
        rw [e,Z HXK8] at h1;cases h1
       have k0:(W8.setCell ⟨w.heap.size+1,k,none⟩ (.bool true)).drew.cell? ⟨kb,0,none⟩=some (.int .i64 fr.frm):=bJ n4 (by rw [cell_of_row W8 kb 0 _ _ _ (Z HXK8)];rfl)
       have k1:(W8.setCell ⟨w.heap.size+1,k,none⟩ (.bool true)).drew.cell? ⟨kb,1,none⟩=some (.string s.name):=bJ n4 (by rw [cell_of_row W8 kb 1 _ _ _ (Z HXK8)];rfl)
       have u0':(W8.setCell ⟨w.heap.size+1,k,none⟩ (.bool true)).drew.cell? ⟨vb,0,none⟩=some (.string s.name):=bJ n3 v0
       have u1':(W8.setCell ⟨w.heap.size+1,k,none⟩ (.bool true)).drew.cell? ⟨vb,1,none⟩=some (.string t):=bJ n3 v1
       have HMP:Hid (eU (W8.setCell ⟨w.heap.size+1,k,none⟩ (.bool true)).drew (w.heap.size+1+1+1) k s.name (fun y=>eR f s.name s.fn y k)):=O ((Z HI8).map.of_block (heap_setCell_other _ _ _ _ (by show w.heap.size+1+1+1≠w.heap.size+1;omega)))
       have HFI:Hid (∀ w',eU w' (w.heap.size+1+1+1) (k+1) s.name (fun y=>if y=fr.frm then some t else eR f s.name s.fn y k)->(W8.setCell ⟨w.heap.size+1,k,none⟩ (.bool true)).drew.grownBy w' (some (w.heap.size+1+1+1))->WaI w s n f (k+1) w'):=O (fun w' h1 h2=>(Z HI8).laid hlt true (by rw [xK (Z HOWN) (Z HSH) (Z HFN)];rw [Z HPG];simp [Z HET]) (Z HOWN) (Z HSH) (Z HFN) h1 h2)
       generalize (W8.setCell ⟨w.heap.size+1,k,none⟩ (.bool true)).drew=W9 at k0 k1 u0' u1' HMP HFI ⊢
       clear n1 n2 n3 n4 c0 f0 y0 z0 z1 v0 v1 HXB HXV8 HXK8 HI8
       go_wp2_with (at_mapUpdate;refine mQ _ (by rfl) _ _ _ (by rfl) (w.heap.size+1+1+1) k s.name _ (by rfl) (Z HMP) (by unfold maxLen;omega) fr.frm hwf hzm t (by rfl) (by rfl) ?_;intro w10 hpm hgr;have HW10:=O (Z HFI w10 hpm hgr);clear hpm hgr)
       go_roundg (n - (k+1))
       case measure=>omega
       case rel=>exact ⟨k+1,by omega,by go_num,Z HW10⟩
    have hfb:(fr.fn != s.fn)=true:=by simpa using hfn
    have HFN:=O hfn
    clear hfn
    go_wp2_with fail
    go_quiet (fail)
    go_wp2_with fail
    go_roundg (n - (k+1))
    case measure=>omega
    case rel=>exact ⟨k+1,by omega,by go_num,((Z HI4).go (below_drewN (Below.refl _ _) _)).pass (watch_other (Z HOWN) (Z HFN)) (fun x=>tR (fun fr2 t h _ h3=>by rw [Z HOWN] at h;cases h;exact Z HFN h3.1))⟩
  have e:n=k:=by omega
  subst e
  have hnk:¬ ((n:Int)<(n:Int)):=by omega
  go_wp2_with fail
  go_ret
  exact ⟨⟨_,rfl,_,(Z HI).ibx,(Z HI).bools.congr (fun i hi=>if_pos hi)⟩,(Z HI).below⟩
end
section
open Go.RowKit
def mR (s:Sp):Array Value:=#[.int .i64 s.kind,.int .i64 s.fn,.int .i64 s.line,.string s.name]
def jD (W:World) (v mv:Value) (n:Nat) (f:Nat->M) (s:Sp):Prop :=
 (s.kind=1/\∃ mb sb,v=.func (.func 183) #[] #[.pointer (some ⟨mb,0,none⟩),.pointer (some ⟨sb,0,none⟩)]/\W.heap[mb]?=some (.cells #[mv] 24 (0,0))/\W.heap[sb]?=some (.cells (mR s) 45 (0,0))) ∨
 (s.kind=2/\∃ mb sb,v=.func (.func 184) #[] #[.pointer (some ⟨mb,0,none⟩),.pointer (some ⟨sb,0,none⟩)]/\W.heap[mb]?=some (.cells #[mv] 24 (0,0))/\W.heap[sb]?=some (.cells (mR s) 45 (0,0))) ∨
 (s.kind=3/\∃ ib b,v=.func (.func 220) #[] #[.pointer (some ⟨ib,0,none⟩)]/\W.heap[ib]?=some (.cells #[.slice (some ⟨b,0,none⟩) n n] 157 (0,0))/\eX b W n (dF f s)) ∨
 (s.kind=4/\∃ mb,v=.func (.func 186) #[] #[.pointer (some ⟨mb,0,none⟩)]/\W.heap[mb]?=some (.cells #[mv] 24 (0,0)))
theorem jD.grown {W W':World} {v mv:Value} {n:Nat} {f:Nat->M} {s:Sp} (h:jD W v mv n f s) (hb:∀ b,b<W.heap.size->(∀ cs fr,W.heap[b]? ≠ some (.cells cs 228 fr))->W'.heap[b]?=W.heap[b]?):jD W' v mv n f s:=by
 have hk:∀ {b:Nat} {cs:Array Value} {t:TypeId} {fr:Nat × Nat},t≠228->W.heap[b]?=some (.cells cs t fr)->W'.heap[b]?=some (.cells cs t fr):=fun ht h=>by
  rw [hb _ (cY h) (fun cs' fr' e=>by rw [h] at e;cases e;exact ht rfl)];exact h
 rcases h with ⟨e,mb,sb,h1,h2,h4⟩ | ⟨e,mb,sb,h1,h2,h4⟩ | ⟨e,ib,b,h1,h2,h3⟩ | ⟨e,mb,h1,h2⟩
 ·exact .inl ⟨e,mb,sb,h1,hk (by decide) h2,hk (by decide) h4⟩
 ·exact .inr (.inl ⟨e,mb,sb,h1,hk (by decide) h2,hk (by decide) h4⟩)
 ·refine .inr (.inr (.inl ⟨e,ib,b,h1,hk (by decide) h2,?_⟩))
  obtain ⟨⟨cs,h5⟩,h6⟩:=h3
  have h7:=hk (by decide) h5
  exact ⟨⟨cs,h7⟩,fun i hi=>by rw [World.cell?_of_block (w:=W) (w':=W') (a:=⟨b,i,none⟩) (by rw [h7,h5])];exact h6 i hi⟩
 exact .inr (.inr (.inr ⟨e,mb,h1,hk (by decide) h2⟩))
theorem jD.below {W W':World} {v mv:Value} {n:Nat} {f:Nat->M} {s:Sp} (h:jD W v mv n f s) (hb:Below W.heap.size W W'):jD W' v mv n f s:=h.grown (fun b hl _=>hb.block b hl)
theorem jD.form {W:World} {v mv:Value} {n:Nat} {f:Nat->M} {s:Sp} (h:jD W v mv n f s):∃ g lb,v=.func (.func g) #[] lb:=by
 rcases h with ⟨e,mb,sb,h1,-⟩ | ⟨e,mb,sb,h1,-⟩ | ⟨e,ib,b,h1,-⟩ | ⟨e,mb,h1,-⟩
 all_goals exact ⟨_,_,h1⟩
theorem jD.one {W:World} {v mv:Value} {n:Nat} {f:Nat->M} {s:Sp} (h:jD W v mv n f s):v.oneCell'=true:=by
 rcases h with ⟨e,mb,sb,h1,-⟩ | ⟨e,mb,sb,h1,-⟩ | ⟨e,ib,b,h1,-⟩ | ⟨e,mb,h1,-⟩<;>rw [h1]<;>rfl
theorem test1_any (lo mb sb:Nat) (mv:Value) (n:Nat) (f:Nat->M) (s:Sp) (k:Nat) (w:World) (hk:k<n) (hs:s.kind=1) (h1:w.heap[mb]?=some (.cells #[mv] 24 (0,0))) (h2:bQ lo w mv n f) (h3:w.heap[sb]?=some (.cells (mR s) 45 (0,0))) :
  Calls Tryz.prog 183 #[.int .i64 k,.pointer (some ⟨mb,0,none⟩),.pointer (some ⟨sb,0,none⟩)] w fun e w'=>e=.returned (.bool (hit f s k))/\Below w.heap.size w w':=by
 obtain ⟨a2,cap2,rfl,-,hv⟩:=h2
 obtain ⟨bm,om,vv,rfl,hc0,hc1,hc2,hc3,hc4,hc5,-,hvv,-⟩:=hv k hk
 obtain ⟨av,capv,rfl,-⟩:=hvv
 have c0:w.cell? ⟨mb,0,none⟩=some (.slice (some ⟨bm,om,none⟩) n cap2):=by rw [cell_of_row w mb 0 _ _ _ h1];rfl
 have hz:sb<w.heap.size:=cY h3
 have hne:sb≠w.heap.size:=by omega
 have s1:w.cell? ⟨sb,1,none⟩=some (.int .i64 s.fn):=by rw [cell_of_row w sb 1 _ _ _ h3];rfl
 have s2:w.cell? ⟨sb,2,none⟩=some (.int .i64 s.line):=by rw [cell_of_row w sb 2 _ _ _ h3];rfl
 have hkz:(0:Int)<=(k:Int):=by omega
 have hkn:(k:Int)<(n:Int):=by omega
 have HH:Hid (hit f s k=decide ((f k).kind=1/\(f k).fn=s.fn/\(f k).line=s.line)):=O (by unfold hit;rw [if_pos hs])
 have HB:=O (bH w (.cells #[.int .i64 (f k).kind,.int .i64 (f k).task,.int .i64 (f k).fn,.int .i64 (f k).line,.string (f k).text,.slice av (f k).nv capv] 108))
 clear hv h1 h3 hs
 by_cases a1:(f k).kind=1
 ·have ab1:((f k).kind == 1)=true:=by rw [a1];rfl
  by_cases a2':(f k).fn=s.fn
  ·have ab2:((f k).fn == s.fn)=true:=by rw [a2'];simp
   by_cases a3:(f k).line=s.line
   ·have ab3:((f k).line == s.line)=true:=by rw [a3];simp
    have HR:Hid (hit f s k=true):=O (by rw [Z HH];exact decide_eq_true ⟨a1,a2',a3⟩)
    clear a1 a2' a3
    go_enter Tryz.func183,Tryz.ntmps183
    go_wp2_with fail
    go_ret
    exact ⟨by rw [Z HR];rfl,Z HB⟩
   have ab3:((f k).line == s.line)=false:=by simpa using a3
   have HR:Hid (hit f s k=false):=O (by rw [Z HH];exact decide_eq_false (fun h=>a3 h.2.2))
   clear a1 a2' a3
   go_enter Tryz.func183,Tryz.ntmps183
   go_wp2_with fail
   go_ret
   exact ⟨by rw [Z HR];rfl,Z HB⟩
  have ab2:((f k).fn == s.fn)=false:=by simpa using a2'
  have HR:Hid (hit f s k=false):=O (by rw [Z HH];exact decide_eq_false (fun h=>a2' h.2.1))
  clear a1 a2'
  go_enter Tryz.func183,Tryz.ntmps183
  go_wp2_with fail
  go_ret
  exact ⟨by rw [Z HR];rfl,Z HB⟩
 have ab1:((f k).kind == 1)=false:=by simpa using a1
 have HR:Hid (hit f s k=false):=O (by rw [Z HH];exact decide_eq_false (fun h=>a1 h.1))
 clear a1
 go_enter Tryz.func183,Tryz.ntmps183
 go_wp2_with fail
 go_ret
 exact ⟨by rw [Z HR];rfl,Z HB⟩
theorem test2_any (lo mb sb:Nat) (mv:Value) (n:Nat) (f:Nat->M) (s:Sp) (k:Nat) (w:World) (hk:k<n) (hs:s.kind=2) (h1:w.heap[mb]?=some (.cells #[mv] 24 (0,0))) (h2:bQ lo w mv n f) (h3:w.heap[sb]?=some (.cells (mR s) 45 (0,0))) :
  Calls Tryz.prog 184 #[.int .i64 k,.pointer (some ⟨mb,0,none⟩),.pointer (some ⟨sb,0,none⟩)] w fun e w'=>e=.returned (.bool (hit f s k))/\Below w.heap.size w w':=by
 obtain ⟨a2,cap2,rfl,-,hv⟩:=h2
 obtain ⟨bm,om,vv,rfl,hc0,hc1,hc2,hc3,hc4,hc5,-,hvv,-⟩:=hv k hk
 obtain ⟨av,capv,rfl,-⟩:=hvv
 have c0:w.cell? ⟨mb,0,none⟩=some (.slice (some ⟨bm,om,none⟩) n cap2):=by rw [cell_of_row w mb 0 _ _ _ h1];rfl
 have hz:sb<w.heap.size:=cY h3
 have hne:sb≠w.heap.size:=by omega
 have s1:w.cell? ⟨sb,1,none⟩=some (.int .i64 s.fn):=by rw [cell_of_row w sb 1 _ _ _ h3];rfl
 have hkz:(0:Int)<=(k:Int):=by omega
 have hkn:(k:Int)<(n:Int):=by omega
 have HH:Hid (hit f s k=decide ((f k).kind=2/\(f k).fn=s.fn)):=O (by unfold hit;rw [if_neg (by omega),if_pos hs])
 have HB:=O (bH w (.cells #[.int .i64 (f k).kind,.int .i64 (f k).task,.int .i64 (f k).fn,.int .i64 (f k).line,.string (f k).text,.slice av (f k).nv capv] 108))
 clear hv h1 h3 hs
 by_cases a1:(f k).kind=2
 ·have ab1:((f k).kind == 2)=true:=by rw [a1];rfl
  by_cases a2':(f k).fn=s.fn
  ·have ab2:((f k).fn == s.fn)=true:=by rw [a2'];simp
   have HR:Hid (hit f s k=true):=O (by rw [Z HH];exact decide_eq_true ⟨a1,a2'⟩)
   clear a1 a2'
   go_enter Tryz.func184,Tryz.ntmps184
   go_wp2_with fail
   go_ret
   exact ⟨by rw [Z HR];rfl,Z HB⟩
  have ab2:((f k).fn == s.fn)=false:=by simpa using a2'
  have HR:Hid (hit f s k=false):=O (by rw [Z HH];exact decide_eq_false (fun h=>a2' h.2))
  clear a1 a2'
  go_enter Tryz.func184,Tryz.ntmps184
  go_wp2_with fail
  go_ret
  exact ⟨by rw [Z HR];rfl,Z HB⟩
 have ab1:((f k).kind == 2)=false:=by simpa using a1
 have HR:Hid (hit f s k=false):=O (by rw [Z HH];exact decide_eq_false (fun h=>a1 h.1))
 clear a1
 go_enter Tryz.func184,Tryz.ntmps184
 go_wp2_with fail
 go_ret
 exact ⟨by rw [Z HR];rfl,Z HB⟩
theorem test4_any (lo mb:Nat) (mv:Value) (n:Nat) (f:Nat->M) (s:Sp) (k:Nat) (w:World) (hk:k<n) (hs:s.kind=4) (h1:w.heap[mb]?=some (.cells #[mv] 24 (0,0))) (h2:bQ lo w mv n f) :
  Calls Tryz.prog 186 #[.int .i64 k,.pointer (some ⟨mb,0,none⟩)] w fun e w'=>e=.returned (.bool (hit f s k))/\Below w.heap.size w w':=by
 obtain ⟨a2,cap2,rfl,-,hv⟩:=h2
 obtain ⟨bm,om,vv,rfl,hc0,-⟩:=hv k hk
 have c0:w.cell? ⟨mb,0,none⟩=some (.slice (some ⟨bm,om,none⟩) n cap2):=by rw [cell_of_row w mb 0 _ _ _ h1];rfl
 have hkz:(0:Int)<=(k:Int):=by omega
 have hkn:(k:Int)<(n:Int):=by omega
 have HH:Hid (hit f s k=decide ((f k).kind=4)):=O (by unfold hit;rw [if_neg (by omega),if_neg (by omega),if_neg (by omega)])
 clear hv h1 hs
 by_cases a1:(f k).kind=4
 ·have HR:Hid (hit f s k=true):=O (by rw [Z HH];exact decide_eq_true a1)
  rw [a1] at hc0
  clear a1
  go_enter Tryz.func186,Tryz.ntmps186
  go_wp2_with fail
  go_ret
  exact ⟨by rw [Z HR];rfl,Below.refl _ _⟩
 have ab1:((f k).kind == 4)=false:=by simpa using a1
 have HR:Hid (hit f s k=false):=O (by rw [Z HH];exact decide_eq_false a1)
 clear a1
 go_enter Tryz.func186,Tryz.ntmps186
 go_wp2_with fail
 go_ret
 exact ⟨by rw [Z HR];simp,Below.refl _ _⟩
theorem test3_any (ib b n:Nat) (f:Nat->M) (s:Sp) (k:Nat) (w:World) (hk:k<n) (hs:s.kind=3) (h1:w.heap[ib]?=some (.cells #[.slice (some ⟨b,0,none⟩) n n] 157 (0,0))) (h2:eX b w n (dF f s)) :
  Calls Tryz.prog 220 #[.int .i64 k,.pointer (some ⟨ib,0,none⟩)] w fun e w'=>e=.returned (.bool (hit f s k))/\Below w.heap.size w w':=by
 have c0:w.cell? ⟨ib,0,none⟩=some (.slice (some ⟨b,0,none⟩) n n):=by rw [cell_of_row w ib 0 _ _ _ h1];rfl
 have c1:=h2.2 k hk
 have hkz:(0:Int)<=(k:Int):=by omega
 have hkn:(k:Int)<(n:Int):=by omega
 have HH:Hid (hit f s k=dF f s k):=O (by unfold hit;rw [if_neg (by omega),if_neg (by omega),if_pos hs])
 clear h1 h2 hs
 go_enter Tryz.func220,Tryz.ntmps220
 go_wp2_with fail
 go_ret
 exact ⟨by rw [Z HH];rfl,Below.refl _ _⟩
theorem bH0 (lo lp:Nat) (mv pv:Value) (nf:Nat) (fns:Nat->ByteArray) (n:Nat) (f:Nat->M) (s:Sp) (w:World) (h2:bQ lo w mv n f) (hp:bW lp w pv n f) (hs:cB nf fns n f) (hi:qN s) :
  Calls Tryz.prog 147 #[mv,pv,.agg #[.int .i64 s.kind,.int .i64 s.fn,.int .i64 s.line,.string s.name]] w fun e w'=>(∃ v,e=.returned v/\jD w' v mv n f s)/\Below w.heap.size w w':=by
 have H2:=O h2
 have HP:=O hp
 have HS:=O hs
 have HI:=O hi
 clear hs hp hi
 have HX1:Hid (((w.alloc (.cells #[mv] 24)).alloc (.cells #[.int .i64 s.kind,.int .i64 s.fn,.int .i64 s.line,.string s.name] 45)).heap[w.heap.size]?=some (.cells #[mv] 24 (0,0))):=O (by rw [Below.heap_alloc _ _ _ (by simp)];exact heap_alloc_new w _)
 have HX2:Hid (((w.alloc (.cells #[mv] 24)).alloc (.cells #[.int .i64 s.kind,.int .i64 s.fn,.int .i64 s.line,.string s.name] 45)).heap[w.heap.size+1]?=some (.cells (mR s) 45 (0,0))):=O (by have:=heap_alloc_new (w.alloc (.cells #[mv] 24)) (.cells (mR s) 45);simpa [mR] using this)
 have HB:Hid (Below w.heap.size w ((w.alloc (.cells #[mv] 24)).alloc (.cells #[.int .i64 s.kind,.int .i64 s.fn,.int .i64 s.line,.string s.name] 45))):=O (((Below.refl _ _).alloc (Nat.le_refl _) _).alloc (by simp) _)
 obtain ⟨a2,cap2,rfl,-,-⟩:=h2
 go_enter Tryz.func147,Tryz.ntmps147
 go_upto_region 1 with fail
 generalize (w.alloc (.cells #[.slice a2 n cap2] 24)).alloc (.cells #[.int .i64 s.kind,.int .i64 s.fn,.int .i64 s.line,.string s.name] 45)=W1 at HX1 HX2 HB ⊢
 have y0:W1.cell? ⟨w.heap.size+1,0,none⟩=some (.int .i64 s.kind):=by rw [cell_of_row W1 _ 0 _ _ _ (Z HX2)];rfl
 rcases (Z HI).2.2 with ⟨e,-⟩ | ⟨e,-⟩ | ⟨e,-⟩ | ⟨e,-⟩
 ·have kb:(s.kind == 1)=true:=by rw [e];rfl
  have HE:=O e
  clear e
  go_wp2_with fail
  go_ret
  exact ⟨⟨_,rfl,.inl ⟨Z HE,_,_,rfl,Z HX1,Z HX2⟩⟩,Z HB⟩
 ·have kb1:(s.kind == 1)=false:=by rw [e];rfl
  have kb:(s.kind == 2)=true:=by rw [e];rfl
  have HE:=O e
  clear e
  go_wp2_with fail
  go_ret
  exact ⟨⟨_,rfl,.inr (.inl ⟨Z HE,_,_,rfl,Z HX1,Z HX2⟩)⟩,Z HB⟩
 ·have kb1:(s.kind == 1)=false:=by rw [e];rfl
  have kb2:(s.kind == 2)=false:=by rw [e];rfl
  have kb:(s.kind == 3)=true:=by rw [e];rfl
  have HE:=O e
  have x0:W1.cell? ⟨w.heap.size,0,none⟩=some (.slice a2 n cap2):=by rw [cell_of_row W1 _ 0 _ _ _ (Z HX1)];rfl
  have y1:W1.cell? ⟨w.heap.size+1,1,none⟩=some (.int .i64 s.fn):=by rw [cell_of_row W1 _ 1 _ _ _ (Z HX2)];rfl
  have y2:W1.cell? ⟨w.heap.size+1,2,none⟩=some (.int .i64 s.line):=by rw [cell_of_row W1 _ 2 _ _ _ (Z HX2)];rfl
  have y3:W1.cell? ⟨w.heap.size+1,3,none⟩=some (.string s.name):=by rw [cell_of_row W1 _ 3 _ _ _ (Z HX2)];rfl
  have hz:s.name.size<=40:=by
   rcases (Z HI).2.2 with ⟨e2,-⟩ | ⟨e2,-⟩ | ⟨-,-,-,h⟩ | ⟨e2,-⟩
   ·omega
   ·omega
   ·exact h
   omega
  clear e
  go_wp2_with fail
  refine (watchOf_any lo lp _ pv nf fns n f s _ ((Z H2).below (Z HB)) ((Z HP).below (Z HB)) (Z HS) hz).mono ?_
  rintro e w2 ⟨⟨ib,b,rfl,h1,h2⟩,hb⟩
  have HR:=O (And.intro h1 h2)
  have HB2:=hT HB hb
  clear h1 h2 hb x0 y0 y1 y2 y3
  go_wp2_with fail
  go_ret
  exact ⟨⟨_,rfl,.inr (.inr (.inl ⟨Z HE,_,_,rfl,(Z HR).1,(Z HR).2⟩))⟩,Z HB2⟩
 have kb1:(s.kind == 1)=false:=by rw [e];rfl
 have kb2:(s.kind == 2)=false:=by rw [e];rfl
 have kb3:(s.kind == 3)=false:=by rw [e];rfl
 have HE:=O e
 clear e
 go_wp2_with fail
 go_ret
 exact ⟨⟨_,rfl,.inr (.inr (.inr ⟨Z HE,_,rfl,Z HX1⟩))⟩,Z HB⟩
end
end Go.Proofs.YtmnmeaeicjhkhaaGreatDoor
