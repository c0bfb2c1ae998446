import Derived.Test.YtmnmeaeicjhkhaaGreatDoorCards
import Derived.Test.YtmnmeaeicjhkhaaGreatDoorTie
import Derived.Test.YtmnmeaeicjhkhaaGreatDoorGOx
import Derived.Test.YtmnmeaeicjhkhaaGreatDoorL26x
import Derived.Stop.LaidErr
import Derived.Deep.DeepLaidRun
set_option maxRecDepth 100000
namespace Go.Proofs.YtmnmeaeicjhkhaaGreatDoor.fnTop
open Go.ChangeShapes Go.WideShapes Go.ChangeAt Go.RowKit
theorem own:ownKnob Tryz.prog.godebug=none:=by kernel_rfl
theorem laidOut:laidOutB Tryz.prog=true:=by kernel_rfl
def tabCells:DataW Unit->Array Value
 | .agg l=>(l.filterMap fun | .lit (.int k z)=>some (Value.int k z) | _=>none).toArray
 | _=>#[]
noncomputable def laidWorld (os:Os):World :=
 let w0:=World.holding Tryz.prog os ⟨#[],#[],[]⟩
 { w0 with heap:=(((w0.heap.modify 2 fun
   | .cells _ t frozen=>.cells (tabCells Rows.laid_math_bits_deBruijn32tab) t frozen
   | o=>o).modify 3 fun
   | .cells _ t frozen=>.cells (tabCells Rows.laid_math_bits_deBruijn64tab) t frozen
   | o=>o).modify 1 fun
   | .cells _ t frozen=>.cells (tabCells Rows.laid_internal_strconv_uint64pow10) t frozen
   | o=>o).modify 0 fun
   | .cells _ t frozen=>.cells #[.iface 298 (.agg #[typeHandle Tryz.prog 99])] t frozen
   | o=>o }
theorem laidWorld_met (os:Os) (args:Array Value):laidMetH Tryz.prog Rows.fnTopRow.laid ((laidWorld os).forCall (fun _ _=>0) ⟨#[],args,[]⟩).memory :=
 laidMetH_of_parts (laidMet_of_run3 10 (by kernel_rfl) (by kernel_rfl) (by kernel_rfl)) (by kernel_rfl)
theorem gT:Tryz.prog.globalNamed "internal/strconv.uint64pow10"=some 1:=by kernel_rfl
theorem gTy:(Tryz.prog.globals[1]?).map (·.type)=some 344:=by kernel_rfl
theorem tab_of_laid {W:World} (h:laidMetH Tryz.prog Rows.fnTopRow.laid W):Tab W:=by
 have h':laidMet Tryz.prog [("math/bits.deBruijn32tab",Rows.laid_math_bits_deBruijn32tab),("math/bits.deBruijn64tab",Rows.laid_math_bits_deBruijn64tab),("internal/strconv.uint64pow10",Rows.laid_internal_strconv_uint64pow10)] W/\handlesMet Tryz.prog [("errors.errorType",Rows.laid_errors_errorType)] W:=h
 exact Lib.tabIs_of_head gT gTy Tryz.underlying344 Tryz.underlying71 (by kernel_rfl) (by kernel_rfl) (laidMet.tail (laidMet.tail h'.1))
theorem gE:Tryz.prog.globalNamed "errors.errorType"=some 0:=by kernel_rfl
theorem rowsE:(List.range Tryz.prog.types.size).all (fun t=>!(Tryz.prog.rowNamed t [101,114,114,111,114]) || t == 99)=true:=by kernel_rfl
theorem typE:(Tryz.prog.cutTypes.find? (·.1 == "internal/reflectlite.rtype")).map (·.2)=some 298:=by kernel_rfl
theorem hndE (ty:TypeId):typeHandle Tryz.prog ty=.pointer (some ⟨4,ty,none⟩):=by kernel_rfl
theorem handle_of_met {W:World} (h:handlesMet Tryz.prog [("errors.errorType",Rows.laid_errors_errorType)] W):W.cell? ⟨0,0,none⟩=some (.iface 298 (.agg #[.pointer (some ⟨4,99,none⟩)])):=by
 have h0:=h _ List.mem_cons_self
 obtain ⟨name,u,ty,e1,e2,lt,hr,hv⟩:=h0
 have en:name=[101,114,114,111,114]:=(Option.some.inj ((show (Rows.laid_errors_errorType (H:=Unit)).handleName?=some [101,114,114,111,114] by kernel_rfl).symm.trans e1)).symm
 subst en
 obtain rfl:u=298:=(Option.some.inj (typE.symm.trans e2)).symm
 have ht:=List.all_eq_true.1 rowsE ty (List.mem_range.2 lt)
 rw [hr] at ht
 obtain rfl:ty=99:=by simpa using ht
 rw [hndE] at hv
 unfold World.var? at hv
 rw [gE] at hv
 simp only [Option.bind_some] at hv
 cases hw:W.heap[0]? with
 | none=>rw [hw] at hv;cases hv
 | some o =>
  rw [hw] at hv
  cases o with
  | cells cs t fr =>
   obtain rfl:=Option.some.inj hv
   unfold World.cell?
   simp [hw]
  | _=>cases hv
theorem handle_of_laid {W:World} (h:laidMetH Tryz.prog Rows.fnTopRow.laid W):W.cell? ⟨0,0,none⟩=some (.iface 298 (.agg #[.pointer (some ⟨4,99,none⟩)])):=by
 have h':laidMet Tryz.prog [("math/bits.deBruijn32tab",Rows.laid_math_bits_deBruijn32tab),("math/bits.deBruijn64tab",Rows.laid_math_bits_deBruijn64tab),("internal/strconv.uint64pow10",Rows.laid_internal_strconv_uint64pow10)] W/\handlesMet Tryz.prog [("errors.errorType",Rows.laid_errors_errorType)] W:=h
 exact handle_of_met h'.2
theorem lifted (os:Os) (started:os.Started) (H:Type) (enc:TypeId × Value->H) :
  ReturnsInHanded {} Tryz.checked os 3 .any (fun w args=>(Rows.fnTopSpec.pre enc Tryz.prog Tryz.f3 Rows.fnTopRow.domain false w args/\laidMetH Tryz.prog Rows.fnTopRow.laid w)/\sizedMet enc Tryz.prog Tryz.f3 (OpenSpec.ofChange Rows.fnTopSpec) false w args)
   (Rows.fnTopSpec.post enc Tryz.prog Tryz.f3 false true false false):=by
 refine returnsInHanded_of_change_and (C:=Tryz.checked) (X:=fun w _=>laidMetH Tryz.prog Rows.fnTopRow.laid w) (fun _ _ _ hh h=>h.of_heap hh) own started (by kernel_rfl) Tryz.func3
  (ChangeSpec.witness_at (enc:=enc) (C:=Tryz.checked) (os:=os) (X:=fun w _=>laidMetH Tryz.prog Rows.fnTopRow.laid w) false (laidWorld os) #[.slice none 0 0,.slice none 0 0] 8 rfl (by kernel_rfl) (by kernel_rfl) (by kernel_rfl) (by kernel_rfl) (by kernel_rfl) (laidWorld_met os _)) ?_
 intro W base args ds gs before hval0 hW _ _ hL _
 have hval:∀ (j:Nat) t v,Tryz.f3.params[j]?=some t->args[j]?=some v->Value.okWide Tryz.prog W .any base t v:=hval0
 have hW':=hW
 obtain ⟨p,q,hA0,hV,rfl,_,_⟩:=hW
 have hA:DataW.TrodAll enc Tryz.prog W 0 (fun _=>true) true Tryz.f3.params.toList args.toList ds p:=hA0
 rw [Tryz.params3] at hA hval
 obtain ⟨v0,vs0,d0,ds0,p0,q0,hargs0,rfl,rfl,h0,r0⟩:=trodAll_cons hA
 obtain ⟨v1,vs1,d1,ds1,p1,q1,rfl,rfl,rfl,h1,r1⟩:=trodAll_cons r0
 obtain ⟨rfl,rfl,rfl⟩:=trodAll_nil r1
 obtain rfl:args=#[v0,v1]:=by cases args;simp_all
 obtain ⟨rfl,rfl⟩:=trodVars_none hV
 have k0:=h0
 have k1:=h1
 have lt1:∀ x∈p1,x.block<W.heap.size:=by obtain ⟨m,hm⟩:=k1;exact DataW.trod_lt m _ _ _ hm
 have lt0:∀ x∈p0,x.block<W.heap.size:=by obtain ⟨m,hm⟩:=k0;exact DataW.trod_lt m _ _ _ hm
 obtain ⟨n,hb⟩:=bB1 (hval 0 22 v0 rfl rfl) h0
 obtain ⟨n',hb'⟩:=bB1 (hval 1 22 v1 rfl rfl) h1
 clear hA0 hval0
 refine (fnTop_any v0 v1 n n' W hb hb' (handle_of_laid hL) (tab_of_laid hL)).mono fun e W' ⟨he,bel⟩=>?_
 subst he
 exact ⟨_,rfl,_,_,_,[],_,[],hW',trodAll_mk1 (shut_bool Tryz.underlying4 _),(trodAll_cons_mk (Below.trod laidOut (by kernel_rfl) (of_decide_eq_true (by kernel_rfl)) k0 bel lt0) (trodAll_cons_mk (Below.trod laidOut (by kernel_rfl) (of_decide_eq_true (by kernel_rfl)) k1 bel lt1) trodAll_mk0)),rfl,bel.frame _,fun h=>by cases h⟩
theorem over:Rows.fnTopRow.holds Tryz.pinned (OpenSpec.ofChange Rows.fnTopSpec) :=
 OpenClaim.holds_of_wide 3 Tryz.f3 rfl rfl rfl rfl rfl rfl rfl ⟨rfl,rfl,rfl,rfl,rfl⟩ rfl rfl rfl rfl rfl (by kernel_rfl) Tryz.func3 (by kernel_rfl)
  (of_decide_eq_true (by kernel_rfl)) (by unfold Func.isWrapper;first | (rw [if_pos (by decide +kernel)];kernel_rfl) | (rw [if_neg (by decide +kernel)];exact ⟨rfl,rfl⟩))
  (fun os started H enc _=>lifted os started H enc)
theorem card:Rows.FnTopCardSaid :=
 Claim7.holds_tied_plain_at .later [] [.data,.data,.data,.handle] true Rows.fnTopCard.stood.harness true
  over (fun _ h=>by cases h) (by kernel_rfl) (fun _ h=>by cases h) fnTop_row_tie rfl ⟨rfl,rfl⟩ (by kernel_rfl) rfl
  (fun f fn hf hfn=>by
   obtain rfl:f=3:=Option.some.inj ((show Tryz.prog.funcNamed Rows.fnTopRow.func=some 3 by kernel_rfl).symm.trans hf) |>.symm
   obtain rfl:fn=Tryz.f3:=(Option.some.inj (Tryz.func3.symm.trans hfn)).symm
   exact ⟨by kernel_rfl,fun j t ht=>by
    rw [Tryz.params3] at ht
    have h3:t=22:=by
     rcases j with _ | _ | j
     ·simpa using ht.symm
     ·simpa using ht.symm
     simp at ht
    subst h3
    exact (show Tryz.prog.wantsStandIn 22=false by kernel_rfl)⟩)
  (by kernel_rfl)
end Go.Proofs.YtmnmeaeicjhkhaaGreatDoor.fnTop
namespace Go.Proofs.YtmnmeaeicjhkhaaGreatDoor
theorem fnTop_holds:Rows.FnTopCardSaid:=fnTop.card
#print axioms fnTop_holds
end Go.Proofs.YtmnmeaeicjhkhaaGreatDoor
