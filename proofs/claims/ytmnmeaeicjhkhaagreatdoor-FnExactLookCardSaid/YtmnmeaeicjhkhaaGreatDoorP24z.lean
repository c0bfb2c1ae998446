import Derived.Test.YtmnmeaeicjhkhaaGreatDoorRows
import Derived.Test.YtmnmeaeicjhkhaaGreatDoorCards
import Derived.Test.YtmnmeaeicjhkhaaGreatDoorTie
import Derived.Test.YtmnmeaeicjhkhaaGreatDoorGOz
import Derived.Test.YtmnmeaeicjhkhaaGreatDoorOpenAz
import Derived.Test.YtmnmeaeicjhkhaaGreatDoorL24z
import Derived.ProofKit
import Derived.OpenShut
import Derived.ShutString
import Derived.ChangeOld
import Derived.ChangeSame
import Derived.ChangeVars
import Derived.JoinedOf
import Derived.LaidLaws
import Derived.LaidHandle
import Derived.ChangeSlices
import Derived.Lib.LaidTab
import Derived.Stop.LaidErr
import Derived.Deep.DeepLaidRun
import Derived.SevenTiedAt
import Derived.Below
set_option maxRecDepth 100000
namespace Go.Proofs.YtmnmeaeicjhkhaaGreatDoor.fnExactLook
open Go.ChangeShapes Go.WideShapes Go.ChangeAt Go.RowKit
theorem own:ownKnob Tryz.prog.godebug=none:=by kernel_rfl
theorem laidOut:laidOutB Tryz.prog=true:=by kernel_rfl
noncomputable def laidWorld (os:Os):World :=
 let w0:=World.holding Tryz.prog os ⟨#[],#[],[]⟩
 { w0 with heap:=w0.heap.modify 0 fun
   | .cells _ t frozen=>.cells #[.iface 298 (.agg #[typeHandle Tryz.prog 99])] t frozen
   | o=>o }
theorem laidWorld_met (os:Os) (args:Array Value):laidMetH Tryz.prog Rows.fnExactLookRow.laid ((laidWorld os).forCall (fun _ _=>0) ⟨#[],args,[]⟩).memory :=
 laidMetH_of_parts (show laidMet Tryz.prog [] _ from ⟨[],rfl,List.nodup_nil,fun _ _ h=>by cases h⟩) (by kernel_rfl)
theorem gE:Tryz.prog.globalNamed "errors.errorType"=some 0:=by kernel_rfl
theorem rowsE:(List.range Tryz.prog.types.size).all (fun t=>!(Tryz.prog.rowNamed t [101,114,114,111,114]) || t == 99)=true:=by kernel_rfl
theorem typE:(Tryz.prog.cutTypes.find? (·.1 == "internal/reflectlite.rtype")).map (·.2)=some 298:=by kernel_rfl
theorem hndE (ty:TypeId):typeHandle Tryz.prog ty=.pointer (some ⟨4,ty,none⟩):=by kernel_rfl
theorem handle_of_met {W:World} (h:handlesMet Tryz.prog [("errors.errorType",Rows.laid_errors_errorType)] W):W.cell? ⟨0,0,none⟩=some (.iface 298 (.agg #[.pointer (some ⟨4,99,none⟩)])):=by
 have h0:=h _ List.mem_cons_self
 obtain ⟨name,u,ty,e1,e2,lt,hr,hv⟩:=h0
 have en:name=[101,114,114,111,114]:=(Option.some.inj ((show (Rows.laid_errors_errorType (H:=Unit)).handleName?=some [101,114,114,111,114] by kernel_rfl).symm.trans e1)).symm
 subst en
 obtain rfl:u=298:=(Option.some.inj (typE.symm.trans e2)).symm
 have ht:=List.all_eq_true.1 rowsE ty (List.mem_range.2 lt)
 rw [hr] at ht
 obtain rfl:ty=99:=by simpa using ht
 rw [hndE] at hv
 unfold World.var? at hv
 rw [gE] at hv
 simp only [Option.bind_some] at hv
 cases hw:W.heap[0]? with
 | none=>rw [hw] at hv;cases hv
 | some o =>
  rw [hw] at hv
  cases o with
  | cells cs t fr =>
   obtain rfl:=Option.some.inj hv
   unfold World.cell?
   simp [hw]
  | _=>cases hv
theorem handle_of_laid {W:World} (h:laidMetH Tryz.prog Rows.fnExactLookRow.laid W):W.cell? ⟨0,0,none⟩=some (.iface 298 (.agg #[.pointer (some ⟨4,99,none⟩)])):=by
 have h':laidMet Tryz.prog [] W∧handlesMet Tryz.prog [("errors.errorType",Rows.laid_errors_errorType)] W:=h
 exact handle_of_met h'.2
theorem lifted (os:Os) (started:os.Started) (H:Type) (enc:TypeId × Value→H) :
  ReturnsInHanded {} Tryz.checked os 6 .any (fun w args=>(Rows.fnExactLookSpec.pre enc Tryz.prog Tryz.f6 Rows.fnExactLookRow.domain false w args∧laidMetH Tryz.prog Rows.fnExactLookRow.laid w)∧sizedMet enc Tryz.prog Tryz.f6 (OpenSpec.ofChange Rows.fnExactLookSpec) false w args)
   (Rows.fnExactLookSpec.post enc Tryz.prog Tryz.f6 false true false false):=by
 refine returnsInHanded_of_change_and (C:=Tryz.checked) (X:=fun w _=>laidMetH Tryz.prog Rows.fnExactLookRow.laid w) (fun _ _ _ hh h=>h.of_heap hh) own started (by kernel_rfl) Tryz.func6
  (ChangeSpec.witness_at (enc:=enc) (C:=Tryz.checked) (os:=os) (X:=fun w _=>laidMetH Tryz.prog Rows.fnExactLookRow.laid w) false (laidWorld os) #[.agg #[.slice none 0 0,.slice none 0 0],.slice none 0 0] 8 rfl (by kernel_rfl) (by kernel_rfl) (by kernel_rfl) (by kernel_rfl) (by kernel_rfl) (laidWorld_met os _)) ?_
 intro W base args ds gs before hval0 hW _ _ hL _
 have hval:∀ (j:Nat) t v,Tryz.f6.params[j]?=some t→args[j]?=some v→Value.okWide Tryz.prog W .any base t v:=hval0
 have hW':=hW
 obtain ⟨p,q,hA0,hV,rfl,_,_⟩:=hW
 have hA:DataW.TrodAll enc Tryz.prog W 0 (fun _=>true) true Tryz.f6.params.toList args.toList ds p:=hA0
 rw [Tryz.params6] at hA hval
 obtain ⟨v0,vs0,d0,ds0,p0,q0,hargs0,rfl,rfl,h0,r0⟩:=trodAll_cons hA
 obtain ⟨v1,vs1,d1,ds1,p1,q1,rfl,rfl,rfl,h1,r1⟩:=trodAll_cons r0
 obtain ⟨rfl,rfl,rfl⟩:=trodAll_nil r1
 obtain rfl:args=#[v0,v1]:=by cases args;simp_all
 obtain ⟨rfl,rfl⟩:=trodVars_none hV
 have k0:=h0
 have k1:=h1
 have lt1:∀ x ∈ p1,x.block < W.heap.size:=by obtain ⟨m,hm⟩:=k1;exact DataW.trod_lt m _ _ _ hm
 have lt0:∀ x ∈ p0,x.block < W.heap.size:=by obtain ⟨m,hm⟩:=k0;exact DataW.trod_lt m _ _ _ hm
 obtain ⟨v1',v2',nf,fns,n,f,rfl,hs,hm⟩:=trace_open (hval 0 59 v0 rfl rfl) h0
 obtain ⟨na,A,hak⟩:=asks_open (hval 1 60 v1 rfl rfl) h1
 clear hA0 hval0
 refine (exactLook_any 0 0 _ _ _ nf fns n f na A W hs hm hak (handle_of_laid hL)).mono fun e W' ⟨he,bel⟩=>?_
 subst he
 exact ⟨_,rfl,_,_,_,[],_,[],hW',trodAll_mk1 (shut_bool Tryz.underlying4 _),(trodAll_cons_mk (Below.trod laidOut (by kernel_rfl) (of_decide_eq_true (by kernel_rfl)) k0 bel lt0) (trodAll_cons_mk (Below.trod laidOut (by kernel_rfl) (of_decide_eq_true (by kernel_rfl)) k1 bel lt1) trodAll_mk0)),rfl,bel.frame _,fun h=>by cases h⟩
theorem over:Rows.fnExactLookRow.holds Tryz.pinned (OpenSpec.ofChange Rows.fnExactLookSpec) :=
 OpenClaim.holds_of_wide 6 Tryz.f6 rfl rfl rfl rfl rfl rfl rfl ⟨rfl,rfl,rfl,rfl,rfl⟩ rfl rfl rfl rfl rfl (by kernel_rfl) Tryz.func6 (by kernel_rfl)
  (of_decide_eq_true (by kernel_rfl)) (by unfold Func.isWrapper;first | (rw [if_pos (by decide +kernel)];kernel_rfl) | (rw [if_neg (by decide +kernel)];exact ⟨rfl,rfl⟩))
  (fun os started H enc _=>lifted os started H enc)
theorem card:Rows.FnExactLookCardSaid :=
 Claim7.holds_tied_plain_at .later [] [.handle] true Rows.fnExactLookCard.stood.harness true
  over (fun _ h=>by cases h) (by kernel_rfl) (fun _ h=>by cases h) fnExactLook_row_tie rfl ⟨rfl,rfl⟩ (by kernel_rfl) rfl
  (fun f fn hf hfn=>by
   obtain rfl:f=6:=Option.some.inj ((show Tryz.prog.funcNamed Rows.fnExactLookRow.func=some 6 by kernel_rfl).symm.trans hf) |>.symm
   obtain rfl:fn=Tryz.f6:=(Option.some.inj (Tryz.func6.symm.trans hfn)).symm
   exact ⟨by kernel_rfl,fun j t ht=>by
    rw [Tryz.params6] at ht
    rcases j with _ | _ | j
    ·obtain rfl:t=59:=by simpa using ht.symm
     exact (show Tryz.prog.wantsStandIn 59=false by kernel_rfl)
    ·obtain rfl:t=60:=by simpa using ht.symm
     exact (show Tryz.prog.wantsStandIn 60=false by kernel_rfl)
    ·simp at ht⟩)
  (by kernel_rfl)
end Go.Proofs.YtmnmeaeicjhkhaaGreatDoor.fnExactLook
namespace Go.Proofs.YtmnmeaeicjhkhaaGreatDoor
theorem fnExactLook_holds:Rows.FnExactLookCardSaid:=fnExactLook.card
#print axioms fnExactLook_holds
end Go.Proofs.YtmnmeaeicjhkhaaGreatDoor
