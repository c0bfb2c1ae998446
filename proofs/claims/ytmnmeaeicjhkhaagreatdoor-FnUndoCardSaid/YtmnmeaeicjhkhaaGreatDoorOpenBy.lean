import Derived.Test.YtmnmeaeicjhkhaaGreatDoorGOy
import Derived.Test.YtmnmeaeicjhkhaaGreatDoorGDcy
import Derived.ProofKit
import Derived.OpenShut
import Derived.ShutString
import Derived.ChangeOld
import Derived.ChangeSlices
import Derived.Below
set_option maxRecDepth 100000
namespace Go.Proofs.YtmnmeaeicjhkhaaGreatDoor
open Go.ChangeShapes Go.WideShapes Go.ChangeAt Go.RowKit
theorem cellsByteB:Tryz.prog.cellsOf 5=1:=by kernel_rfl
theorem byteB_wf {n:Int} (h:(Lit.int .u8 n).wf=true):0≤n∧n < 256:=by
 simp [Lit.wf,IntKind.min,IntKind.max,IntKind.signed,IntKind.bits] at h
 omega
theorem bytesB_open {H:Type} {enc:TypeId × Value→H} {W:World} {base:Nat} {held:Bool} {r:Reach} {b0:Nat} {v:Value} {d:DataW H} {p:List MemPlace} (hv:Value.okWide Tryz.prog W r b0 22 v) (h:DataW.Trod enc Tryz.prog W base (fun _=>true) held 22 v d p):∃ n,BytesAt W v n:=by
 obtain ⟨a,len,cap,rfl⟩:=okWide_slice Tryz.underlying22 hv
 obtain ⟨fuel,hf⟩:=h
 rcases open_ints Tryz.underlying22 Tryz.underlying5 cellsByteB hf with ⟨e,_⟩ | ⟨a',len',cap',zs,e,_,hl,hm,hz,_,hc,hw⟩
 ·simp [Value.cells] at e
  obtain ⟨rfl,rfl,rfl⟩:=e
  exact ⟨0,none,0,rfl,fun i hi=>absurd hi (Nat.not_lt_zero _)⟩
 ·simp [Value.cells] at e
  obtain ⟨rfl,rfl,rfl⟩:=e
  have hz':zs.length=cap:=by simpa using hz
  refine ⟨len,some a',cap,rfl,fun i hi=>?_⟩
  have c:=hc i (by omega)
  have e:=addr_form (hc 0 (by omega))
  have hm:zs.getD i 0 ∈ zs:=by
   have hi':i < zs.length:=by omega
   rw [List.getD_eq_getElem?_getD,List.getElem?_eq_getElem hi']
   exact List.getElem_mem hi'
  obtain ⟨h0,h1⟩:=byteB_wf (hw _ hm)
  refine ⟨a'.block,a'.off,zs.getD i 0,by rw [← e],?_,h0,h1⟩
  rwa [e,add_form _ rfl] at c
end Go.Proofs.YtmnmeaeicjhkhaaGreatDoor
