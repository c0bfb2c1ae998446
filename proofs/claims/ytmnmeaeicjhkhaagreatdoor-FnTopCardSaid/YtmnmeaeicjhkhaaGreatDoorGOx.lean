import Derived.Lib.SmallJoins
import Derived.Test.YtmnmeaeicjhkhaaGreatDoorGDcx
set_option maxRecDepth 100000
namespace Go.Proofs.YtmnmeaeicjhkhaaGreatDoor
section
open Go.RowKit Go.ChangeShapes Go.WideShapes Go.Deep
theorem add_form (a:Addr) (h:a.spot=none) (i:Nat):a.add i=⟨a.block,a.off+i,none⟩:=by
 unfold Addr.add
 split
 ·rename_i e;subst e;cases a;simp_all
 rfl
theorem addr_form {w:World} {a:Addr} {v:Value} (h:w.cell? (a.add 0)=some v):a=⟨a.block,a.off,none⟩:=by
 have:=World.cell?_spot h
 have e:a.add 0=a:=rfl
 rw [e] at this
 cases a
 simp_all
variable {H:Type} {enc:TypeId × Value->H} {W:World} {base:Nat} {held:Bool} {fuel:Nat} {cs:List Value} {x:DataW H × List MemPlace}
end
section
open Go.ChangeShapes Go.WideShapes Go.ChangeAt Go.RowKit
theorem cellsByteB:Tryz.prog.cellsOf 5=1:=by kernel_rfl
theorem byteB_wf {n:Int} (h:(Lit.int .u8 n).wf=true):0<=n/\n<256:=by
 simp [Lit.wf,IntKind.min,IntKind.max,IntKind.signed,IntKind.bits] at h
 omega
theorem bB1 {H:Type} {enc:TypeId × Value->H} {W:World} {base:Nat} {held:Bool} {r:Reach} {b0:Nat} {v:Value} {d:DataW H} {p:List MemPlace} (hv:Value.okWide Tryz.prog W r b0 22 v) (h:DataW.Trod enc Tryz.prog W base (fun _=>true) held 22 v d p):∃ n,qK W v n:=by
 obtain ⟨a,len,cap,rfl⟩:=okWide_slice Tryz.underlying22 hv
 obtain ⟨fuel,hf⟩:=h
 rcases open_ints Tryz.underlying22 Tryz.underlying5 cellsByteB hf with ⟨e,_⟩ | ⟨a',len',cap',zs,e,_,hl,hm,hz,_,hc,hw⟩
 ·simp [Value.cells] at e
  obtain ⟨rfl,rfl,rfl⟩:=e
  exact ⟨0,none,0,rfl,fun i hi=>absurd hi (Nat.not_lt_zero _)⟩
 simp [Value.cells] at e
 obtain ⟨rfl,rfl,rfl⟩:=e
 have hz':zs.length=cap:=by simpa using hz
 refine ⟨len,some a',cap,rfl,fun i hi=>?_⟩
 have c:=hc i (by omega)
 have e:=addr_form (hc 0 (by omega))
 have hm:zs.getD i 0∈zs:=by
  have hi':i<zs.length:=by omega
  rw [List.getD_eq_getElem?_getD,List.getElem?_eq_getElem hi']
  exact List.getElem_mem hi'
 obtain ⟨h0,h1⟩:=byteB_wf (hw _ hm)
 refine ⟨a'.block,a'.off,zs.getD i 0,by rw [<- e],?_,h0,h1⟩
 rwa [e,add_form _ rfl] at c
end
end Go.Proofs.YtmnmeaeicjhkhaaGreatDoor
