import Derived.Test.YtmnmeaeicjhkhaaGreatDoorGDbx
set_option maxRecDepth 100000
set_option maxHeartbeats 16000000
namespace Go.Proofs.YtmnmeaeicjhkhaaGreatDoor
open Go.RowKit
def FrsR (w:World) (v:Value) (l:List Fr):Prop :=
 ∃ a cap,v=.slice a l.length cap/\∀ i (h:i<l.length),∃ b o,a=some ⟨b,o,none⟩/\w.cell? ⟨b,o+i*3,none⟩=some (.int .i64 l[i].fn)/\w.cell? ⟨b,o+i*3+1,none⟩=some (.int .i64 l[i].line)/\w.cell? ⟨b,o+i*3+2,none⟩=some (.int .i64 l[i].frm)
theorem FrsR.below {w w':World} {v:Value} {l:List Fr} (h:FrsR w v l) (hb:Below w.heap.size w w'):FrsR w' v l:=by
 obtain ⟨a,cap,hv,h⟩:=h
 refine ⟨a,cap,hv,fun i hi=>?_⟩
 obtain ⟨b,o,ha,h1,h2,h3⟩:=h i hi
 exact ⟨b,o,ha,bG hb h1,bG hb h2,bG hb h3⟩
theorem eA.read {lo:Nat} {w:World} {v:Value} {l:List Fr} (h:eA lo w v l):FrsR w v l:=by
 obtain ⟨a,cap,rfl⟩:=bR h
 refine ⟨a,cap,rfl,fun i hi=>?_⟩
 obtain ⟨g,e,-,-,c0,c1,c2⟩:=eA.cells h i hi
 exact ⟨g,0,e,by rw [Nat.zero_add];exact c0,by rw [Nat.zero_add];exact c1,by rw [Nat.zero_add];exact c2⟩
theorem wFrames_any (v v':Value) (l:List Fr) (w:World) (hv:FrsR w v l) (hv':FrsR w v' l) (hl:l.length<=200) :
  Calls Tryz.prog 42 #[v,v'] w fun e w'=>e=.returned (.bool true)/\Below w.heap.size w w':=by
 have HV:=O hv
 have HV':=O hv'
 obtain ⟨a,cap,rfl,_⟩:=hv
 obtain ⟨a',cap',rfl,_⟩:=hv'
 obtain ⟨n,hn⟩:∃ n,n=l.length:=⟨_,rfl⟩
 have HN:=O hn
 rw [<- hn] at hl
 rw [<- hn]
 rw [<- hn] at HV HV'
 clear hn
 go_enter Tryz.func42,Tryz.ntmps42
 go_wp2
 go_loopw [5,13] (fun _ i w'=>∃ (k:Nat),k<=n/\i=.int .i64 k/\Below w.heap.size w w') (fun _ i _=>n - (intOf i).toNat)
 case atStart=>exact ⟨0,by omega,rfl,Below.refl _ _⟩
 case round =>
  obtain ⟨k,hk,rfl,hb⟩:=hrel
  by_cases hlt:k<n
  ·have hkl:k<l.length:=by rw [<- Z HN];exact hlt
   obtain ⟨x,xc,ex,hx⟩:=(Z HV).below hb
   obtain ⟨y,yc,ey,hy⟩:=(Z HV').below hb
   injection ex with e1 e2 e3
   subst e1
   subst e3
   clear e2
   injection ey with e1 e2 e3
   subst e1
   subst e3
   clear e2
   obtain ⟨b,o,rfl,c0,c1,c2⟩:=hx k hkl
   obtain ⟨b',o',rfl,d0,d1,d2⟩:=hy k hkl
   clear hx hy
   generalize l[k].fn=fa at *
   generalize l[k].line=fb at *
   generalize l[k].frm=fc at *
   have hi1:(0:Int)<=(k:Int):=by omega
   have hi2:(k:Int)<(n:Int):=by omega
   clear hkl
   go_wp2
   go_quiet (fail)
   go_wp2
   go_roundw
   case rel=>exact ⟨k+1,by omega,by go_num,below_drewN hb _⟩
   case measure=>simp [intOf];omega
  go_wp2
  go_ret
  exact ⟨rfl,hb⟩
def qK (w:World) (v:Value) (len:Nat):Prop :=
 ∃ a cap,v=.slice a len cap/\∀ i,i<len->∃ b o x,a=some ⟨b,o,none⟩/\w.cell? ⟨b,o+i,none⟩=some (.int .u8 x)/\0<=x/\x<256
end Go.Proofs.YtmnmeaeicjhkhaaGreatDoor
