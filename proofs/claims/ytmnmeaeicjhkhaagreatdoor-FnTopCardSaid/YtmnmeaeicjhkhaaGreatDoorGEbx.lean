import Derived.Test.YtmnmeaeicjhkhaaGreatDoorGEax
import Derived.Test.YtmnmeaeicjhkhaaGreatDoorGLx
import Derived.RangeFuncNested
import Derived.RangeFuncBound
import Derived.Shelf.RegionOpen
import Derived.OwnWalkIn
import Derived.LoopNIn
import Derived.LoopIn
set_option maxRecDepth 100000
set_option maxHeartbeats 16000000
namespace Go.Proofs.YtmnmeaeicjhkhaaGreatDoor
open Go.RowKit Go.Shelf
section
attribute [local go_sem] Oper.semAt_some
theorem field_top2 (a b c:Value) (w:World):(Instr.field 119 (.agg #[a,b,c]) 1).run Tryz.prog w=.ok b w:=by kernel_rfl
theorem shownBy_any (lo:Nat) (v:Value) (n:Nat) (f:Nat->M) (k:Nat) (w:World) (h:bW lo w v n f) (hn:n<=3000) (hk:k<n) :
  Calls Tryz.prog 219 #[v,.int .i64 k,.int .i64 (f k).kind] w fun e w'=>(∃ p,e=.returned (.pointer p)/\cR w' (tJ f (if (f k).kind=3 then k else k+1)) p)/\Below w.heap.size w w':=by
 have H:=O h
 clear h
 have hft:=field_top2
 by_cases h3:(f k).kind=3
 ·rw [if_pos h3,h3]
  clear h3
  have wx:IntKind.i64.wrap ((k:Int) - 1)=(k:Int) - 1:=by rw [IntKind.wrap_i64];omega
  go_enter Tryz.func219,Tryz.ntmps219
  go_wp2_with fail
  refine (jN lo v n f ((k:Int) - 1) w (Z H) hn (by omega) (by omega)).mono ?_
  rintro e w1 ⟨⟨top,bw,rfl,hpl⟩,hb⟩
  rw [show cQ n ((k:Int) - 1)=k by unfold cQ;omega] at hpl
  have HP:=O (And.intro hpl.1 hb)
  clear hpl hb
  go_wp2_with fail
  go_ret
  exact ⟨⟨_,rfl,(Z HP).1⟩,(Z HP).2⟩
 have h3b:((f k).kind == 3)=false:=by simpa using h3
 rw [if_neg h3]
 clear h3
 go_enter Tryz.func219,Tryz.ntmps219
 go_wp2_with fail
 refine (jN lo v n f (k:Int) w (Z H) hn (by omega) (by omega)).mono ?_
 rintro e w1 ⟨⟨top,bw,rfl,hpl⟩,hb⟩
 rw [show cQ n (k:Int)=k+1 by unfold cQ;omega] at hpl
 have HP:=O (And.intro hpl.1 hb)
 clear hpl hb
 go_wp2_with fail
 go_ret
 exact ⟨⟨_,rfl,(Z HP).1⟩,(Z HP).2⟩
def yL (nv k:Nat):List Nat:=(List.range k).map fun j=>nv - 1 - j
theorem qY (nv k:Nat):yL nv (k+1)=yL nv k ++ [nv - 1 - k]:=by simp [yL,List.range_succ]
theorem down_length (nv k:Nat):(yL nv k).length=k:=by simp [yL]
def varEnc (vs:Nat->V) (i:Nat):Array Value:=#[.int .i64 (i:Int),.agg #[.string (vs i).name,.string (vs i).text]]
theorem back1_in (F:Fence) (m:Nat) (hf:F.fn 221) (hro:F.round=none) (hm:1<=m) (l Bs n₀ lo nv:Nat) (sv:Value) (vs:Nat->V) (hnv:nv<=200) (J Jx:List Nat->World->Prop)
  (hY:∀ (pre:List Nat) (x:Nat) W,J pre W->pre.length<nv->YieldAt F (m - 1) Tryz.prog l #[.int .i64 (x:Int),.agg #[.string (vs x).name,.string (vs x).text]] W fun e W' =>
   (e=.returned (.bool true)/\J (pre ++ [x]) W'/\Below n₀ W W')∨(e=.returned (.bool false)/\Jx (pre ++ [x]) W'))
  (W:World) (hBs:W.cell? ⟨Bs,0,none⟩=some sv) (hBl:Bs<n₀) (hv:fN lo W sv nv vs) (hb:∀ a n c,0<nv->sv=.slice (some a) n c->a.block<n₀) (h0:J [] W) :
  CallsIn F m Tryz.prog 221 #[.func (.yield l) #[] #[],.pointer (some ⟨Bs,0,none⟩)] W fun e W'=>(∃ v,e=.returned v) /\
   ((∃ ys,ys=yL nv nv/\J ys W')∨(∃ pre,(∃ k,k<=nv/\pre=yL nv k)/\Jx pre W')):=by
 obtain ⟨a,cap,rfl,-,hc⟩:=hv
 have wx:IntKind.i64.wrap ((nv:Int) - 1)=(nv:Int) - 1:=by rw [IntKind.wrap_i64];omega
 refine callsIn_of_wp Tryz.func221 rfl hf ?_ hro
 simp only [Tryz.ntmps221,List.size_toArray,List.length_cons,List.length_nil,Nat.reduceAdd,Nat.reduceSub,Array.replicate_succ,Array.replicate_zero,List.push_toArray,List.append_toArray,List.nil_append,List.cons_append]
 gi_wp2
 gi_loopw [3] (fun i wr=>∃ k:Nat,k<=nv/\i=.int .i64 (((nv - k:Nat):Int) - 1)/\J (yL nv k) wr/\Below n₀ W wr)
  (fun i _=>(intOf i+1).toNat)
 case atStart=>exact ⟨0,Nat.zero_le _,by simp,h0,Below.refl _ _⟩
 case round =>
  obtain ⟨k,hk,rfl,hJs,hnx⟩:=hrel
  by_cases hlt:k<nv
  ·obtain ⟨j,hj⟩:∃ j,j=nv - 1 - k:=⟨_,rfl⟩
   have ej:(((nv - k:Nat):Int) - 1)=(j:Int):=by omega
   rw [ej]
   obtain ⟨b,o,rfl,c0,c1,-⟩:=hc j (by omega)
   have hbn:=hb _ _ _ (by omega) rfl
   have c0':wr.cell? ⟨b,o+j*2,none⟩=some (.string (vs j).name):=(hnx.cell (p:=⟨b,o+j*2,none⟩) hbn).trans c0
   have c1':wr.cell? ⟨b,o+j*2+1,none⟩=some (.string (vs j).text):=(hnx.cell (p:=⟨b,o+j*2+1,none⟩) hbn).trans c1
   have hBs':wr.cell? ⟨Bs,0,none⟩=some (.slice (some ⟨b,o,none⟩) nv cap):=(hnx.cell (p:=⟨Bs,0,none⟩) hBl).trans hBs
   obtain ⟨fn,tmps,assign,body,hy,hR⟩:=hY _ j wr hJs (by rw [down_length];exact hlt)
   have hj0:(0:Int)<=(j:Int):=by omega
   have hj1:(j:Int)<(nv:Int):=by omega
   have wj:IntKind.i64.wrap ((j:Int) - 1)=(j:Int) - 1:=by rw [IntKind.wrap_i64];omega
   have HJ:=O hj
   have HR:=O hR
   clear hj ej c0 c1 hBs hR hY hJs hb hc hbn
   gi_wp2
   refine (Z HR).mono ?_
   rintro e W3 (⟨rfl,hJ3,hk3⟩ | ⟨rfl,hJx3⟩)
   ·gi_wp2
    go_roundw
    case rel =>
     have hj:=Z HJ
     exact ⟨k+1,by omega,by congr 1;omega,by rw [qY,<- hj];exact hJ3,hnx.trans hk3⟩
    case measure=>first | (simp [intOf];done) | (simp [intOf];omega)
   gi_wp2
   refine bodyPost_ret (results_none rfl _ _ _) rfl ?_
   have hj:=Z HJ
   exact ⟨⟨_,rfl⟩,.inr ⟨_,⟨k+1,by omega,by rw [qY,<- hj]⟩,hJx3⟩⟩
  obtain rfl:k=nv:=by omega
  have ej:(((k - k:Nat):Int) - 1)=-1:=by omega
  rw [ej]
  gi_wp2
  go_end0
  exact ⟨⟨_,rfl⟩,.inl ⟨_,rfl,hJs⟩⟩
end
section
attribute [local go_sem] Oper.semAt_some
theorem qQ {vs:Nat->V} {nm:ByteArray} {nv:Nat}:∀ {k:Nat},k<=nv->(∀ j,j∈yL nv k->(vs j).name≠nm)->cP vs nm nv=cP vs nm (nv - k)
 | 0,_,_=>rfl
 | k+1,hk,h=>by
  rw [qQ (k:=k) (by omega) (fun j hj=>h j (by rw [qY];exact List.mem_append.2 (.inl hj)))]
  have e:nv - k=(nv - (k+1))+1:=by omega
  have hn:=h (nv - 1 - k) (by rw [qY];exact List.mem_append.2 (.inr (by simp)))
  have e2:nv - 1 - k=nv - (k+1):=by omega
  rw [e2] at hn
  rw [e,tL hn]
theorem down_last {nv k i:Nat} {q:List Nat} (h:yL nv k=q ++ [i]):∃ j,k=j+1/\q=yL nv j/\i=nv - 1 - j:=by
 cases k with
 | zero=>exact absurd h (by simp [yL])
 | succ j =>
  rw [qY] at h
  have h2:=List.append_inj' h rfl
  refine ⟨j,rfl,h2.1.symm,?_⟩
  have:=h2.2
  simp at this
  exact this.symm
theorem jA {β:Type} (b:Nat) (cs:Array Value) (t:TypeId):Own (fun (_:β) (W:World)=>W.heap[b]?=some (.cells cs t (0,0))):=fun _ W W' row hs hg hr=>by
 have hs:W.heap[b]?=some (.cells cs t (0,0)):=hs
 show W'.heap[b]?=some (.cells cs t (0,0))
 rw [hg.block b (Array.getElem?_eq_some_iff.1 hs).1 (fun e=>by
  obtain ⟨o,ho,hc⟩:=hr b e.symm
  rw [hs] at ho;cases ho;cases hc)]
 exact hs
theorem pure_own {β:Type} (p:β->Prop):Own (fun (s:β) (_:World)=>p s):=fun _ _ _ _ hs _ _=>hs
def qZ (nm:ByteArray):Option ByteArray->Value
 | some t=>.tuple #[.agg #[.string nm,.string t],.bool true]
 | none=>.tuple #[.agg #[.string ⟨#[]⟩,.string ⟨#[]⟩],.bool false]
theorem size_own {β:Type} (N:Nat):Own (fun (_:β) (W:World)=>N<=W.heap.size):=fun _ _ _ _ hs hg _=>Nat.le_trans hs hg.size
theorem back_any (a:Option Addr) (n cap:Nat) (w:World) :
  CallsIn Fence.wide 5 Tryz.prog 188 #[.slice a n cap] w fun e w'=>e=.returned (.func (.func 221) #[] #[.pointer (some ⟨w.heap.size,0,none⟩)])/\w'=w.alloc (.cells #[.slice a n cap] 36):=by
 refine callsIn_of_wp Tryz.func188 rfl trivial ?_ rfl
 simp only [Tryz.ntmps188,List.size_toArray,List.length_cons,List.length_nil,Nat.reduceAdd,Nat.reduceSub,Array.replicate_succ,Array.replicate_zero,List.push_toArray,List.append_toArray,List.nil_append,List.cons_append]
 gi_wp2
 go_ret
 exact ⟨rfl,rfl⟩
theorem mW (lo:Nat) (v:Value) (nv:Nat) (vs:Nat->V) (nm:ByteArray) (w:World) (h:fN lo w v nv vs) (hnv:nv<=200) :
  Calls Tryz.prog 156 #[v,.string nm] w fun e w'=>e=.returned (qZ nm (cP vs nm nv))/\Below w.heap.size w w':=by
 have H:=O h
 obtain ⟨a,cap,rfl,-,hc⟩:=h
 refine (callsIn_wide (n:=6)).1 ?_
 refine callsIn_of_wp_marks Tryz.func156 rfl trivial ?_ rfl
 simp only [Tryz.ntmps156,List.size_toArray,List.length_cons,List.length_nil,Nat.reduceAdd,Nat.reduceSub,Array.replicate_succ,Array.replicate_zero,List.push_toArray,List.append_toArray,List.nil_append,List.cons_append]
 gi_wp2_with fail
 refine ⟨trivial,(back_any _ _ _ _).mono ?_⟩
 rintro e w' ⟨rfl,rfl⟩
 gi_wp2_with fail
 obtain ⟨WA,hWA⟩:∃ WA,WA=w.alloc (.cells #[.string nm] 9):=⟨_,rfl⟩
 have sA:WA.heap.size=w.heap.size+1:=by rw [hWA];simp
 have kA:WA.heap[w.heap.size]?=some (.cells #[.string nm] 9 (0,0)):=by rw [hWA];exact heap_alloc_new w _
 have bA:Below w.heap.size w WA:=by rw [hWA];exact bH _ _
 rw [<- hWA]
 obtain ⟨WB,hWB⟩:∃ WB,WB=WA.alloc (.cells #[.string ⟨#[]⟩,.string ⟨#[]⟩] 40):=⟨_,rfl⟩
 have sB:WB.heap.size=w.heap.size+1+1:=by rw [hWB];simp [sA]
 have kB:WB.heap[w.heap.size+1]?=some (.cells #[.string ⟨#[]⟩,.string ⟨#[]⟩] 40 (0,0)):=by rw [hWB,<- sA];exact heap_alloc_new WA _
 have bB:Below WA.heap.size WA WB:=by rw [hWB];exact bH _ _
 rw [<- hWB]
 obtain ⟨WC,hWC⟩:∃ WC,WC=WB.alloc (.cells #[.bool false] 4):=⟨_,rfl⟩
 have sC:WC.heap.size=w.heap.size+1+1+1:=by rw [hWC];simp [sB]
 have kC:WC.heap[w.heap.size+1+1]?=some (.cells #[.bool false] 4 (0,0)):=by rw [hWC,<- sB];exact heap_alloc_new WB _
 have bC:Below WB.heap.size WB WC:=by rw [hWC];exact bH _ _
 rw [<- hWC]
 obtain ⟨W0,hW0⟩:∃ W0,W0=WC.alloc (.cells #[.slice a nv cap] 36):=⟨_,rfl⟩
 have sD:W0.heap.size=w.heap.size+1+1+1+1:=by rw [hW0];simp [sC]
 have kD:W0.heap[w.heap.size+1+1+1]?=some (.cells #[.slice a nv cap] 36 (0,0)):=by rw [hW0,<- sC];exact heap_alloc_new WC _
 have bD:Below WC.heap.size WC W0:=by rw [hW0];exact bH _ _
 rw [<- hW0]
 have kA0:W0.heap[w.heap.size]?=some (.cells #[.string nm] 9 (0,0)):=by rw [bD.block _ (by omega),bC.block _ (by omega),bB.block _ (by omega)];exact kA
 have kB0:W0.heap[w.heap.size+1]?=some (.cells #[.string ⟨#[]⟩,.string ⟨#[]⟩] 40 (0,0)):=by rw [bD.block _ (by omega),bC.block _ (by omega)];exact kB
 have kC0:W0.heap[w.heap.size+1+1]?=some (.cells #[.bool false] 4 (0,0)):=by rw [bD.block _ (by omega)];exact kC
 have b0:Below w.heap.size w W0:=bA.trans ((bB.mono (by omega)).trans ((bC.mono (by omega)).trans (bD.mono (by omega))))
 have hseq:SeqStopsK Fence.wide 5 Tryz.prog 221 #[.pointer (some ⟨w.heap.size+1+1+1,0,none⟩)] (varEnc vs) (Below W0.heap.size) (fun ys=>ys=yL nv nv) (fun pre=>∃ k,k<=nv/\pre=yL nv k) nv W0:=fun l J Jx W hW _ _ hY h0 =>
  back1_in Fence.wide 5 trivial rfl (by omega) l _ W0.heap.size lo nv (.slice a nv cap) vs hnv J Jx hY W (by rw [cell_of_row W _ 0 _ _ _ ((hW.block _ (by omega)).trans kD)];rfl) (by omega) ((Z H).below (b0.trans (hW.mono b0.size))) (fun ad n' c' hp e=>by
   injection e with e1
   obtain ⟨b,o,e2,c0,-⟩:=hc 0 hp
   rw [e1] at e2
   cases e2
   have h3:b<w.heap.size:=bV c0
   show b<_
   omega) h0
 clear hWA hWB hWC hW0 kA kB kC bA bB bC bD sA sB sC
 refine wpIn_rangeFunc_ownH rfl (by omega) (gf:=221) (lb:=#[.pointer (some ⟨w.heap.size+1+1+1,0,none⟩)]) rfl trivial (enters_of Tryz.func221 (by kernel_rfl) rfl)
  hseq belowK_t (belowK_b (Nat.le_refl _)) (Below.refl _ _) (fun _=>rfl)
  (fun pre W=>(((W.heap[w.heap.size]?=some (.cells #[.string nm] 9 (0,0))/\W.heap[w.heap.size+1]?=some (.cells #[.string ⟨#[]⟩,.string ⟨#[]⟩] 40 (0,0)))/\W.heap[w.heap.size+1+1]?=some (.cells #[.bool false] 4 (0,0)))/\((∀ j,j∈pre->(vs j).name≠nm)/\W0.heap.size<=W.heap.size))/\Below w.heap.size w W)
  (fun c pre W=>(((c=.ret/\∃ q i,pre=q ++ [i]/\(∀ j,j∈q->(vs j).name≠nm)/\(vs i).name=nm/\W.heap[w.heap.size+1]?=some (.cells #[.string (vs i).name,.string (vs i).text] 40 (0,0))))/\W.heap[w.heap.size+1+1]?=some (.cells #[.bool true] 4 (0,0)))/\Below w.heap.size w W)
  (OwnFrom.and (OwnFrom.and (OwnFrom.and (OwnFrom.and (Own.from (jA _ _ _) _) (Own.from (jA _ _ _) _)) (Own.from (jA _ _ _) _)) (OwnFrom.and (Own.from (pure_own _) _) (Own.from (size_own _) _))) (ownFrom_below (Nat.le_refl _) (by omega)))
  (fun c=>OwnFrom.and (OwnFrom.and (Own.from (fun pre X Y row hs hg hr=>by
   obtain ⟨h1,q,i,h2,h3,h4,h5⟩:=hs
   exact ⟨h1,q,i,h2,h3,h4,jA (β:=Unit) _ _ _ () X Y row h5 hg hr⟩) _) (Own.from (jA _ _ _) _)) (ownFrom_below (Nat.le_refl _) (by omega)))
  ⟨⟨⟨⟨kA0,kB0⟩,kC0⟩,fun j hj=>absurd hj (by simp),Nat.le_refl _⟩,b0⟩
  (fun x a' W=>∃ Bx,w.heap.size+1+1+1<Bx/\W.heap[Bx]?=some (.cells #[.string (vs x).name,.string (vs x).text] 40 (0,0))/\a'={ tmps:=#[.slice a nv cap,.string nm,undef,.pointer (some ⟨w.heap.size,0,none⟩),.pointer (some ⟨w.heap.size+1,0,none⟩),.pointer (some ⟨w.heap.size+1+1,0,none⟩),undef,.pointer (some ⟨Bx,0,none⟩),.slice a nv cap,.func (.func 221) #[] #[.pointer (some ⟨w.heap.size+1+1+1,0,none⟩)],.int .i64 (x:Int),.agg #[.string (vs x).name,.string (vs x).text],undef,undef,undef,undef,undef,undef],defers:=[] })
  (fun x a' _ X Y row hs hg hr=>by obtain ⟨Bx,h1,h2,h3⟩:=hs;exact ⟨Bx,h1,jA (β:=Unit) _ _ _ () X Y row h2 hg (fun r e=>(hr r e).2),h3⟩)
  ?assign ?body ?done ?stop
 case assign =>
  rintro l pre x W K ⟨⟨⟨⟨hA,hB⟩,hC⟩,hq,hs⟩,hb⟩ hK
  unfold varEnc
  gi_wp2
  have hnew:Below W.heap.size W (W.alloc (.cells #[.string (vs x).name,.string (vs x).text] 40)):=bH _ _
  refine hK _ _ ((KeepsOthers.alloc _ _).from _) ((Below.refl _ W).alloc hs _) ⟨⟨⟨⟨(hnew.block _ (by omega)).trans hA,(hnew.block _ (by omega)).trans hB⟩,(hnew.block _ (by omega)).trans hC⟩,hq,Nat.le_trans hs hnew.size⟩,hb.trans (hnew.mono hb.size)⟩ ⟨W.heap.size,by omega,heap_alloc_new W _,rfl⟩
 case body =>
  rintro l pre x a' W hl ⟨r,hr⟩ ⟨⟨⟨⟨hA,hB⟩,hC⟩,hq,hs⟩,hb⟩ ⟨Bx,hBx,bX,rfl⟩ hlt
  have cX0:W.cell? ⟨Bx,0,none⟩=some (.string (vs x).name):=by rw [cell_of_row W Bx 0 _ _ _ bX];rfl
  have cX1:W.cell? ⟨Bx,1,none⟩=some (.string (vs x).text):=by rw [cell_of_row W Bx 1 _ _ _ bX];rfl
  have cN:W.cell? ⟨w.heap.size,0,none⟩=some (.string nm):=by rw [cell_of_row W _ 0 _ _ _ hA];rfl
  by_cases he:(vs x).name=nm
  ·rw [he] at cX0
   have cR0:W.cell? ⟨w.heap.size+1,0,none⟩=some (.string ⟨#[]⟩):=by rw [cell_of_row W _ 0 _ _ _ hB];rfl
   have cR1:W.cell? ⟨w.heap.size+1,1,none⟩=some (.string ⟨#[]⟩):=by rw [cell_of_row W _ 1 _ _ _ hB];rfl
   have fR0:W.frozen? ⟨w.heap.size+1,0,none⟩=false:=frozen_of_row _ _ _ _ _ hB
   have fR1:W.frozen? ⟨w.heap.size+1,1,none⟩=false:=frozen_of_row _ _ _ _ _ hB
   have cF:W.cell? ⟨w.heap.size+1+1,0,none⟩=some (.bool false):=by rw [cell_of_row W _ 0 _ _ _ hC];rfl
   have fF:W.frozen? ⟨w.heap.size+1+1,0,none⟩=false:=frozen_of_row _ _ _ _ _ hC
   have HE:=O he
   clear he
   gi_wp2
   have he:=Z HE
   refine ⟨(((KeepsOthers.setCell _ _ _).trans (KeepsOthers.setCell _ _ _)).trans (KeepsOthers.setCell _ _ _)).from _,⟨⟨rfl,pre,x,rfl,hq,he,?_⟩,?_⟩,?_⟩
   ·rw [heap_setCell_other _ _ _ _ (by show w.heap.size+1≠w.heap.size+1+1;omega),he]
    exact heap_setCell_same _ _ 1 _ _ _ (heap_setCell_same _ _ 0 _ _ _ hB)
   ·refine heap_setCell_same _ _ 0 #[.bool false] _ _ ?_
    rw [heap_setCell_other _ _ _ _ (by show w.heap.size+1+1≠w.heap.size+1;omega),heap_setCell_other _ _ _ _ (by show w.heap.size+1+1≠w.heap.size+1;omega)]
    exact hC
   exact ((hb.setCell (p:=⟨w.heap.size+1,0,none⟩) (by show w.heap.size<=w.heap.size+1;omega) _).setCell (p:=⟨w.heap.size+1,1,none⟩) (by show w.heap.size<=w.heap.size+1;omega) _).setCell (p:=⟨w.heap.size+1+1,0,none⟩) (by show w.heap.size<=w.heap.size+1+1;omega) _
  have hbe:=yH he
  have HE:=O he
  clear he
  gi_wp2
  exact ⟨KeepsFrom.refl _ _,Below.refl _ _,⟨⟨⟨hA,hB⟩,hC⟩,fun j hj=>(List.mem_append.1 hj).elim (fun h=>hq j h) (fun h=>by rw [List.mem_singleton.1 h];exact Z HE),hs⟩,hb⟩
 case done =>
  rintro D zs W hD rfl ⟨⟨⟨⟨hA,hB⟩,hC⟩,hq,hs⟩,hb⟩ hK
  have cR0:W.cell? ⟨w.heap.size+1,0,none⟩=some (.string ⟨#[]⟩):=by rw [cell_of_row W _ 0 _ _ _ hB];rfl
  have cR1:W.cell? ⟨w.heap.size+1,1,none⟩=some (.string ⟨#[]⟩):=by rw [cell_of_row W _ 1 _ _ _ hB];rfl
  have fR0:W.frozen? ⟨w.heap.size+1,0,none⟩=false:=frozen_of_row _ _ _ _ _ hB
  have fR1:W.frozen? ⟨w.heap.size+1,1,none⟩=false:=frozen_of_row _ _ _ _ _ hB
  have cF:W.cell? ⟨w.heap.size+1+1,0,none⟩=some (.bool false):=by rw [cell_of_row W _ 0 _ _ _ hC];rfl
  have fF:W.frozen? ⟨w.heap.size+1+1,0,none⟩=false:=frozen_of_row _ _ _ _ _ hC
  have hl:cP vs nm nv=none:=by rw [qQ (Nat.le_refl nv) hq,Nat.sub_self];rfl
  have HL:=O hl
  clear hl
  gi_wp2
  have hR2:(((W.setCell ⟨w.heap.size+1,0,none⟩ (.string ⟨#[]⟩)).setCell ⟨w.heap.size+1,1,none⟩ (.string ⟨#[]⟩)).setCell ⟨w.heap.size+1+1,0,none⟩ (.bool false)).heap[w.heap.size+1]?=some (.cells #[.string ⟨#[]⟩,.string ⟨#[]⟩] 40 (0,0)):=by
   rw [heap_setCell_other _ _ _ _ (by show w.heap.size+1≠w.heap.size+1+1;omega)]
   exact heap_setCell_same _ _ 1 _ _ _ (heap_setCell_same _ _ 0 _ _ _ hB)
  have hF2:(((W.setCell ⟨w.heap.size+1,0,none⟩ (.string ⟨#[]⟩)).setCell ⟨w.heap.size+1,1,none⟩ (.string ⟨#[]⟩)).setCell ⟨w.heap.size+1+1,0,none⟩ (.bool false)).heap[w.heap.size+1+1]?=some (.cells #[.bool false] 4 (0,0)):=by
   refine heap_setCell_same _ _ 0 #[.bool false] _ _ ?_
   rw [heap_setCell_other _ _ _ _ (by show w.heap.size+1+1≠w.heap.size+1;omega),heap_setCell_other _ _ _ _ (by show w.heap.size+1+1≠w.heap.size+1;omega)]
   exact hC
  have hK2:=(((KeepsOthers.setCell W ⟨w.heap.size+1,0,none⟩ (.string ⟨#[]⟩)).trans (KeepsOthers.setCell _ ⟨w.heap.size+1,1,none⟩ (.string ⟨#[]⟩))).trans (KeepsOthers.setCell _ ⟨w.heap.size+1+1,0,none⟩ (.bool false))).same D _ hK rfl
  have hb2:=((hb.setCell (p:=⟨w.heap.size+1,0,none⟩) (by show w.heap.size<=w.heap.size+1;omega) (.string ⟨#[]⟩)).setCell (p:=⟨w.heap.size+1,1,none⟩) (by show w.heap.size<=w.heap.size+1;omega) (.string ⟨#[]⟩)).setCell (p:=⟨w.heap.size+1+1,0,none⟩) (by show w.heap.size<=w.heap.size+1+1;omega) (.bool false)
  generalize ((W.setCell ⟨w.heap.size+1,0,none⟩ (.string ⟨#[]⟩)).setCell ⟨w.heap.size+1,1,none⟩ (.string ⟨#[]⟩)).setCell ⟨w.heap.size+1+1,0,none⟩ (.bool false)=W2 at hR2 hF2 hK2 hb2 ⊢
  refine ⟨by simp,.inl ⟨_,_,rfl,run_takeDeferred hK2,?_⟩⟩
  have e1:=jA (β:=Unit) _ _ _ () _ _ _ hR2 (grownBy_putObj' W2 D (.deferred none)) (fun r e=>by cases e;exact ⟨_,hK2,rfl⟩)
  have e2:=jA (β:=Unit) _ _ _ () _ _ _ hF2 (grownBy_putObj' W2 D (.deferred none)) (fun r e=>by cases e;exact ⟨_,hK2,rfl⟩)
  have r0:(W2.putObj D (.deferred none)).cell? ⟨w.heap.size+1,0,none⟩=some (.string ⟨#[]⟩):=by rw [cell_of_row _ _ 0 _ _ _ e1];rfl
  have r1:(W2.putObj D (.deferred none)).cell? ⟨w.heap.size+1,1,none⟩=some (.string ⟨#[]⟩):=by rw [cell_of_row _ _ 1 _ _ _ e1];rfl
  have r2:(W2.putObj D (.deferred none)).cell? ⟨w.heap.size+1+1,0,none⟩=some (.bool false):=by rw [cell_of_row _ _ 0 _ _ _ e2];rfl
  refine ⟨.tuple #[.agg #[.string ⟨#[]⟩,.string ⟨#[]⟩],.bool false],?_,by rw [Z HL];rfl,hb2.trans (belowK_b (w:=w) (Nat.le_refl _) _ D _ _ (by omega) hK2 rfl rfl)⟩
  simp [results,Tryz.results156,go_sem,r0,r1,r2]
 case stop =>
  rintro D c pre W hD ⟨k,hk,hpre⟩ ⟨⟨⟨rfl,q,i,e1,h3,h4,h5⟩,h6⟩,hb⟩ hK
  obtain ⟨j,rfl,rfl,rfl⟩:=down_last (hpre.symm.trans e1)
  have hl:cP vs nm nv=some (vs (nv - 1 - j)).text:=by
   rw [qQ (k:=j) (by omega) h3,show nv - j=(nv - 1 - j)+1 by omega,tK h4]
  have HL:=O hl
  clear hl
  gi_wp2
  refine ⟨by simp,.inl ⟨_,_,rfl,run_takeDeferred hK,?_⟩⟩
  have e1:=jA (β:=Unit) _ _ _ () _ _ _ h5 (grownBy_putObj' W D (.deferred none)) (fun r e=>by cases e;exact ⟨_,hK,rfl⟩)
  have e2:=jA (β:=Unit) _ _ _ () _ _ _ h6 (grownBy_putObj' W D (.deferred none)) (fun r e=>by cases e;exact ⟨_,hK,rfl⟩)
  have r0:(W.putObj D (.deferred none)).cell? ⟨w.heap.size+1,0,none⟩=some (.string nm):=by rw [cell_of_row _ _ 0 _ _ _ e1,h4];rfl
  have r1:(W.putObj D (.deferred none)).cell? ⟨w.heap.size+1,1,none⟩=some (.string (vs (nv - 1 - j)).text):=by rw [cell_of_row _ _ 1 _ _ _ e1];rfl
  have r2:(W.putObj D (.deferred none)).cell? ⟨w.heap.size+1+1,0,none⟩=some (.bool true):=by rw [cell_of_row _ _ 0 _ _ _ e2];rfl
  refine ⟨.tuple #[.agg #[.string nm,.string (vs (nv - 1 - j)).text],.bool true],?_,by rw [Z HL];rfl,hb.trans (belowK_b (w:=w) (Nat.le_refl _) W D _ _ (by omega) hK rfl rfl)⟩
  simp [results,Tryz.results156,go_sem,r0,r1,r2]
end
end Go.Proofs.YtmnmeaeicjhkhaaGreatDoor
