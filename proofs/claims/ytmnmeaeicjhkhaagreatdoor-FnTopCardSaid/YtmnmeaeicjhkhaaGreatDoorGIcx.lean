import Derived.Test.YtmnmeaeicjhkhaaGreatDoorGIax
set_option maxRecDepth 100000
set_option maxHeartbeats 16000000
namespace Go.Proofs.YtmnmeaeicjhkhaaGreatDoor
open Go.RowKit
theorem bF0:Tryz.zeroCells276=Array.replicate 101 (.pointer none):=by kernel_rfl
theorem bF1:(Tryz.prog.info? 276).map (·.size)=some 101:=by kernel_rfl
theorem bM7 (w:World) (o:Obj) :
  cZ (((w.alloc o).alloc (.cells #[.int .i64 0,.int .i64 0,.int .i64 (-1),.int .i64 1,.pointer none] 196)).alloc (.cells Tryz.zeroCells276 276)) St.init (some ⟨w.heap.size+1,0,none⟩) (w.heap.size+1+1):=by
 refine ⟨⟨w.heap.size+1,none,rfl,?_,?_,?_,?_,?_,rfl⟩,⟨fun _=>none,fun t ht=>⟨?_,fun e=>?_⟩⟩,by decide,fun t _=>?_⟩
 ·rw [World.cell?_alloc_old _ _ _ (by simp),bK _ _ _ _ _ (by simp)];rfl
 ·rw [World.cell?_alloc_old _ _ _ (by simp),bK _ _ _ _ _ (by simp)];rfl
 ·rw [World.cell?_alloc_old _ _ _ (by simp),bK _ _ _ _ _ (by simp)];rfl
 ·rw [World.cell?_alloc_old _ _ _ (by simp),bK _ _ _ _ _ (by simp)];rfl
 ·rw [World.cell?_alloc_old _ _ _ (by simp),bK _ _ _ _ _ (by simp)];rfl
 ·rw [bK _ _ _ _ _ (by simp),bF0];simp [ht]
 ·have e0:t≠0:=e
  have e1:St.init.tasks t=[]:=by simp [St.init,e0]
  rw [e1];rfl
 by_cases e0:t=0
 ·subst e0;simp [St.init]
 simp [St.init,e0]
theorem bF2 (w:World) :
  Calls Tryz.prog 143 #[] w fun e w'=>(∃ top bw,e=.returned (.agg #[.int .i64 0,.pointer top,.pointer (some ⟨bw,0,none⟩)])/\cZ w' St.init top bw)/\Below w.heap.size w w':=by
 go_enter Tryz.func143,Tryz.ntmps143
 go_wp2
 refine bodyPost_ret (v:=.agg #[.int .i64 0,.pointer (some ⟨w.heap.size+1,0,none⟩),.pointer (some ⟨w.heap.size+1+1,0,none⟩)]) (by simp [results,Tryz.results143,go_sem]) rfl ⟨⟨_,_,rfl,bM7 w _⟩,?_⟩
 exact (((Below.refl _ _).alloc (Nat.le_refl _) _).alloc (by simp) _).alloc (by simp;omega) _
theorem bM8 (s:St) (t:Int) (top:Option Addr) (bw:Nat) (w:World) (ht:t=s.cur) :
  Calls Tryz.prog 182 #[.agg #[.int .i64 s.cur,.pointer top,.pointer (some ⟨bw,0,none⟩)],.int .i64 t] w fun e w'=>e=.returned (.agg #[.int .i64 s.cur,.pointer top,.pointer (some ⟨bw,0,none⟩)])/\Below w.heap.size w w':=by
 subst ht
 go_enter Tryz.func182,Tryz.ntmps182
 go_wp2
 refine bodyPost_ret (v:=.agg #[.int .i64 s.cur,.pointer top,.pointer (some ⟨bw,0,none⟩)]) (by simp [results,Tryz.results182,go_sem]) rfl ⟨rfl,?_⟩
 exact ((Below.refl _ _).alloc (Nat.le_refl _) _).alloc (by simp) _
theorem Below.setCells {B b:Nat} {a:World} (hB:B<=b):∀ (vs:List Value) (o:Nat) (w:World),Below B a w->Below B a (w.setCells b o vs)
 | [],_,_,h=>h
 | _ :: r,o,_,h=>Below.setCells hB r (o+1) _ (h.setCell (p:=⟨b,o,none⟩) hB _)
theorem PlaceAt_turn {w F:World} {s:St} {t nb bw:Nat} {top:Option Addr} {P:Nat->Option Addr} (h1:cR w (s.tasks s.cur) top)
  (h2:∀ t,t<101->w.cell? ⟨bw,t,none⟩=some (.pointer (P t))/\(t≠s.cur->cR w (s.tasks t) (P t))) (h4:∀ t,t<101->(s.tasks t).length<=200/\∀ f∈s.tasks t,-1<=f.frm)
  (hb:Below w.heap.size w F) (hrow:∀ u,u<101->F.cell? ⟨nb,u,none⟩=some (.pointer (if u=s.cur then top else P u))) (ht:t<101) (hne:t≠s.cur):cZ F ⟨t,s.tasks⟩ (P t) nb:=by
 refine ⟨((h2 t ht).2 hne).below hb,⟨fun u=>if u=s.cur then top else P u,fun u hu=>⟨hrow u hu,fun _=>?_⟩⟩,ht,h4⟩
 show cR F (s.tasks u) (if u=s.cur then top else P u)
 by_cases e:u=s.cur
 ·rw [if_pos e,e];exact h1.below hb
 rw [if_neg e];exact ((h2 u hu).2 e).below hb
theorem bF3 (s:St) (t:Nat) (top:Option Addr) (bw:Nat) (w:World) (h:cZ w s top bw) (ht:t<101) (hne:t≠s.cur) :
  Calls Tryz.prog 182 #[.agg #[.int .i64 s.cur,.pointer top,.pointer (some ⟨bw,0,none⟩)],.int .i64 t] w fun e w' =>
   (∃ top' bw',e=.returned (.agg #[.int .i64 t,.pointer top',.pointer (some ⟨bw',0,none⟩)])/\cZ w' ⟨t,s.tasks⟩ top' bw')/\Below w.heap.size w w':=by
 have H:=O h
 obtain ⟨h1,⟨P,h2⟩,h3,h4⟩:=h
 have H1:=O h1
 have H2:=O h2
 have H4:=O h4
 clear h1 h2 h4
 have hq:((t:Int) == (s.cur:Int))=false:=by rw [beq_eq_false_iff_ne];omega
 obtain ⟨cs,hcl,hcj⟩:∃ cs:List Value,cs.length=101/\∀ j,j<101->cs[j]?=some (.pointer (P j)) :=
  ⟨(List.range 101).map fun t=>.pointer (P t),by simp,fun j hj=>by simp [hj]⟩
 have hone:Hid (∀ v∈cs,v.oneCell'=true):=O fun v hv=>by
  obtain ⟨j,hj,rfl⟩:=List.getElem_of_mem hv
  have:=hcj j (by omega)
  rw [List.getElem?_eq_getElem hj] at this
  rw [Option.some.inj this]
  rfl
 have hr:Hid (∀ x,Below w.heap.size w x->x.rangeAt bw 0 cs):=O fun x hb j v hj=>by
  have hlt:j<101:=by rw [<- hcl];exact (List.getElem?_eq_some_iff.1 hj).1
  rw [hcj j hlt] at hj
  cases hj
  rw [Nat.zero_add]
  exact bG hb (Z H2 j hlt).1
 have HL:=O hcl
 have HJ:=O hcj
 have HN:=O hne
 clear hne hcl hcj
 obtain ⟨W2,hW2⟩:∃ W2,W2=((w.alloc (.cells #[.int .i64 s.cur,.pointer top,.pointer (some ⟨bw,0,none⟩)] 119)).alloc (.cells #[.int .i64 0,.pointer none,.pointer none] 119)).alloc (.cells Tryz.zeroCells276 276):=⟨_,rfl⟩
 have hth:W2.there (w.heap.size+1+1) 0 101:=fun j hj=>by
  rw [hW2,Nat.zero_add,bK _ _ _ _ _ (by simp),cW _ _ _ _ _ (by simp),bF0]
  simp [hj]
 have hB2:Below w.heap.size w W2:=by rw [hW2];exact (((Below.refl _ _).alloc (Nat.le_refl _) _).alloc (by simp) _).alloc (by simp;omega) _
 have hB3:=Below.setCells (b:=w.heap.size+1+1) (by omega) cs 0 W2 (Below.refl (w.heap.size+1+1) W2)
 have hrow:=World.rangeAt_setCells_same W2 (w.heap.size+1+1) 0 cs (by rw [Z HL];exact hth)
 have hfz:∀ j,j<101->(W2.setCells (w.heap.size+1+1) 0 cs).frozen? ⟨w.heap.size+1+1,j,none⟩=false:=fun j hj=>by
  rw [World.frozen?_setCells,<- Nat.zero_add j];exact (hth j hj).2
 have z0:(W2.setCells (w.heap.size+1+1) 0 cs).cell? ⟨w.heap.size,0,none⟩=some (.int .i64 s.cur):=by
  rw [hB3.cell (by simp;omega),hW2,World.cell?_alloc_old _ _ _ (by simp;omega),World.cell?_alloc_old _ _ _ (by simp),bK _ _ _ _ _ rfl];rfl
 have z1:(W2.setCells (w.heap.size+1+1) 0 cs).cell? ⟨w.heap.size,1,none⟩=some (.pointer top):=by
  rw [hB3.cell (by simp;omega),hW2,World.cell?_alloc_old _ _ _ (by simp;omega),World.cell?_alloc_old _ _ _ (by simp),bK _ _ _ _ _ rfl];rfl
 have y0:(W2.setCells (w.heap.size+1+1) 0 cs).cell? ⟨w.heap.size+1,0,none⟩=some (.int .i64 0):=by
  rw [hB3.cell (by simp),hW2,World.cell?_alloc_old _ _ _ (by simp),bK _ _ _ _ _ (by simp)];rfl
 have y1:(W2.setCells (w.heap.size+1+1) 0 cs).cell? ⟨w.heap.size+1,1,none⟩=some (.pointer none):=by
  rw [hB3.cell (by simp),hW2,World.cell?_alloc_old _ _ _ (by simp),bK _ _ _ _ _ (by simp)];rfl
 have y2:(W2.setCells (w.heap.size+1+1) 0 cs).cell? ⟨w.heap.size+1,2,none⟩=some (.pointer none):=by
  rw [hB3.cell (by simp),hW2,World.cell?_alloc_old _ _ _ (by simp),bK _ _ _ _ _ (by simp)];rfl
 have x0:∀ j,(W2.setCells (w.heap.size+1+1) 0 cs).frozen? ⟨w.heap.size+1,j,none⟩=false:=fun j=>by
  rw [hB3.frozen (by simp),hW2,World.frozen?_alloc_old _ _ _ (by simp),cW _ _ _ _ _ (by simp)]
 have HB3:Hid (Below w.heap.size w (W2.setCells (w.heap.size+1+1) 0 cs)):=O (hB2.trans (hB3.mono (by omega)))
 have HROW:Hid (∀ j,j<101->(W2.setCells (w.heap.size+1+1) 0 cs).cell? ⟨w.heap.size+1+1,j,none⟩=some (.pointer (P j))):=O fun j hj=>by
  have:=hrow j _ (Z HJ j hj)
  rwa [Nat.zero_add] at this
 have HW2:=O hW2
 have hca:cs.toArray.size=101:=by rw [List.size_toArray];exact Z HL
 have HTH:Hid (W2.there (w.heap.size+1+1) 0 cs.toArray.size):=by rw [hca];exact O hth
 have HSZ:Hid ((Tryz.prog.info? 276).map (·.size)=some cs.toArray.size):=by rw [hca];exact O bF1
 clear hca
 have HB2:=O hB2
 clear hrow hB3 hB2 hth
 obtain ⟨W3,hW3⟩:∃ W3,W3=W2.setCells (w.heap.size+1+1) 0 cs:=⟨_,rfl⟩
 rw [<- hW3] at hfz z0 z1 y0 y1 y2 HB3 HROW
 have x0':W3.frozen? ⟨w.heap.size+1,0,none⟩=false:=by rw [hW3];exact x0 0
 have x1':W3.frozen? ⟨w.heap.size+1,1,none⟩=false:=by rw [hW3];exact x0 1
 have x2':W3.frozen? ⟨w.heap.size+1,2,none⟩=false:=by rw [hW3];exact x0 2
 have q1:=Z HROW s.cur h3
 have q2:=hfz s.cur h3
 have q3:=Z HROW t ht
 have hj1:(0:Int)<=(s.cur:Int):=by omega
 have hj2:(s.cur:Int)<101:=by omega
 have q4:(W3.setCell ⟨w.heap.size+1+1,s.cur,none⟩ (.pointer top)).cell? ⟨w.heap.size+1+1,t,none⟩=some (.pointer (P t)):=by
  rw [World.cell?_setCell_other _ _ _ _ (by simp;exact fun e=>Z HN e.symm)];exact q3
 have HW3:=O hW3
 clear hW3 hW2 x0 hfz q3
 go_enter Tryz.func182,Tryz.ntmps182
 go_wp2_with (first
  | (refine wpList_load_mid (by rfl) 276 _ (by rfl) bw 0 (by rfl) cs _ (Z hr _ (by exact ((Below.refl _ _).alloc (Nat.le_refl _) _).alloc (by simp) _)) Tryz.underlying276 (by rfl) (by rw [Z HL];exact bF1) ?_)
  | (refine wpList_store_mid (by rfl) 276 _ _ (by rfl) (w.heap.size+1+1) 0 cs.toArray (by rfl) (by rfl) (by rw [<- Z HW2];exact Z HTH) (Z HSZ) (all_oneCell_toArray (Z hone)) ?_;rw [List.toList_toArray,<- Z HW2,<- Z HW3]))
 refine bodyPost_ret (v:=.agg #[.int .i64 t,.pointer (P t),.pointer (some ⟨w.heap.size+1+1,0,none⟩)]) (by simp [results,Tryz.results182,go_sem,y0,y1,y2]) rfl ⟨⟨_,_,rfl,PlaceAt_turn (Z H1) (Z H2) (Z H4) ?_ (fun u hu=>?_) ht (Z HN)⟩,?_⟩
 ·repeat (refine Below.setCell ?_ (by simp<;>omega) _)
  exact Z HB3
 ·rw [World.cell?_setCell_other _ _ _ _ (by simp),World.cell?_setCell_other _ _ _ _ (by simp),World.cell?_setCell_other _ _ _ _ (by simp)]
  by_cases e:u=s.cur
  ·rw [if_pos e,e]
   exact World.cell?_setCell_same _ _ _ q1
  rw [if_neg e,World.cell?_setCell_other _ _ _ _ (by simp<;>exact fun e'=>e e'.symm)]
  exact Z HROW u hu
 repeat (refine Below.setCell ?_ (by simp<;>omega) _)
 exact Z HB3
theorem cZ.put {w w':World} {s:St} {top top':Option Addr} {bw:Nat} {l:List Fr} (h:cZ w s top bw) (hb:Below w.heap.size w w') (hl:cR w' l top') (h1:l.length<=200) (h2:∀ f∈l,-1<=f.frm):cZ w' (s.put l) top' bw:=by
 obtain ⟨_,⟨P,h4⟩,h5,h6⟩:=h
 refine ⟨?_,⟨P,fun t ht=>⟨bG hb (h4 t ht).1,fun e=>?_⟩⟩,h5,fun t ht=>?_⟩
 ·show cR w' (if s.cur=s.cur then l else s.tasks s.cur) top'
  rw [if_pos rfl];exact hl
 ·have e':t≠s.cur:=e
  show cR w' (if t=s.cur then l else s.tasks t) (P t)
  rw [if_neg e'];exact ((h4 t ht).2 e').below hb
 show (if t=s.cur then l else s.tasks t).length<=200/\∀ f∈(if t=s.cur then l else s.tasks t),-1<=f.frm
 by_cases e:t=s.cur
 ·rw [if_pos e];exact ⟨h1,h2⟩
 rw [if_neg e];exact h6 t ht
def kX (w:World) (c:Int) (top wt:Option Addr) (w':World):Prop :=
 Below (w.heap.size+2) ((w.alloc (.cells #[.int .i64 c,.pointer top,.pointer wt] 119)).alloc (.cells #[.int .i64 0,.pointer none,.pointer none] 119)) w'
theorem kX.below {w w':World} {c:Int} {top wt:Option Addr} (h:kX w c top wt w'):Below w.heap.size w w' :=
 (((Below.refl _ _).alloc (Nat.le_refl _) _).alloc (by simp) _).trans (Below.mono h (by omega))
theorem kX.size {w w':World} {c:Int} {top wt:Option Addr} (h:kX w c top wt w'):w.heap.size+2<=w'.heap.size:=by
 have:=Below.size h;simpa using this
theorem kX.go {w w' w'':World} {c:Int} {top wt:Option Addr} (h:kX w c top wt w') (hb:Below w'.heap.size w' w''):kX w c top wt w'':=Below.trans h (hb.mono h.size)
theorem kX.b {w w':World} {c:Int} {top wt:Option Addr} (h:kX w c top wt w'):w'.cell? ⟨w.heap.size,0,none⟩=some (.int .i64 c)/\w'.cell? ⟨w.heap.size,1,none⟩=some (.pointer top)/\w'.cell? ⟨w.heap.size,2,none⟩=some (.pointer wt)/\w'.frozen? ⟨w.heap.size,1,none⟩=false:=by
 refine ⟨?_,?_,?_,?_⟩
 ·rw [Below.cell h (by simp),World.cell?_alloc_old _ _ _ (by simp),bK _ _ _ _ _ rfl];rfl
 ·rw [Below.cell h (by simp),World.cell?_alloc_old _ _ _ (by simp),bK _ _ _ _ _ rfl];rfl
 ·rw [Below.cell h (by simp),World.cell?_alloc_old _ _ _ (by simp),bK _ _ _ _ _ rfl];rfl
 rw [Below.frozen h (by simp),World.frozen?_alloc_old _ _ _ (by simp),cW _ _ _ _ _ rfl]
theorem kX.r {w w':World} {c:Int} {top wt:Option Addr} (h:kX w c top wt w'):w'.cell? ⟨w.heap.size+1,0,none⟩=some (.int .i64 0)/\w'.cell? ⟨w.heap.size+1,1,none⟩=some (.pointer none)/\w'.cell? ⟨w.heap.size+1,2,none⟩=some (.pointer none):=by
 refine ⟨?_,?_,?_⟩
 ·rw [Below.cell h (by simp),bK _ _ _ _ _ (by simp)];rfl
 ·rw [Below.cell h (by simp),bK _ _ _ _ _ (by simp)];rfl
 rw [Below.cell h (by simp),bK _ _ _ _ _ (by simp)];rfl
theorem kX.f {w w':World} {c:Int} {top wt:Option Addr} (h:kX w c top wt w'):w'.frozen? ⟨w.heap.size+1,0,none⟩=false/\w'.frozen? ⟨w.heap.size+1,1,none⟩=false/\w'.frozen? ⟨w.heap.size+1,2,none⟩=false:=by
 refine ⟨?_,?_,?_⟩
 ·rw [Below.frozen h (by simp),cW _ _ _ _ _ (by simp)]
 ·rw [Below.frozen h (by simp),cW _ _ _ _ _ (by simp)]
 rw [Below.frozen h (by simp),cW _ _ _ _ _ (by simp)]
theorem cR.set {w:World} {a:Addr} {v:Value}:∀ {l:List Fr} {p:Option Addr},cR w l p->(∀ b,w.cell? ⟨b,4,none⟩≠none->b≠a.block)->cR (w.setCell a v) l p
 | [],_,h,_=>h
 | _ :: _,_,h,hne=>by
  obtain ⟨b,p',e,h0,h1,h2,h3,h4,h5⟩:=h
  have hb:a.block≠b:=fun e=>hne b (by rw [h4];simp) e.symm
  exact ⟨b,p',e,bJ hb h0,bJ hb h1,bJ hb h2,bJ hb h3,bJ hb h4,h5.set hne⟩
theorem cR.setBox {w:World} {b o:Nat} {v:Value} {l:List Fr} {p:Option Addr} (h:cR w l p) (hb:w.cell? ⟨b,4,none⟩=none):cR (w.setCell ⟨b,o,none⟩ v) l p:=h.set fun b' hn e=>hn (by rw [e];exact hb)
theorem kX.n {w w':World} {c:Int} {top wt:Option Addr} (h:kX w c top wt w'):w'.cell? ⟨w.heap.size,4,none⟩=none/\w'.cell? ⟨w.heap.size+1,4,none⟩=none:=by
 refine ⟨?_,?_⟩
 ·rw [Below.cell h (by simp),World.cell?_alloc_old _ _ _ (by simp),bK _ _ _ _ _ rfl];rfl
 rw [Below.cell h (by simp),bK _ _ _ _ _ (by simp)];rfl
theorem fL {w:World} {a b:Addr} {v:Value} (h:w.cell? a=none):(w.setCell b v).cell? a=none:=by
 by_cases e:b=a
 ·subst e
  unfold World.cell? at h ⊢
  simp only [World.setCell,Array.getElem?_modify]
  simp only [if_true]
  cases hh:w.heap[b.block]? with
  | none=>simp
  | some o =>
   rw [hh] at h
   cases o<;>simp_all
 rw [World.cell?_setCell_other _ _ _ _ e];exact h
def Went (w:World) (s:St) (k t fn l i:Int) (e:Ending) (w':World):Prop :=
 (∃ top' bw',e=.returned (.agg #[.int .i64 (s.step k t fn l i).cur,.pointer top',.pointer (some ⟨bw',0,none⟩)])/\cZ w' (s.step k t fn l i) top' bw')/\Below w.heap.size w w'
theorem after_other4 (s:St) (t fn l i:Int) (top:Option Addr) (bw:Nat) (w:World) (h:cZ w s top bw)  :
  Calls Tryz.prog 146 #[.agg #[.int .i64 s.cur,.pointer top,.pointer (some ⟨bw,0,none⟩)],eC 4 t fn l,.int .i64 i] w (Went w s 4 t fn l i):=by
 have e1:eC 4 t fn l=.iface 284 (.agg #[.int .i64 t,.int .i64 fn]):=rfl
 rw [e1];clear e1
 have H:=O h;clear h
 have E:Hid (s.step 4 t fn l i=s):=O (by simp [St.step])
 have a0:=jZ
 have a1:=jK
 have a2:=kQ
 have a3:=jT
 go_enter Tryz.func146,Tryz.ntmps146
 go_wp2
 refine bodyPost_ret (v:=.agg #[.int .i64 s.cur,.pointer top,.pointer (some ⟨bw,0,none⟩)]) (by simp [results,Tryz.results146,go_sem]) rfl ⟨⟨top,bw,by rw [Z E],?_⟩,?_⟩
 ·rw [Z E]
  exact (Z H).below (((Below.refl _ _).alloc (Nat.le_refl _) _).alloc (by simp) _)
 exact ((Below.refl _ _).alloc (Nat.le_refl _) _).alloc (by simp) _
theorem after_other5 (s:St) (t fn l i:Int) (top:Option Addr) (bw:Nat) (w:World) (h:cZ w s top bw)  :
  Calls Tryz.prog 146 #[.agg #[.int .i64 s.cur,.pointer top,.pointer (some ⟨bw,0,none⟩)],eC 5 t fn l,.int .i64 i] w (Went w s 5 t fn l i):=by
 have e1:eC 5 t fn l=.iface 285 (.agg #[.int .i64 t,.int .i64 fn]):=rfl
 rw [e1];clear e1
 have H:=O h;clear h
 have E:Hid (s.step 5 t fn l i=s):=O (by simp [St.step])
 have a0:=kF
 have a1:=jL
 have a2:=kR
 have a3:=jU
 go_enter Tryz.func146,Tryz.ntmps146
 go_wp2
 refine bodyPost_ret (v:=.agg #[.int .i64 s.cur,.pointer top,.pointer (some ⟨bw,0,none⟩)]) (by simp [results,Tryz.results146,go_sem]) rfl ⟨⟨top,bw,by rw [Z E],?_⟩,?_⟩
 ·rw [Z E]
  exact (Z H).below (((Below.refl _ _).alloc (Nat.le_refl _) _).alloc (by simp) _)
 exact ((Below.refl _ _).alloc (Nat.le_refl _) _).alloc (by simp) _
theorem after_other6 (s:St) (t fn l i:Int) (top:Option Addr) (bw:Nat) (w:World) (h:cZ w s top bw)  :
  Calls Tryz.prog 146 #[.agg #[.int .i64 s.cur,.pointer top,.pointer (some ⟨bw,0,none⟩)],eC 6 t fn l,.int .i64 i] w (Went w s 6 t fn l i):=by
 have e1:eC 6 t fn l=.iface 286 (.agg #[.int .i64 t,.int .i64 fn]):=rfl
 rw [e1];clear e1
 have H:=O h;clear h
 have E:Hid (s.step 6 t fn l i=s):=O (by simp [St.step])
 have a0:=jM
 have a1:=jC
 have a2:=kG
 have a3:=jH
 go_enter Tryz.func146,Tryz.ntmps146
 go_wp2
 refine bodyPost_ret (v:=.agg #[.int .i64 s.cur,.pointer top,.pointer (some ⟨bw,0,none⟩)]) (by simp [results,Tryz.results146,go_sem]) rfl ⟨⟨top,bw,by rw [Z E],?_⟩,?_⟩
 ·rw [Z E]
  exact (Z H).below (((Below.refl _ _).alloc (Nat.le_refl _) _).alloc (by simp) _)
 exact ((Below.refl _ _).alloc (Nat.le_refl _) _).alloc (by simp) _
theorem after_back (s:St) (t fn l i:Int) (top:Option Addr) (bw:Nat) (w:World) (h:cZ w s top bw) (f:Fr) (r:List Fr) (hs:s.tasks s.cur=f :: r) :
  Calls Tryz.prog 146 #[.agg #[.int .i64 s.cur,.pointer top,.pointer (some ⟨bw,0,none⟩)],eC 3 t fn l,.int .i64 i] w (Went w s 3 t fn l i):=by
 have e1:eC 3 t fn l=.iface 283 (.agg #[.int .i64 t,.int .i64 fn]):=rfl
 rw [e1];clear e1
 have H:=O h
 have a0:=eS
 have a1:=eH
 have a2:=eW
 have E:Hid (s.step 3 t fn l i=s.put r):=O (by simp [St.step,hs])
 obtain ⟨h1,-,h3,h4⟩:=h
 have h5:=h4 _ h3
 rw [hs] at h1 h5
 obtain ⟨b,p',rfl,-,-,-,-,k4,hr⟩:=h1
 have HR:=O hr
 have H5:=O h5
 have HS:=O hs
 have hb:=bV k4
 simp only at hb
 clear hr h4 hs h5
 have B3:=O ((((Below.refl w.heap.size w).alloc (Nat.le_refl _) (.cells #[.int .i64 s.cur,.pointer (some ⟨b,0,none⟩),.pointer (some ⟨bw,0,none⟩)] 119)).alloc (by simp) (.cells #[.int .i64 0,.pointer none,.pointer none] 119)).alloc (by simp;omega) (.cells #[.int .i64 t,.int .i64 fn] 283))
 have k4':=bG (Z B3) k4
 go_enter Tryz.func146,Tryz.ntmps146
 go_wp2
 refine bodyPost_ret (v:=.agg #[.int .i64 s.cur,.pointer p',.pointer (some ⟨bw,0,none⟩)]) (by simp [results,Tryz.results146,go_sem]) rfl ⟨⟨p',bw,by rw [Z E];rfl,?_⟩,?_⟩
 ·rw [Z E]
  refine (Z H).put ?_ (cR.below ?_ (Z HR)) (by have:=(Z H5).1;simp at this;omega) (fun x hx=>(Z H5).2 x (List.mem_cons_of_mem _ hx))
  ·exact (((Below.refl _ _).alloc (Nat.le_refl _) _).alloc (by simp) _).alloc (by simp;omega) _
  exact (((Below.refl _ _).alloc (Nat.le_refl _) _).alloc (by simp) _).alloc (by simp;omega) _
 exact (((Below.refl _ _).alloc (Nat.le_refl _) _).alloc (by simp) _).alloc (by simp;omega) _
theorem after_line (s:St) (t fn l i:Int) (top:Option Addr) (bw:Nat) (w:World) (h:cZ w s top bw) (f:Fr) (r:List Fr) (hs:s.tasks s.cur=f :: r) :
  Calls Tryz.prog 146 #[.agg #[.int .i64 s.cur,.pointer top,.pointer (some ⟨bw,0,none⟩)],eC 1 t fn l,.int .i64 i] w (Went w s 1 t fn l i):=by
 have e1:eC 1 t fn l=.iface 280 (.agg #[.int .i64 t,.int .i64 fn,.int .i64 l]):=rfl
 rw [e1];clear e1
 have H:=O h
 have a0:=fH
 have E:Hid (s.step 1 t fn l i=s.put (⟨f.fn,l,f.frm⟩ :: r)):=O (by simp [St.step,hs,qG])
 obtain ⟨h1,-,h3,h4⟩:=h
 have h5:=h4 _ h3
 rw [hs] at h1 h5
 have H1:=O h1
 have H5:=O h5
 have HS:=O hs
 clear h1 h4 hs h5
 have B3:=O ((((Below.refl w.heap.size w).alloc (Nat.le_refl _) (.cells #[.int .i64 s.cur,.pointer top,.pointer (some ⟨bw,0,none⟩)] 119)).alloc (by simp) (.cells #[.int .i64 0,.pointer none,.pointer none] 119)).alloc (by simp;omega) (.cells #[.int .i64 t,.int .i64 fn,.int .i64 l] 280))
 have T3:Hid (kX w s.cur top (some ⟨bw,0,none⟩) (((w.alloc (.cells #[.int .i64 s.cur,.pointer top,.pointer (some ⟨bw,0,none⟩)] 119)).alloc (.cells #[.int .i64 0,.pointer none,.pointer none] 119)).alloc (.cells #[.int .i64 t,.int .i64 fn,.int .i64 l] 280))):=O ((Below.refl _ _).alloc (by simp) _)
 go_enter Tryz.func146,Tryz.ntmps146
 go_wp2_with fail
 refine (atLine_any f r top l _ ((Z H1).below (Z B3))).mono ?_
 rintro e w1 ⟨⟨q,rfl,hq⟩,hb1⟩
 have HQ:=O hq
 have T1:=O ((Z T3).go hb1)
 obtain ⟨g0,g1,g2,g3⟩:=(Z T1).b
 obtain ⟨r0,r1,r2⟩:=(Z T1).r
 obtain ⟨f0,f1,f2⟩:=(Z T1).f
 clear hq hb1
 go_wp2
 refine bodyPost_ret (v:=.agg #[.int .i64 s.cur,.pointer q,.pointer (some ⟨bw,0,none⟩)]) (by simp [results,Tryz.results146,go_sem,r0,r1,r2]) rfl ⟨⟨q,bw,by rw [Z E];rfl,?_⟩,?_⟩
 ·rw [Z E]
  refine (Z H).put ?_ ?_ ?_ ?_
  ·repeat (refine Below.setCell ?_ (by simp) _)
   exact (Z T1).below
  ·repeat (first | exact Z HQ | refine cR.setBox ?_ (by repeat (first | exact (Z T1).n.1 | exact (Z T1).n.2 | refine fL ?_)))
  ·simpa using (Z H5).1
  intro x hx
  rcases List.mem_cons.1 hx with rfl | hx
  ·exact (Z H5).2 f (List.mem_cons_self ..)
  exact (Z H5).2 x (List.mem_cons_of_mem _ hx)
 repeat (refine Below.setCell ?_ (by simp) _)
 exact (Z T1).below
theorem after_call (s:St) (t fn l i:Int) (top:Option Addr) (bw:Nat) (w:World) (h:cZ w s top bw) (hd:(s.tasks s.cur).length<200) (hi:0<=i) :
  Calls Tryz.prog 146 #[.agg #[.int .i64 s.cur,.pointer top,.pointer (some ⟨bw,0,none⟩)],eC 2 t fn l,.int .i64 i] w (Went w s 2 t fn l i):=by
 have e1:eC 2 t fn l=.iface 282 (.agg #[.int .i64 t,.int .i64 fn]):=rfl
 rw [e1];clear e1
 have H:=O h
 have a0:=qV
 have a1:=gB
 have E:Hid (s.step 2 t fn l i=s.put (⟨fn,0,i⟩ :: s.tasks s.cur)):=O (by simp [St.step])
 obtain ⟨h1,-,h3,h4⟩:=h
 have h5:=h4 _ h3
 have H1:=O h1
 have H5:=O h5
 clear h1 h4 h5
 have B3:=O ((((Below.refl w.heap.size w).alloc (Nat.le_refl _) (.cells #[.int .i64 s.cur,.pointer top,.pointer (some ⟨bw,0,none⟩)] 119)).alloc (by simp) (.cells #[.int .i64 0,.pointer none,.pointer none] 119)).alloc (by simp;omega) (.cells #[.int .i64 t,.int .i64 fn] 282))
 have T3:Hid (kX w s.cur top (some ⟨bw,0,none⟩) (((w.alloc (.cells #[.int .i64 s.cur,.pointer top,.pointer (some ⟨bw,0,none⟩)] 119)).alloc (.cells #[.int .i64 0,.pointer none,.pointer none] 119)).alloc (.cells #[.int .i64 t,.int .i64 fn] 282))):=O ((Below.refl _ _).alloc (by simp) _)
 go_enter Tryz.func146,Tryz.ntmps146
 go_wp2_with fail
 refine (opened_any (s.tasks s.cur) top fn 0 i _ ((Z H1).below (Z B3)) (by omega)).mono ?_
 rintro e w1 ⟨⟨q,rfl,hq⟩,hb1⟩
 have HQ:=O hq
 have T1:=O ((Z T3).go hb1)
 obtain ⟨g0,g1,g2,g3⟩:=(Z T1).b
 obtain ⟨r0,r1,r2⟩:=(Z T1).r
 obtain ⟨f0,f1,f2⟩:=(Z T1).f
 clear hq hb1
 go_wp2
 refine bodyPost_ret (v:=.agg #[.int .i64 s.cur,.pointer q,.pointer (some ⟨bw,0,none⟩)]) (by simp [results,Tryz.results146,go_sem,r0,r1,r2]) rfl ⟨⟨q,bw,by rw [Z E];rfl,?_⟩,?_⟩
 ·rw [Z E]
  refine (Z H).put ?_ ?_ ?_ ?_
  ·repeat (refine Below.setCell ?_ (by simp) _)
   exact (Z T1).below
  ·repeat (first | exact Z HQ | refine cR.setBox ?_ (by repeat (first | exact (Z T1).n.1 | exact (Z T1).n.2 | refine fL ?_)))
  ·simp only [List.length_cons];omega
  intro x hx
  rcases List.mem_cons.1 hx with rfl | hx
  ·show (-1:Int)<=i;omega
  exact (Z H5).2 x hx
 repeat (refine Below.setCell ?_ (by simp) _)
 exact (Z T1).below
theorem bD4 (s:St) (t fn l i:Int) (top:Option Addr) (bw:Nat) (w:World) (h:cZ w s top bw) (ht:t=s.cur) :
  Calls Tryz.prog 146 #[.agg #[.int .i64 s.cur,.pointer top,.pointer (some ⟨bw,0,none⟩)],eC 7 t fn l,.int .i64 i] w (Went w s 7 t fn l i):=by
 have e1:eC 7 t fn l=.iface 287 (.agg #[.int .i64 t,.int .i64 fn]):=rfl
 rw [e1];clear e1
 have H:=O h;clear h
 subst ht
 have E:Hid (s.step 7 (s.cur:Int) fn l i=s):=O (by simp [St.step])
 have a0:=pP
 have a1:=pB
 have a2:=pW
 have a3:=mM
 have T3:Hid (kX w s.cur top (some ⟨bw,0,none⟩) (((w.alloc (.cells #[.int .i64 s.cur,.pointer top,.pointer (some ⟨bw,0,none⟩)] 119)).alloc (.cells #[.int .i64 0,.pointer none,.pointer none] 119)).alloc (.cells #[.int .i64 s.cur,.int .i64 fn] 287))):=O ((Below.refl _ _).alloc (by simp) _)
 go_enter Tryz.func146,Tryz.ntmps146
 go_wp2_with fail
 refine (bM8 s s.cur top bw _ rfl).mono ?_
 rintro e w1 ⟨rfl,hb1⟩
 have T1:=O ((Z T3).go hb1)
 obtain ⟨r0,r1,r2⟩:=(Z T1).r
 obtain ⟨f0,f1,f2⟩:=(Z T1).f
 clear hb1
 go_wp2
 refine bodyPost_ret (v:=.agg #[.int .i64 s.cur,.pointer top,.pointer (some ⟨bw,0,none⟩)]) (by simp [results,Tryz.results146,go_sem,r0,r1,r2]) rfl ⟨⟨top,bw,by rw [Z E],?_⟩,?_⟩
 ·rw [Z E]
  refine (Z H).below ?_
  repeat (refine Below.setCell ?_ (by simp) _)
  exact (Z T1).below
 repeat (refine Below.setCell ?_ (by simp) _)
 exact (Z T1).below
theorem cZ.setBox {w:World} {b o:Nat} {v:Value} {s:St} {top:Option Addr} {bw:Nat} (h:cZ w s top bw) (hb:w.cell? ⟨b,4,none⟩=none):cZ (w.setCell ⟨b,o,none⟩ v) s top bw:=by
 obtain ⟨h1,⟨P,h2⟩,h3,h4⟩:=h
 have hbw:b≠bw:=fun e=>by
  have:=(h2 4 (by omega)).1
  rw [<- e,hb] at this
  cases this
 exact ⟨h1.setBox hb,⟨P,fun t ht=>⟨bJ hbw (h2 t ht).1,fun e=>((h2 t ht).2 e).setBox hb⟩⟩,h3,h4⟩
theorem zE (s:St) (t fn l i:Int) (top:Option Addr) (bw:Nat) (w:World) (h:cZ w s top bw) (n:Nat) (hn:t=n) (ht:n<101) (hne:n≠s.cur) :
  Calls Tryz.prog 146 #[.agg #[.int .i64 s.cur,.pointer top,.pointer (some ⟨bw,0,none⟩)],eC 7 t fn l,.int .i64 i] w (Went w s 7 t fn l i):=by
 have e1:eC 7 t fn l=.iface 287 (.agg #[.int .i64 t,.int .i64 fn]):=rfl
 rw [e1];clear e1
 have H:=O h;clear h
 subst hn
 have E:Hid (s.step 7 (n:Int) fn l i=⟨n,s.tasks⟩):=O (by simp [St.step])
 have a0:=pP
 have a1:=pB
 have a2:=pW
 have a3:=mM
 have T3:Hid (kX w s.cur top (some ⟨bw,0,none⟩) (((w.alloc (.cells #[.int .i64 s.cur,.pointer top,.pointer (some ⟨bw,0,none⟩)] 119)).alloc (.cells #[.int .i64 0,.pointer none,.pointer none] 119)).alloc (.cells #[.int .i64 n,.int .i64 fn] 287))):=O ((Below.refl _ _).alloc (by simp) _)
 go_enter Tryz.func146,Tryz.ntmps146
 go_wp2_with fail
 refine (bF3 s n top bw _ ((Z H).below (Z T3).below) ht hne).mono ?_
 rintro e w1 ⟨⟨top',bw',rfl,hq⟩,hb1⟩
 have HQ:=O hq
 have T1:=O ((Z T3).go hb1)
 obtain ⟨r0,r1,r2⟩:=(Z T1).r
 obtain ⟨f0,f1,f2⟩:=(Z T1).f
 clear hb1 hq
 go_wp2
 refine bodyPost_ret (v:=.agg #[.int .i64 n,.pointer top',.pointer (some ⟨bw',0,none⟩)]) (by simp [results,Tryz.results146,go_sem,r0,r1,r2]) rfl ⟨⟨top',bw',by rw [Z E],?_⟩,?_⟩
 ·rw [Z E]
  repeat (first | exact Z HQ | refine cZ.setBox ?_ (by repeat (first | exact (Z T1).n.1 | exact (Z T1).n.2 | refine fL ?_)))
 repeat (refine Below.setCell ?_ (by simp) _)
 exact (Z T1).below
end Go.Proofs.YtmnmeaeicjhkhaaGreatDoor
