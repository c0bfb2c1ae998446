import Derived.Test.YtmnmeaeicjhkhaaGreatDoorGSax
import Derived.Deep.DrawnRows
set_option maxRecDepth 100000
set_option maxHeartbeats 16000000
namespace Go.Proofs.YtmnmeaeicjhkhaaGreatDoor
open Go.RowKit
section
attribute [local go_sem ↓] Go.wp_at_zero Go.wp_at_succ
theorem takeAt {P:Program} {ops:Array Oper} {Q:Exit->Act->World->Prop} {md:Region.Mode} {S:World->Prop} (i:Nat) (dst:Option Tmp) {v:Value} {fuel:Nat} {listed:Array Bool} {a:Act} {w:World}
  (hl:i<ops.size) (hd:(ops[i]'hl).dst=dst) (hs:Region.noSelect ops=true) (hf:Region.free md ops listed i=true) (hr:(Region.ready md ops listed).contains i=true)
  (hQ:∀ c a w,Q (.panic c) (a.put dst v) w->Q (.panic c) a w) (hw:Region.wanted (ops[i]'hl) (yielded ops a.tmps)=true) (hy:∀ w,S w->(execOp a.eval (ops[i]'hl)).run P w=.ok (.value v) w) (hS:S w)
  (h:wpAnyH P md ops Q S fuel (listed.setIfInBounds i true) (a.put dst v) w):wpAnyH P md ops Q S (fuel+1) listed a w:=by
 subst hd
 exact wpAnyH_take (Array.getElem?_eq_getElem hl) hs hf hr hQ (Or.inl ⟨hw,hy⟩) hS h
theorem tkx {P:Program} {ops:Array Oper} {Q:Exit->Act->World->Prop} {md:Region.Mode} {S:World->Prop} {o:Oper} {v:Value} {fuel:Nat} {listed:Array Bool} {a:Act} {w:World} (i:Nat) (d:Tmp)
  (hy:∀ w,S w->(execOp a.eval o).run P w=.ok (.value v) w) (hS:S w) (h:wpAnyH P md ops Q S fuel (listed.setIfInBounds i true) (a.put (some d) v) w)
  (ho:ops[i]?=some o:=by rfl) (hd:o.dst=some d:=by rfl) (hs:Region.noSelect ops=true:=by kernel_rfl) (hf:Region.free md ops listed i=true:=by kernel_rfl) (hr:(Region.ready md ops listed).contains i=true:=by kernel_rfl)
  (hQ:∀ c a w,Q (.panic c) (a.put (some d) v) w->Q (.panic c) a w:=by exact fun _ _ _ h=>h) (hw:Region.wanted o (yielded ops a.tmps)=true:=by rfl):wpAnyH P md ops Q S (fuel+1) listed a w:=by
 rw [<- hd] at h hQ
 exact wpAnyH_take ho hs hf hr hQ (Or.inl ⟨hw,hy⟩) hS h
theorem tka {P:Program} {ops:Array Oper} {Q:Exit->Act->World->Prop} {md:Region.Mode} {S:World->Prop} {o:Oper} {v:Value} {fuel:Nat} {listed:Array Bool} {a a1:Act} {w:World} (i:Nat) (d:Tmp)
  (hS:S w) (h:wpAnyH P md ops Q S fuel (listed.setIfInBounds i true) a1 w)
  (ho:ops[i]?=some o:=by rfl) (hd:o.dst=some d:=by rfl) (hs:Region.noSelect ops=true:=by kernel_rfl) (hf:Region.free md ops listed i=true:=by kernel_rfl) (hr:(Region.ready md ops listed).contains i=true:=by kernel_rfl)
  (hy:∀ w,S w->(execOp a.eval o).run P w=.ok (.value v) w:=by intro wx hSw;(repeat (obtain ⟨_,hSw⟩:=hSw));go_simp;with_reducible rfl)
  (hQ:∀ c a w,Q (.panic c) (a.put (some d) v) w->Q (.panic c) a w:=by exact fun _ _ _ h=>h) (hw:Region.wanted o (yielded ops a.tmps)=true:=by rfl) (ha:a.put (some d) v=a1:=by (simp only [Act.put,sx]);rfl):wpAnyH P md ops Q S (fuel+1) listed a w :=
 tkx i d hy hS (by rw [ha];exact h) ho hd hs hf hr hQ hw
theorem rdy {P:Program} {ops:Array Oper} {Q:Exit->Act->World->Prop} {md:Region.Mode} {S:World->Prop} {o:Oper} {fuel:Nat} {listed:Array Bool} {a:Act} {w:World} (i:Nat)
  (h:∀ K':Act->World->Prop,Shut (∀ a w,S w->(S w->wpAnyH P md ops Q S fuel (listed.setIfInBounds i true) a w)->K' a w)->if Region.wanted o (yielded ops a.tmps)=true then Oper.wp P o a w K' Q else K' (a.put o.dst undef) w)
  (hr:Region.ready md ops listed=[i]:=by kernel_rfl) (ho:ops[i]?=some o:=by rfl):wpAnyH P md ops Q S (fuel+1) listed a w:=wpAnyH_ready hr (by simp) (AllReadyH.cons ho h AllReadyH.nil)
theorem vZ:(Tryz.prog.info? 42).map (fun i=>(i.zero,i.size,i.bytes))=some (some (.agg #[.int .i64 0,.int .i64 0,.int .i64 0]),3,24):=by kernel_rfl
theorem move_deep (B ps:Nat) (s:St) (t fn l i:Int) (tx:ByteArray) (v:Value) (w:World) (h:cG B w ps s) (ht:t=s.cur) (hd:(s.tasks s.cur).length=200) :
  Calls Tryz.prog 57 #[.pointer (some ⟨ps,0,none⟩),.agg #[.int .i64 2,.int .i64 t,.int .i64 fn,.int .i64 l,.string tx,v],.int .i64 i] w (tC B w ps s 2 t fn l i):=by
 subst ht
 have H:=O h
 have hB:=O h.base
 obtain ⟨bt,V,hh⟩:=h
 have hp:=hh.hp
 have h0:=hh.c0
 have hc1:=hh.c1
 clear hh
 have hz:=bV h0
 simp only at hz
 have E3:Hid (code s 2 (s.cur:Int) fn=5):=by
  refine O ?_
  simp [code,hd]
 have hne:ps≠w.heap.size:=by omega
 have HD:=O hd;clear hd
 go_enter Tryz.func57,Tryz.ntmps57
 go_wp2
 go_quiet (fail)
 go_wp2_with fail
 refine (fZ B ps s _ ((Z H).below (by exact below_drewN ((Below.refl _ _).alloc (Nat.le_refl _) _) _))).mono ?_
 rintro e w1 ⟨rfl,q,hq⟩
 rw [Z HD]
 subst hq
 go_wp2
 go_ret
 refine ⟨by rw [Z E3];rfl,fun h=>?_,?_,?_⟩
 ·rw [Z E3] at h;cases h
 ·exact below_drewN ((Below.refl _ _).alloc (Z hB) _) _
 exact gD.of_below (below_drewN ((Below.refl _ _).alloc (Nat.le_refl _) _) _)
theorem move_call (B ps:Nat) (s:St) (t fn l i:Int) (tx:ByteArray) (v:Value) (w:World) (h:cG B w ps s) (ht:t=s.cur) (hd:(s.tasks s.cur).length≠200) :
  Calls Tryz.prog 57 #[.pointer (some ⟨ps,0,none⟩),.agg #[.int .i64 2,.int .i64 t,.int .i64 fn,.int .i64 l,.string tx,v],.int .i64 i] w (tC B w ps s 2 t fn l i):=by
 subst ht
 have H:=O h
 have hB:=h.base
 obtain ⟨bt,V,hh⟩:=h
 have KT:=O hh.kinds
 have HH:=O hh
 have hp:=hh.hp
 have h0:=hh.c0
 have hc1:=hh.c1
 have hi2:=hh.cur
 have hi4:=hh.len _ hi2
 have HL:=O ((hh.own _ hi2).lt)
 have NE:Hid (bt≠ps/\bt≠w.heap.size):=⟨Ne.symm hh.ne,by have:=hh.row.lt;omega⟩
 have hbt:=hh.hbt
 clear hh
 have hz:=bV h0
 simp only at hz
 have E3:Hid (code s 2 (s.cur:Int) fn=0/\s.step 2 (s.cur:Int) fn l i=s.put (⟨fn,0,i⟩ :: s.tasks s.cur)):=by
  refine O ⟨?_,?_⟩
  ·simp [code,hd]
  simp [St.step]
 have hne:ps≠w.heap.size:=by omega
 have hd1:(((s.tasks s.cur).length:Int) - 1+1 == 200)=false:=by simp;omega
 have hd2:(((s.tasks s.cur).length:Int) == 200)=false:=by simp;omega
 have hd3:(s.tasks s.cur).length<200:=by omega
 clear hd
 go_enter Tryz.func57,Tryz.ntmps57
 go_wp2
 go_quiet (fail)
 go_wp2_with fail
 refine (fZ B ps s _ ((Z H).below (by exact below_drewN ((Below.refl _ _).alloc (Nat.le_refl _) _) _))).mono ?_
 rintro e w1 ⟨rfl,q,hq⟩
 have hbx0:w1.cell? ⟨w.heap.size,0,none⟩=some (.int .i64 2):=by rw [hq];simp
 have hbx:w1.cell? ⟨w.heap.size,2,none⟩=some (.int .i64 fn):=by rw [hq];simp
 have HB1:Hid (Below w.heap.size w w1):=by rw [hq];exact O (below_drewN (below_drewN ((Below.refl _ _).alloc (Nat.le_refl _) _) _) _)
 clear hq h0 hc1 H
 have HC:=O ((Z HH).grown (Z HB1))
 have h0:=(Z HC).c0
 have hc1:=(Z HC).c1
 have hc:=(Z HC).row.cell hi2
 have hfz:=(Z HC).row.frozen s.cur
 have ho:=(Z HC).own _ hi2
 have np:=(Z HC).nps _ hi2
 have nt:=(Z HC).nbt _ hi2
 obtain ⟨a,cap,hV⟩:=bR ho
 have hbm:some w.heap.size≠(V s.cur).ownBlock:=fun e=>by have:=(Z HL _ e.symm).2;omega
 rw [hV] at hc ho np nt hbm
 have HO:=O ho;clear ho
 have HV:=O hV;clear hV HL HH
 have NP:=O np
 have NT:=O nt
 have NM:=O hbm
 clear np nt hbm
 obtain ⟨n,hn⟩:∃ n,n=(s.tasks s.cur).length:=⟨_,rfl⟩
 obtain ⟨c,hcc⟩:∃ c,c=s.cur:=⟨_,rfl⟩
 rw [<- hn] at hi4 hd1 hd2 hd3 HO HV hc NP NT NM
 rw [<- hn]
 have HN:=O hn;clear hn
 rw [<- hcc] at hi2 hc1 hc hfz
 rw [<- hcc]
 have HCC:=O hcc;clear hcc
 have hj1:(0:Int)<=(c:Int):=by omega
 have hj2:(c:Int)<101:=by omega
 obtain ⟨i0,hi0,hz0,hz1,hz2⟩:=info_parts vZ
 have hw1:=bV hbx
 have hw2:=bV h0
 have hw3:=bV hc
 simp only at hw1 hw2 hw3
 have hb0:∀ o,Below w1.heap.size w1 (w1.alloc o).drew:=fun o=>((Below.refl _ _).alloc (Nat.le_refl _) o).drew
 have HB0:=O hb0;clear hb0
 have II:=O (And.intro hi0 (And.intro hz0 (And.intro hz1 hz2)));clear hi0 hz0 hz1 hz2
 go_wp2_with fail
 refine wp_region_held_drew (S:=fun w'=>w'.cell? ⟨ps,0,none⟩=some (.slice (some ⟨bt,0,none⟩) 101 101)/\w'.cell? ⟨ps,1,none⟩=some (.int .i64 c)/\w'.cell? ⟨w.heap.size,2,none⟩=some (.int .i64 fn)) (by kernel_rfl) ⟨h0,hc1,hbx⟩ (fun hHeld=>?_)
 refine tka 0 31 (by assumption) ?_
 refine tka 1 32 (by assumption) ?_
 refine tka 2 33 (by assumption) ?_
 refine tka 3 34 (by assumption) ?_
 refine tka 4 35 (by assumption) ?_
 refine tka 5 36 (by assumption) ?_
 refine tka 6 37 (by assumption) ?_
 refine tka 7 38 (by assumption) ?_
 refine tka 8 39 (by assumption) ?_
 refine tka 9 40 (by assumption) ?_
 refine tka 10 41 (by assumption) ?_
 refine tka 11 42 (by assumption) ?_
 refine tka 12 43 (by assumption) ?_
 refine tka 13 44 (by assumption) ?_
 refine tka 14 45 (by assumption) ?_
 refine tka 15 46 (by assumption) ?_
 refine tka 16 47 (by assumption) ?_
 refine tka 18 49 (by assumption) ?_
 refine tka 19 50 (by assumption) ?_
 refine tka 20 51 (by assumption) ?_
 refine tka 21 52 (by assumption) ?_
 refine wpAnyH_ready (rs:=[17,22]) (by kernel_rfl) (by simp) ?_
 refine AllReadyH.cons rfl (fun K hK=>?_) (AllReadyH.cons rfl (fun K hK=>?_) AllReadyH.nil)
 ·go_simp
  refine hK.out _ _ hHeld (fun hHeld=>?_)
  clear hK K
  refine wpAnyH_ready (rs:=[22]) (by kernel_rfl) (by simp) ?_
  refine AllReadyH.cons rfl (fun K hK=>?_) AllReadyH.nil
  go_simp
  refine hK.out _ _ ⟨bG (Z HB0 _) h0,bG (Z HB0 _) hc1,bG (Z HB0 _) hbx⟩ (fun hHeld=>?_)
  clear hK K
  refine wpAnyH_ready (rs:=[23]) (by kernel_rfl) (by simp) ?_
  refine AllReadyH.cons rfl (fun K hK=>?_) AllReadyH.nil
  refine step_append_lies _ (by rfl) _ _ _ (by rfl) B 42 i0 _ 3 24 Tryz.underlying35 (Z II).1 (Z II).2.1 (Z II).2.2.1 (Z II).2.2.2 rfl (by omega) (.slice a n cap) n (cA (s.tasks s.cur).reverse) (by rfl) (((Z HO).alloc _).drew)
   ⟨w1.heap.size,0,none⟩ 1 1 [.int .i64 fn,.int .i64 0,.int .i64 i] (by rfl) (by rfl) (World.news_of_block (cs:=#[.int .i64 fn,.int .i64 0,.int .i64 i]) (t:=42) (fr:=(0,0)) (heap_alloc_new w1 _)) (by simp [Value.oneCell'])
   (by omega) (by unfold maxLen;omega) (by omega) (by simp;omega) (w1.heap.size+1) (by simp) ?_
  intro g cap' w2 hown1 hgrow hat hlt
  have hx:w2.cell? ⟨bt,c,none⟩=some (.slice a n cap):=by
   rw [hgrow.cell_far _ (by simp;omega) (Ne.symm (Z NT))];exact bG (Z HB0 _) hc
  have hx2:w2.frozen? ⟨bt,c,none⟩=false:=by
   rw [hgrow.frozen_far _ (by simp;omega) (Ne.symm (Z NT)),(Z HB0 _).frozen hw3];exact hfz
  have hx3:w2.cell? ⟨ps,0,none⟩=some (.slice (some ⟨bt,0,none⟩) 101 101):=by
   rw [hgrow.cell_far _ (by simp;omega) (Ne.symm (Z NP))];exact hHeld.1
  have hx4:w2.cell? ⟨ps,1,none⟩=some (.int .i64 c):=by
   rw [hgrow.cell_far _ (by simp;omega) (Ne.symm (Z NP))];exact hHeld.2.1
  have hx5:w2.cell? ⟨w.heap.size,2,none⟩=some (.int .i64 fn):=by
   rw [hgrow.cell_far _ (by simp;omega) (Z NM)];exact hHeld.2.2
  have HG:=O hgrow
  have HW:=O hown1
  have HA:=O hat
  refine hK.out _ _ ⟨hx3,hx4,hx5⟩ (fun hHeld=>?_)
  clear hK K hown1 hgrow hat
  simp only [Act.put,sy]
  refine tka 24 55 (by assumption) ?_
  refine wpAnyH_ready (rs:=[25]) (by kernel_rfl) (by simp) ?_
  refine AllReadyH.cons rfl (fun K hK=>?_) AllReadyH.nil
  go_simp
  refine hK.out _ _ ⟨bJ (Z NE).1 hx3,bJ (Z NE).1 hx4,bJ (Z NE).2 hx5⟩ (fun hHeld=>?_)
  clear hK K
  refine wpAnyH_done (by kernel_rfl) ?_ _
  go_wp2
  go_ret
  refine ⟨by rw [(Z E3).1];rfl,fun _=>?_,?_,?_⟩
  ·rw [(Z E3).2]
   have e:=Z HCC
   subst e
   refine ⟨bt,_,dV.putRow (l:=⟨fn,0,i⟩ :: s.tasks s.cur) (g:=g) ((Z HC).grown (Z HB0 _)) (by rw [Z HV];exact Z HG) ?_ rfl ?_ (by simp only [List.length_cons];rw [<- Z HN];omega)⟩
   ·rw [List.length_cons,<- Z HN,List.reverse_cons,gQ]
    exact Z HW
   rw [Z HV]
   rcases Z HA with h | h
   ·exact .inl h
   right;simp;omega
  ·refine Below.setCell ?_ hbt _
   refine Below.grown ((((Z HB1).mono hB).alloc (by omega) _).drew) (Z HG) (by simp;omega) (fun k hk=>((Z HO).lt k hk).1)
  refine gD.of_out (fun b=>b=bt∨(V s.cur).ownBlock=some b) (fun b hb hx=>?_) (fun b hx=>?_)
  ·rw [Below.heap_setCell _ _ _ _ (fun e=>hx (.inl e)),(Z HG).block b (by have:=(Z HB1).size;simp;omega) (fun e=>hx (.inr (by rw [Z HV];exact e.symm)))]
   exact (((Z HB1).alloc (Z HB1).size _).drew).block b hb
  rcases hx with rfl | hx
  ·exact .inr (.inr (Z KT).1)
  exact .inr (.inl ((Z KT).2 s.cur (Z HC).cur b hx))
 go_simp
 refine hK.out _ _ ⟨bG (Z HB0 _) h0,bG (Z HB0 _) hc1,bG (Z HB0 _) hbx⟩ (fun hHeld=>?_)
 clear hK K
 have hcc2:=bG (Z HB0 (.cells #[.int .i64 fn,.int .i64 0,.int .i64 i] 42)) hc
 refine wpAnyH_ready (rs:=[17]) (by kernel_rfl) (by simp) ?_
 refine AllReadyH.cons rfl (fun K hK=>?_) AllReadyH.nil
 go_simp
 refine hK.out _ _ hHeld (fun hHeld=>?_)
 clear hK K hcc2
 refine wpAnyH_ready (rs:=[23]) (by kernel_rfl) (by simp) ?_
 refine AllReadyH.cons rfl (fun K hK=>?_) AllReadyH.nil
 refine step_append_lies _ (by rfl) _ _ _ (by rfl) B 42 i0 _ 3 24 Tryz.underlying35 (Z II).1 (Z II).2.1 (Z II).2.2.1 (Z II).2.2.2 rfl (by omega) (.slice a n cap) n (cA (s.tasks s.cur).reverse) (by rfl) (((Z HO).alloc _).drew)
  ⟨w1.heap.size,0,none⟩ 1 1 [.int .i64 fn,.int .i64 0,.int .i64 i] (by rfl) (by rfl) (World.news_of_block (cs:=#[.int .i64 fn,.int .i64 0,.int .i64 i]) (t:=42) (fr:=(0,0)) (heap_alloc_new w1 _)) (by simp [Value.oneCell'])
  (by omega) (by unfold maxLen;omega) (by omega) (by simp;omega) (w1.heap.size+1) (by simp) ?_
 intro g cap' w2 hown1 hgrow hat hlt
 have hx:w2.cell? ⟨bt,c,none⟩=some (.slice a n cap):=by
  rw [hgrow.cell_far _ (by simp;omega) (Ne.symm (Z NT))];exact bG (Z HB0 _) hc
 have hx2:w2.frozen? ⟨bt,c,none⟩=false:=by
  rw [hgrow.frozen_far _ (by simp;omega) (Ne.symm (Z NT)),(Z HB0 _).frozen hw3];exact hfz
 have hx3:w2.cell? ⟨ps,0,none⟩=some (.slice (some ⟨bt,0,none⟩) 101 101):=by
  rw [hgrow.cell_far _ (by simp;omega) (Ne.symm (Z NP))];exact hHeld.1
 have hx4:w2.cell? ⟨ps,1,none⟩=some (.int .i64 c):=by
  rw [hgrow.cell_far _ (by simp;omega) (Ne.symm (Z NP))];exact hHeld.2.1
 have hx5:w2.cell? ⟨w.heap.size,2,none⟩=some (.int .i64 fn):=by
  rw [hgrow.cell_far _ (by simp;omega) (Z NM)];exact hHeld.2.2
 have HG:=O hgrow
 have HW:=O hown1
 have HA:=O hat
 refine hK.out _ _ ⟨hx3,hx4,hx5⟩ (fun hHeld=>?_)
 clear hK K hown1 hgrow hat
 simp only [Act.put,sy]
 refine tka 24 55 (by assumption) ?_
 refine wpAnyH_ready (rs:=[25]) (by kernel_rfl) (by simp) ?_
 refine AllReadyH.cons rfl (fun K hK=>?_) AllReadyH.nil
 go_simp
 refine hK.out _ _ ⟨bJ (Z NE).1 hx3,bJ (Z NE).1 hx4,bJ (Z NE).2 hx5⟩ (fun hHeld=>?_)
 clear hK K
 refine wpAnyH_done (by kernel_rfl) ?_ _
 go_wp2
 go_ret
 refine ⟨by rw [(Z E3).1];rfl,fun _=>?_,?_,?_⟩
 ·rw [(Z E3).2]
  have e:=Z HCC
  subst e
  refine ⟨bt,_,dV.putRow (l:=⟨fn,0,i⟩ :: s.tasks s.cur) (g:=g) ((Z HC).grown (Z HB0 _)) (by rw [Z HV];exact Z HG) ?_ rfl ?_ (by simp only [List.length_cons];rw [<- Z HN];omega)⟩
  ·rw [List.length_cons,<- Z HN,List.reverse_cons,gQ]
   exact Z HW
  rw [Z HV]
  rcases Z HA with h | h
  ·exact .inl h
  right;simp;omega
 ·refine Below.setCell ?_ hbt _
  refine Below.grown ((((Z HB1).mono hB).alloc (by omega) _).drew) (Z HG) (by simp;omega) (fun k hk=>((Z HO).lt k hk).1)
 refine gD.of_out (fun b=>b=bt∨(V s.cur).ownBlock=some b) (fun b hb hx=>?_) (fun b hx=>?_)
 ·rw [Below.heap_setCell _ _ _ _ (fun e=>hx (.inl e)),(Z HG).block b (by have:=(Z HB1).size;simp;omega) (fun e=>hx (.inr (by rw [Z HV];exact e.symm)))]
  exact (((Z HB1).alloc (Z HB1).size _).drew).block b hb
 rcases hx with rfl | hx
 ·exact .inr (.inr (Z KT).1)
 exact .inr (.inl ((Z KT).2 s.cur (Z HC).cur b hx))
end
theorem move_fn (B ps:Nat) (s:St) (k t fn l i:Int) (tx:ByteArray) (v:Value) (w:World) (h:cG B w ps s) (ht:t=s.cur) (hk7:(k == 7)=false) (hk2:(k == 2)=false) (hf:(fn != topFn (s.tasks s.cur))=true) :
  Calls Tryz.prog 57 #[.pointer (some ⟨ps,0,none⟩),.agg #[.int .i64 k,.int .i64 t,.int .i64 fn,.int .i64 l,.string tx,v],.int .i64 i] w (tC B w ps s k t fn l i):=by
 subst ht
 have H:=O h
 have hB:=h.base
 obtain ⟨bt,V,hh⟩:=h
 have HH:=O hh
 have hp:=hh.hp
 have h0:=hh.c0
 have hc1:=hh.c1
 have hi2:=hh.cur
 have hi4:=hh.len _ hi2
 have HL:=O ((hh.own _ hi2).lt)
 have NE:Hid (bt≠ps/\bt≠w.heap.size):=⟨Ne.symm hh.ne,by have:=hh.row.lt;omega⟩
 have hbt:=hh.hbt
 clear hh
 have hz:=bV h0
 simp only at hz
 have n7:k≠7:=by simpa using hk7
 have n2:k≠2:=by simpa using hk2
 have E3:Hid (code s k (s.cur:Int) fn=4):=by
  have:fn≠topFn (s.tasks s.cur):=by simpa using hf
  exact O (by simp [code,n7,n2,this])
 clear n7 n2
 have hne:ps≠w.heap.size:=by omega
 go_enter Tryz.func57,Tryz.ntmps57
 go_wp2
 go_quiet (fail)
 go_wp2_with fail
 refine (fZ B ps s _ ((Z H).below (by exact below_drewN ((Below.refl _ _).alloc (Nat.le_refl _) _) _))).mono ?_
 rintro e w1 ⟨rfl,q,hq⟩
 have hbx0:w1.cell? ⟨w.heap.size,0,none⟩=some (.int .i64 k):=by rw [hq];simp
 have hbx2:w1.cell? ⟨w.heap.size,2,none⟩=some (.int .i64 fn):=by rw [hq];simp
 have hbx3:w1.cell? ⟨w.heap.size,3,none⟩=some (.int .i64 l):=by rw [hq];simp
 have HB1:Hid (Below w.heap.size w w1):=by rw [hq];exact O (below_drewN (below_drewN ((Below.refl _ _).alloc (Nat.le_refl _) _) _) _)
 clear hq h0 hc1
 have HF:Hid (∀ m,Calls Tryz.prog 84 #[.pointer (some ⟨ps,0,none⟩)] (w1.drewN m) fun e w'=>e=.returned (.int .i64 (topFn (s.tasks s.cur)))/\∃ q',w'=(w1.drewN m).drewN q') :=
  O fun m=>rL B ps s _ (((Z H).below (Z HB1)).below (bP w1 m))
 have HC:=O ((Z HH).grown (Z HB1))
 have h0:=(Z HC).c0
 have hc1:=(Z HC).c1
 have hw1:=bV hbx2
 simp only at hw1
 go_wp2_with fail
 go_quiet ((go_at_call 84;exact Calls.quiet_of (Z HF _)))
 go_wp2
 go_ret
 refine ⟨by rw [Z E3];rfl,fun h=>?_,?_,?_⟩
 ·rw [Z E3] at h;cases h
 ·exact below_drewN ((Z HB1).mono hB) _
 exact gD.of_below (below_drewN (Z HB1) _)
theorem move_none (B ps:Nat) (s:St) (k t fn l i:Int) (tx:ByteArray) (v:Value) (w:World) (h:cG B w ps s) (ht:t=s.cur) (hk7:(k == 7)=false) (hk2:(k == 2)=false) (hf:(fn != topFn (s.tasks s.cur))=false) (hk1:(k == 1)=false) (hk3:(k == 3)=false) :
  Calls Tryz.prog 57 #[.pointer (some ⟨ps,0,none⟩),.agg #[.int .i64 k,.int .i64 t,.int .i64 fn,.int .i64 l,.string tx,v],.int .i64 i] w (tC B w ps s k t fn l i):=by
 subst ht
 have H:=O h
 have hB:=h.base
 obtain ⟨bt,V,hh⟩:=h
 have HH:=O hh
 have hp:=hh.hp
 have h0:=hh.c0
 have hc1:=hh.c1
 have hi2:=hh.cur
 have hi4:=hh.len _ hi2
 have HL:=O ((hh.own _ hi2).lt)
 have NE:Hid (bt≠ps/\bt≠w.heap.size):=⟨Ne.symm hh.ne,by have:=hh.row.lt;omega⟩
 have hbt:=hh.hbt
 clear hh
 have hz:=bV h0
 simp only at hz
 have n7:k≠7:=by simpa using hk7
 have n2:k≠2:=by simpa using hk2
 have E3:Hid (code s k (s.cur:Int) fn=0/\s.step k (s.cur:Int) fn l i=s):=by
  have n1:k≠1:=by simpa using hk1
  have n3:k≠3:=by simpa using hk3
  have:fn=topFn (s.tasks s.cur):=by simpa using hf
  refine O ⟨?_,?_⟩
  ·simp [code,n7,n2,n1,n3,this]
  simp [St.step,n7,n2,n1,n3]
 clear n7 n2
 have hne:ps≠w.heap.size:=by omega
 go_enter Tryz.func57,Tryz.ntmps57
 go_wp2
 go_quiet (fail)
 go_wp2_with fail
 refine (fZ B ps s _ ((Z H).below (by exact below_drewN ((Below.refl _ _).alloc (Nat.le_refl _) _) _))).mono ?_
 rintro e w1 ⟨rfl,q,hq⟩
 have hbx0:w1.cell? ⟨w.heap.size,0,none⟩=some (.int .i64 k):=by rw [hq];simp
 have hbx2:w1.cell? ⟨w.heap.size,2,none⟩=some (.int .i64 fn):=by rw [hq];simp
 have hbx3:w1.cell? ⟨w.heap.size,3,none⟩=some (.int .i64 l):=by rw [hq];simp
 have HB1:Hid (Below w.heap.size w w1):=by rw [hq];exact O (below_drewN (below_drewN ((Below.refl _ _).alloc (Nat.le_refl _) _) _) _)
 clear hq h0 hc1
 have HF:Hid (∀ m,Calls Tryz.prog 84 #[.pointer (some ⟨ps,0,none⟩)] (w1.drewN m) fun e w'=>e=.returned (.int .i64 (topFn (s.tasks s.cur)))/\∃ q',w'=(w1.drewN m).drewN q') :=
  O fun m=>rL B ps s _ (((Z H).below (Z HB1)).below (bP w1 m))
 have HC:=O ((Z HH).grown (Z HB1))
 have h0:=(Z HC).c0
 have hc1:=(Z HC).c1
 have hw1:=bV hbx2
 simp only at hw1
 go_wp2_with fail
 go_quiet ((go_at_call 84;exact Calls.quiet_of (Z HF _)))
 go_wp2
 go_ret
 refine ⟨by rw [(Z E3).1];rfl,fun _=>?_,?_,?_⟩
 ·rw [(Z E3).2]
  exact ⟨bt,V,(Z HC).grown (bP _ _)⟩
 ·exact below_drewN ((Z HB1).mono hB) _
 exact gD.of_below (below_drewN (Z HB1) _)
theorem move_line0 (B ps:Nat) (s:St) (k t fn l i:Int) (tx:ByteArray) (v:Value) (w:World) (h:cG B w ps s) (ht:t=s.cur) (hk7:(k == 7)=false) (hk2:(k == 2)=false) (hf:(fn != topFn (s.tasks s.cur))=false) (hk1:(k == 1)=true) (hl:s.tasks s.cur=[]) :
  Calls Tryz.prog 57 #[.pointer (some ⟨ps,0,none⟩),.agg #[.int .i64 k,.int .i64 t,.int .i64 fn,.int .i64 l,.string tx,v],.int .i64 i] w (tC B w ps s k t fn l i):=by
 subst ht
 have H:=O h
 have hB:=h.base
 obtain ⟨bt,V,hh⟩:=h
 have HH:=O hh
 have hp:=hh.hp
 have h0:=hh.c0
 have hc1:=hh.c1
 have hi2:=hh.cur
 have hi4:=hh.len _ hi2
 have HL:=O ((hh.own _ hi2).lt)
 have NE:Hid (bt≠ps/\bt≠w.heap.size):=⟨Ne.symm hh.ne,by have:=hh.row.lt;omega⟩
 have hbt:=hh.hbt
 clear hh
 have hz:=bV h0
 simp only at hz
 have n7:k≠7:=by simpa using hk7
 have n2:k≠2:=by simpa using hk2
 have E3:Hid (code s k (s.cur:Int) fn=4):=by
  have n1:k=1:=by simpa using hk1
  have:fn=topFn (s.tasks s.cur):=by simpa using hf
  refine O ?_
  simp [code,n1,this,hl]
 have E4:Hid ((s.tasks s.cur).length=0):=by rw [hl];exact O rfl
 clear hl
 clear n7 n2
 have hne:ps≠w.heap.size:=by omega
 go_enter Tryz.func57,Tryz.ntmps57
 go_wp2
 go_quiet (fail)
 go_wp2_with fail
 refine (fZ B ps s _ ((Z H).below (by exact below_drewN ((Below.refl _ _).alloc (Nat.le_refl _) _) _))).mono ?_
 rintro e w1 ⟨rfl,q,hq⟩
 have hbx0:w1.cell? ⟨w.heap.size,0,none⟩=some (.int .i64 k):=by rw [hq];simp
 have hbx2:w1.cell? ⟨w.heap.size,2,none⟩=some (.int .i64 fn):=by rw [hq];simp
 have hbx3:w1.cell? ⟨w.heap.size,3,none⟩=some (.int .i64 l):=by rw [hq];simp
 have HB1:Hid (Below w.heap.size w w1):=by rw [hq];exact O (below_drewN (below_drewN ((Below.refl _ _).alloc (Nat.le_refl _) _) _) _)
 clear hq h0 hc1
 have HF:Hid (∀ m,Calls Tryz.prog 84 #[.pointer (some ⟨ps,0,none⟩)] (w1.drewN m) fun e w'=>e=.returned (.int .i64 (topFn (s.tasks s.cur)))/\∃ q',w'=(w1.drewN m).drewN q') :=
  O fun m=>rL B ps s _ (((Z H).below (Z HB1)).below (bP w1 m))
 have HC:=O ((Z HH).grown (Z HB1))
 have h0:=(Z HC).c0
 have hc1:=(Z HC).c1
 have hw1:=bV hbx2
 simp only at hw1
 go_wp2_with fail
 go_quiet ((go_at_call 84;exact Calls.quiet_of (Z HF _)))
 rw [Z E4]
 go_wp2
 go_ret
 refine ⟨by rw [Z E3];rfl,fun h=>?_,?_,?_⟩
 ·rw [Z E3] at h;cases h
 ·exact below_drewN ((Z HB1).mono hB) _
 exact gD.of_below (below_drewN (Z HB1) _)
section
attribute [local go_sem ↓] Go.wp_at_zero Go.wp_at_succ
theorem gZ {w:World} {p q:Addr} {v u:Value} (hne:q.block≠p.block) (h:w.cell? p=some v):(w.setCell q u).drew.cell? p=some v:=bJ hne h
theorem kH {w:World} {B:Nat} {e:TypeId} {z g n cap:Nat} {xs:List Value} (h:w.ownsRow B e z (.slice (some ⟨g,0,none⟩) n cap) n xs) (j:Nat) (u:Value) :
  (w.setCell ⟨g,j,none⟩ u).ownsRow B e z (.slice (some ⟨g,0,none⟩) n cap) n (xs.set j u):=by
 refine ⟨by rw [List.length_set];exact h.1,?_⟩
 rcases h.2 with ⟨h,_⟩ | ⟨g',cap',cur,hv,hB,hg,h1,h2,h3,h4⟩
 ·cases h
 cases hv
 refine .inr ⟨g,cap,cur.setIfInBounds j u,rfl,hB,?_,h1,h2,by simpa using h3,?_⟩
 ·simp [World.setCell,Array.getElem?_modify,hg]
 rw [<- h4,Array.toList_setIfInBounds,List.take_set]
theorem dV.putLine {B:Nat} {w:World} {ps bt:Nat} {V:Nat->Value} {s:St} {f:Fr} {r:List Fr} {g cap:Nat} (h:dV B w ps bt V s) (hs:s.tasks s.cur=f :: r) (hV:V s.cur=.slice (some ⟨g,0,none⟩) (r.length+1) cap) (l:Int) :
  dV B (w.setCell ⟨g,r.length*3+1,none⟩ (.int .i64 l)) ps bt V (s.put (⟨f.fn,l,f.frm⟩ :: r)):=by
 have hob:(V s.cur).ownBlock=some g:=by rw [hV];rfl
 have hgp:g≠ps:=fun e=>h.nps _ h.cur (by rw [hob,e])
 have hgt:g≠bt:=fun e=>h.nbt _ h.cur (by rw [hob,e])
 refine ⟨h.hp,h.hbt,h.ne,bJ hgp h.c0,bJ hgp h.c1,by rw [World.frozen?_setCell];exact h.fz,h.row.setOther (fun e=>hgt e.symm) _,fun t ht=>?_,h.nps,h.nbt,h.dis,h.cur,fun t ht=>?_⟩
 ·show (w.setCell _ _).ownsRow B _ 3 (V t) (if t=s.cur then ⟨f.fn,l,f.frm⟩ :: r else s.tasks t).length (cA (if t=s.cur then ⟨f.fn,l,f.frm⟩ :: r else s.tasks t).reverse)
  by_cases e:t=s.cur
  ·rw [if_pos e,e,hV]
   have ho:=h.own s.cur h.cur
   rw [hV,hs] at ho
   have h1:=kH ho (r.length*3+1) (.int .i64 l)
   have e1:cA (f :: r).reverse=cA r.reverse ++ [.int .i64 f.fn,.int .i64 f.line,.int .i64 f.frm]:=by rw [List.reverse_cons,gQ];rfl
   have e2:cA ((⟨f.fn,l,f.frm⟩:Fr) :: r).reverse=cA r.reverse ++ [.int .i64 f.fn,.int .i64 l,.int .i64 f.frm]:=by rw [List.reverse_cons,gQ];rfl
   have hl:(cA r.reverse).length=r.length*3:=by rw [tG,List.length_reverse]
   rw [e1,List.set_append_right _ _ (by omega),hl,show r.length*3+1 - r.length*3=1 by omega] at h1
   rw [e2]
   exact h1
  rw [if_neg e]
  refine cM (h.own t ht) (fun e'=>?_)
  rcases h.dis t s.cur ht h.cur e with h3 | h3
  ·rw [h3] at e';cases e'
  exact h3 (by rw [e',hob])
 show (if t=s.cur then ⟨f.fn,l,f.frm⟩ :: r else s.tasks t).length<=200
 by_cases e:t=s.cur
 ·rw [if_pos e]
  have:=h.len s.cur h.cur
  rw [hs] at this
  exact this
 rw [if_neg e];exact h.len t ht
theorem move_line1 (B ps:Nat) (s:St) (k t fn l i:Int) (tx:ByteArray) (v:Value) (w:World) (h:cG B w ps s) (ht:t=s.cur) (hk7:(k == 7)=false) (hk2:(k == 2)=false) (f:Fr) (r:List Fr) (hf:(fn != topFn (s.tasks s.cur))=false) (hk1:(k == 1)=true) (hs:s.tasks s.cur=f :: r) :
  Calls Tryz.prog 57 #[.pointer (some ⟨ps,0,none⟩),.agg #[.int .i64 k,.int .i64 t,.int .i64 fn,.int .i64 l,.string tx,v],.int .i64 i] w (tC B w ps s k t fn l i):=by
 subst ht
 have H:=O h
 have hB:=h.base
 obtain ⟨bt,V,hh⟩:=h
 have KT:=O hh.kinds
 have HH:=O hh
 have hp:=hh.hp
 have h0:=hh.c0
 have hc1:=hh.c1
 have hi2:=hh.cur
 have hi4:=hh.len _ hi2
 have HL:=O ((hh.own _ hi2).lt)
 have NE:Hid (bt≠ps/\bt≠w.heap.size):=⟨Ne.symm hh.ne,by have:=hh.row.lt;omega⟩
 have hbt:=hh.hbt
 clear hh
 have hz:=bV h0
 simp only at hz
 have n7:k≠7:=by simpa using hk7
 have n2:k≠2:=by simpa using hk2
 have E3:Hid (code s k (s.cur:Int) fn=0/\s.step k (s.cur:Int) fn l i=s.put (⟨f.fn,l,f.frm⟩ :: r)):=by
  have n1:k=1:=by simpa using hk1
  have:fn=topFn (s.tasks s.cur):=by simpa using hf
  refine O ⟨?_,?_⟩
  ·simp [code,n1,this,hs]
  simp [St.step,n1,hs,qG]
 clear n7 n2
 have hne:ps≠w.heap.size:=by omega
 go_enter Tryz.func57,Tryz.ntmps57
 go_wp2
 go_quiet (fail)
 go_wp2_with fail
 refine (fZ B ps s _ ((Z H).below (by exact below_drewN ((Below.refl _ _).alloc (Nat.le_refl _) _) _))).mono ?_
 rintro e w1 ⟨rfl,q,hq⟩
 have hbx0:w1.cell? ⟨w.heap.size,0,none⟩=some (.int .i64 k):=by rw [hq];simp
 have hbx2:w1.cell? ⟨w.heap.size,2,none⟩=some (.int .i64 fn):=by rw [hq];simp
 have hbx3:w1.cell? ⟨w.heap.size,3,none⟩=some (.int .i64 l):=by rw [hq];simp
 have HB1:Hid (Below w.heap.size w w1):=by rw [hq];exact O (below_drewN (below_drewN ((Below.refl _ _).alloc (Nat.le_refl _) _) _) _)
 clear hq h0 hc1
 have HF:Hid (∀ m,Calls Tryz.prog 84 #[.pointer (some ⟨ps,0,none⟩)] (w1.drewN m) fun e w'=>e=.returned (.int .i64 (topFn (s.tasks s.cur)))/\∃ q',w'=(w1.drewN m).drewN q') :=
  O fun m=>rL B ps s _ (((Z H).below (Z HB1)).below (bP w1 m))
 have HC:=O ((Z HH).grown (Z HB1))
 have h0:=(Z HC).c0
 have hc1:=(Z HC).c1
 have ho:=(Z HC).own _ hi2
 rw [hs] at ho
 obtain ⟨g,cap,hV,hgB,hgl,k0,k1,k2,kf⟩:=pV ho
 have HCA:=O ho
 have hgp:g≠ps:=fun e=>(Z HC).nps _ hi2 (by rw [hV,e];rfl)
 have hgt:g≠bt:=fun e=>(Z HC).nbt _ hi2 (by rw [hV,e];rfl)
 have hgm:g≠w.heap.size:=fun e=>by have:=(Z HL g (by rw [hV];rfl)).2;omega
 have hc:=(Z HC).row.cell hi2
 have hrf:=(Z HC).row.frozen s.cur
 rw [hV] at hc
 have hlen:(((s.tasks s.cur).length:Nat):Int) - 1=(r.length:Int):=by rw [hs];simp
 have hr200:r.length<200:=by rw [hs] at hi4;simp at hi4;omega
 have hw1:=bV hbx2
 simp only at hw1
 rw [hlen]
 have HLEN:=O hlen;clear hlen
 have HV:=O hV;clear hV
 have HS:=O hs;clear hs ho
 have NG:=O (And.intro hgp (And.intro hgt hgm));clear hgp hgt hgm
 obtain ⟨n,hn⟩:∃ n,n=r.length:=⟨_,rfl⟩
 obtain ⟨c,hcc⟩:∃ c,c=s.cur:=⟨_,rfl⟩
 rw [<- hn] at k0 k1 k2 kf hc hr200
 rw [<- hn]
 rw [<- hcc] at hi2 hc1 hc hrf
 have HN:=O hn;clear hn
 have HCC:=O hcc;clear hcc
 clear hi4
 go_wp2_with fail
 go_quiet ((go_at_call 84;exact Calls.quiet_of (Z HF _)))
 generalize hw2:w1.drewN _=w2
 have HB2:Hid (Below w1.heap.size w1 w2):=by rw [<- hw2];exact O (bP _ _)
 have HC2:=O ((Z HC).grown (Z HB2))
 have h0:=bG (Z HB2) h0
 have hc1:=bG (Z HB2) hc1
 have hbx0:=bG (Z HB2) hbx0
 have hbx3:=bG (Z HB2) hbx3
 have hcOld:=hc
 have hc:=bG (Z HB2) hc
 have kf':w2.frozen? ⟨g,n*3+1,none⟩=false:=by rw [(Z HB2).frozen (bV k1)];exact kf
 have hrf':w2.frozen? ⟨bt,c,none⟩=false:=by rw [(Z HB2).frozen (bV hcOld)];exact hrf
 have k1:=bG (Z HB2) k1
 have k2:=bG (Z HB2) k2
 clear hw2 HF hrf kf
 have hj1:(0:Int)<=(c:Int):=by omega
 have hj2:(c:Int)<101:=by omega
 have hj3:(0:Int)<=(n:Int):=by omega
 have hj4:(n:Int)<(n:Int)+1:=by omega
 go_wp2_with fail
 go_region_held3 (fun w'=>w'.cell? ⟨ps,0,none⟩=some (.slice (some ⟨bt,0,none⟩) 101 101)/\w'.cell? ⟨ps,1,none⟩=some (.int .i64 c)/\w'.cell? ⟨bt,c,none⟩=some (.slice (some ⟨g,0,none⟩) (n+1) cap)/\w'.cell? ⟨w.heap.size,3,none⟩=some (.int .i64 l))
  (first | (exact ⟨h0,hc1,hc,hbx3⟩) | (exact ⟨gZ (Z NG).1 h0,gZ (Z NG).1 hc1,gZ (Z NG).2.1 hc,gZ (Z NG).2.2 hbx3⟩)) (fail)
 go_wp2
 go_ret
 refine ⟨by rw [(Z E3).1];rfl,fun _=>?_,?_,?_⟩
 ·rw [(Z E3).2]
  have e:=Z HN
  subst e
  exact ⟨bt,V,((Z HC2).putLine (Z HS) (Z HV) l).grown (Below.refl _ _).drew⟩
 ·exact ((((Z HB1).mono hB).trans ((Z HB2).mono (by omega))).setCell (p:=⟨g,n*3+1,none⟩) hgB _).drew
 refine gD.drew (gD.of_out (fun b=>b=g) (fun b hb hx=>?_) (fun b hx=>.inr (.inl ((Z KT).2 s.cur (Z HC2).cur b (by rw [Z HV,hx];rfl)))))
 rw [Below.heap_setCell _ _ _ _ hx]
 exact ((Z HB1).trans ((Z HB2).mono (Z HB1).size)).block b hb
theorem move_back0 (B ps:Nat) (s:St) (k t fn l i:Int) (tx:ByteArray) (v:Value) (w:World) (h:cG B w ps s) (ht:t=s.cur) (hk7:(k == 7)=false) (hk2:(k == 2)=false) (hf:(fn != topFn (s.tasks s.cur))=false) (hk3:(k == 3)=true) (hl:s.tasks s.cur=[]) :
  Calls Tryz.prog 57 #[.pointer (some ⟨ps,0,none⟩),.agg #[.int .i64 k,.int .i64 t,.int .i64 fn,.int .i64 l,.string tx,v],.int .i64 i] w (tC B w ps s k t fn l i):=by
 subst ht
 have H:=O h
 have hB:=h.base
 obtain ⟨bt,V,hh⟩:=h
 have HH:=O hh
 have hp:=hh.hp
 have h0:=hh.c0
 have hc1:=hh.c1
 have hi2:=hh.cur
 have hi4:=hh.len _ hi2
 have HL:=O ((hh.own _ hi2).lt)
 have NE:Hid (bt≠ps/\bt≠w.heap.size):=⟨Ne.symm hh.ne,by have:=hh.row.lt;omega⟩
 have hbt:=hh.hbt
 clear hh
 have hz:=bV h0
 simp only at hz
 have n7:k≠7:=by simpa using hk7
 have n2:k≠2:=by simpa using hk2
 have E3:Hid (code s k (s.cur:Int) fn=4):=by
  have n3:k=3:=by simpa using hk3
  have:fn=topFn (s.tasks s.cur):=by simpa using hf
  refine O ?_
  simp [code,n3,this,hl,gU]
 have E4:Hid ((s.tasks s.cur).length=0):=by rw [hl];exact O rfl
 clear hl
 have hk1:(k == 1)=false:=by have:k=3:=by simpa using hk3
                             rw [this];rfl
 clear n7 n2
 have hne:ps≠w.heap.size:=by omega
 go_enter Tryz.func57,Tryz.ntmps57
 go_wp2
 go_quiet (fail)
 go_wp2_with fail
 refine (fZ B ps s _ ((Z H).below (by exact below_drewN ((Below.refl _ _).alloc (Nat.le_refl _) _) _))).mono ?_
 rintro e w1 ⟨rfl,q,hq⟩
 have hbx0:w1.cell? ⟨w.heap.size,0,none⟩=some (.int .i64 k):=by rw [hq];simp
 have hbx2:w1.cell? ⟨w.heap.size,2,none⟩=some (.int .i64 fn):=by rw [hq];simp
 have hbx3:w1.cell? ⟨w.heap.size,3,none⟩=some (.int .i64 l):=by rw [hq];simp
 have HB1:Hid (Below w.heap.size w w1):=by rw [hq];exact O (below_drewN (below_drewN ((Below.refl _ _).alloc (Nat.le_refl _) _) _) _)
 clear hq h0 hc1
 have HF:Hid (∀ m,Calls Tryz.prog 84 #[.pointer (some ⟨ps,0,none⟩)] (w1.drewN m) fun e w'=>e=.returned (.int .i64 (topFn (s.tasks s.cur)))/\∃ q',w'=(w1.drewN m).drewN q') :=
  O fun m=>rL B ps s _ (((Z H).below (Z HB1)).below (bP w1 m))
 have HC:=O ((Z HH).grown (Z HB1))
 have h0:=(Z HC).c0
 have hc1:=(Z HC).c1
 have hw1:=bV hbx2
 simp only at hw1
 go_wp2_with fail
 go_quiet ((go_at_call 84;exact Calls.quiet_of (Z HF _)))
 rw [Z E4]
 go_wp2
 go_quiet (fail)
 go_wp2
 go_ret
 refine ⟨by rw [Z E3];rfl,fun h=>?_,?_,?_⟩
 ·rw [Z E3] at h;cases h
 ·exact below_drewN (below_drewN ((Z HB1).mono hB) _) _
 exact gD.of_below (below_drewN (below_drewN (Z HB1) _) _)
theorem move_back1 (B ps:Nat) (s:St) (k t fn l i:Int) (tx:ByteArray) (v:Value) (w:World) (h:cG B w ps s) (ht:t=s.cur) (hk7:(k == 7)=false) (hk2:(k == 2)=false) (f:Fr) (r:List Fr) (hf:(fn != topFn (s.tasks s.cur))=false) (hk3:(k == 3)=true) (hs:s.tasks s.cur=f :: r) (hfr:decide (f.frm<0)=true) :
  Calls Tryz.prog 57 #[.pointer (some ⟨ps,0,none⟩),.agg #[.int .i64 k,.int .i64 t,.int .i64 fn,.int .i64 l,.string tx,v],.int .i64 i] w (tC B w ps s k t fn l i):=by
 subst ht
 have H:=O h
 have hB:=h.base
 obtain ⟨bt,V,hh⟩:=h
 have HH:=O hh
 have hp:=hh.hp
 have h0:=hh.c0
 have hc1:=hh.c1
 have hi2:=hh.cur
 have hi4:=hh.len _ hi2
 have HL:=O ((hh.own _ hi2).lt)
 have NE:Hid (bt≠ps/\bt≠w.heap.size):=⟨Ne.symm hh.ne,by have:=hh.row.lt;omega⟩
 have hbt:=hh.hbt
 clear hh
 have hz:=bV h0
 simp only at hz
 have n7:k≠7:=by simpa using hk7
 have n2:k≠2:=by simpa using hk2
 have E3:Hid (code s k (s.cur:Int) fn=4):=by
  have n3:k=3:=by simpa using hk3
  have:fn=topFn (s.tasks s.cur):=by simpa using hf
  refine O ?_
  simp [code,n3,this,hs,gU]
  simpa using hfr
 have hk1:(k == 1)=false:=by have:k=3:=by simpa using hk3
                             rw [this];rfl
 clear n7 n2
 have hne:ps≠w.heap.size:=by omega
 go_enter Tryz.func57,Tryz.ntmps57
 go_wp2
 go_quiet (fail)
 go_wp2_with fail
 refine (fZ B ps s _ ((Z H).below (by exact below_drewN ((Below.refl _ _).alloc (Nat.le_refl _) _) _))).mono ?_
 rintro e w1 ⟨rfl,q,hq⟩
 have hbx0:w1.cell? ⟨w.heap.size,0,none⟩=some (.int .i64 k):=by rw [hq];simp
 have hbx2:w1.cell? ⟨w.heap.size,2,none⟩=some (.int .i64 fn):=by rw [hq];simp
 have hbx3:w1.cell? ⟨w.heap.size,3,none⟩=some (.int .i64 l):=by rw [hq];simp
 have HB1:Hid (Below w.heap.size w w1):=by rw [hq];exact O (below_drewN (below_drewN ((Below.refl _ _).alloc (Nat.le_refl _) _) _) _)
 clear hq h0 hc1
 have HF:Hid (∀ m,Calls Tryz.prog 84 #[.pointer (some ⟨ps,0,none⟩)] (w1.drewN m) fun e w'=>e=.returned (.int .i64 (topFn (s.tasks s.cur)))/\∃ q',w'=(w1.drewN m).drewN q') :=
  O fun m=>rL B ps s _ (((Z H).below (Z HB1)).below (bP w1 m))
 have HC:=O ((Z HH).grown (Z HB1))
 have h0:=(Z HC).c0
 have hc1:=(Z HC).c1
 have ho:=(Z HC).own _ hi2
 rw [hs] at ho
 obtain ⟨g,cap,hV,hgB,hgl,k0,k1,k2,kf⟩:=pV ho
 have HCA:=O ho
 have hgp:g≠ps:=fun e=>(Z HC).nps _ hi2 (by rw [hV,e];rfl)
 have hgt:g≠bt:=fun e=>(Z HC).nbt _ hi2 (by rw [hV,e];rfl)
 have hgm:g≠w.heap.size:=fun e=>by have:=(Z HL g (by rw [hV];rfl)).2;omega
 have hc:=(Z HC).row.cell hi2
 have hrf:=(Z HC).row.frozen s.cur
 rw [hV] at hc
 have hlen:(((s.tasks s.cur).length:Nat):Int) - 1=(r.length:Int):=by rw [hs];simp
 have hr200:r.length<200:=by rw [hs] at hi4;simp at hi4;omega
 have hw1:=bV hbx2
 simp only at hw1
 rw [hlen]
 have HLEN:=O hlen;clear hlen
 have HV:=O hV;clear hV
 have HS:=O hs;clear hs ho
 have NG:=O (And.intro hgp (And.intro hgt hgm));clear hgp hgt hgm
 obtain ⟨n,hn⟩:∃ n,n=r.length:=⟨_,rfl⟩
 obtain ⟨c,hcc⟩:∃ c,c=s.cur:=⟨_,rfl⟩
 rw [<- hn] at k0 k1 k2 kf hc hr200
 rw [<- hn]
 rw [<- hcc] at hi2 hc1 hc hrf
 have HN:=O hn;clear hn
 have HCC:=O hcc;clear hcc
 clear hi4
 go_wp2_with fail
 go_quiet ((go_at_call 84;exact Calls.quiet_of (Z HF _)))
 generalize hw2:w1.drewN _=w2
 have HB2:Hid (Below w1.heap.size w1 w2):=by rw [<- hw2];exact O (bP _ _)
 have HC2:=O ((Z HC).grown (Z HB2))
 have h0:=bG (Z HB2) h0
 have hc1:=bG (Z HB2) hc1
 have hbx0:=bG (Z HB2) hbx0
 have hbx3:=bG (Z HB2) hbx3
 have hcOld:=hc
 have hc:=bG (Z HB2) hc
 have kf':w2.frozen? ⟨g,n*3+1,none⟩=false:=by rw [(Z HB2).frozen (bV k1)];exact kf
 have hrf':w2.frozen? ⟨bt,c,none⟩=false:=by rw [(Z HB2).frozen (bV hcOld)];exact hrf
 have k1:=bG (Z HB2) k1
 have k2:=bG (Z HB2) k2
 clear hw2 HF hrf kf
 have hj1:(0:Int)<=(c:Int):=by omega
 have hj2:(c:Int)<101:=by omega
 have hj3:(0:Int)<=(n:Int):=by omega
 have hj4:(n:Int)<(n:Int)+1:=by omega
 have hg1:decide ((n:Int)<0)=false:=by simp
 go_wp2_with fail
 go_quiet (fail)
 go_wp2
 go_ret
 refine ⟨by rw [Z E3];rfl,fun h=>?_,?_,?_⟩
 ·rw [Z E3] at h;cases h
 ·exact below_drewN (((Z HB1).mono hB).trans ((Z HB2).mono (by omega))) _
 exact gD.of_below (below_drewN ((Z HB1).trans ((Z HB2).mono (Z HB1).size)) _)
end
section
attribute [local go_sem ↓] Go.wp_at_zero Go.wp_at_succ
theorem owns_pop {w:World} {B:Nat} {e:TypeId} {g cap:Nat} {f:Fr} {r:List Fr} (h:w.ownsRow B e 3 (.slice (some ⟨g,0,none⟩) (r.length+1) cap) (f :: r).length (cA (f :: r).reverse)) :
  w.ownsRow B e 3 (.slice (some ⟨g,0,none⟩) r.length cap) r.length (cA r.reverse)/\r.length+1<=cap:=by
 have hl:(cA r.reverse).length=r.length*3:=by rw [tG,List.length_reverse]
 have e1:cA (f :: r).reverse=cA r.reverse ++ [.int .i64 f.fn,.int .i64 f.line,.int .i64 f.frm]:=by rw [List.reverse_cons,gQ];rfl
 rcases h.2 with ⟨h,_⟩ | ⟨g',cap',cur,hv,-,-,h1,-⟩
 ·cases h
 cases hv
 have h':=h
 rw [e1] at h'
 exact ⟨ownsRow_pop hl h',by simpa using h1⟩
theorem move_back2 (B ps:Nat) (s:St) (k t fn l i:Int) (tx:ByteArray) (v:Value) (w:World) (h:cG B w ps s) (ht:t=s.cur) (hk7:(k == 7)=false) (hk2:(k == 2)=false) (f:Fr) (r:List Fr) (hf:(fn != topFn (s.tasks s.cur))=false) (hk3:(k == 3)=true) (hs:s.tasks s.cur=f :: r) (hfr:decide (f.frm<0)=false) :
  Calls Tryz.prog 57 #[.pointer (some ⟨ps,0,none⟩),.agg #[.int .i64 k,.int .i64 t,.int .i64 fn,.int .i64 l,.string tx,v],.int .i64 i] w (tC B w ps s k t fn l i):=by
 subst ht
 have H:=O h
 have hB:=h.base
 obtain ⟨bt,V,hh⟩:=h
 have KT:=O hh.kinds
 have HH:=O hh
 have hp:=hh.hp
 have h0:=hh.c0
 have hc1:=hh.c1
 have hi2:=hh.cur
 have hi4:=hh.len _ hi2
 have HL:=O ((hh.own _ hi2).lt)
 have NE:Hid (bt≠ps/\bt≠w.heap.size):=⟨Ne.symm hh.ne,by have:=hh.row.lt;omega⟩
 have hbt:=hh.hbt
 clear hh
 have hz:=bV h0
 simp only at hz
 have n7:k≠7:=by simpa using hk7
 have n2:k≠2:=by simpa using hk2
 have E3:Hid (code s k (s.cur:Int) fn=0/\s.step k (s.cur:Int) fn l i=s.put r):=by
  have n3:k=3:=by simpa using hk3
  have:fn=topFn (s.tasks s.cur):=by simpa using hf
  refine O ⟨?_,?_⟩
  ·simp [code,n3,this,hs,gU]
   simpa using hfr
  simp [St.step,n3,hs]
 have hk1:(k == 1)=false:=by have:k=3:=by simpa using hk3
                             rw [this];rfl
 clear n7 n2
 have hne:ps≠w.heap.size:=by omega
 go_enter Tryz.func57,Tryz.ntmps57
 go_wp2
 go_quiet (fail)
 go_wp2_with fail
 refine (fZ B ps s _ ((Z H).below (by exact below_drewN ((Below.refl _ _).alloc (Nat.le_refl _) _) _))).mono ?_
 rintro e w1 ⟨rfl,q,hq⟩
 have hbx0:w1.cell? ⟨w.heap.size,0,none⟩=some (.int .i64 k):=by rw [hq];simp
 have hbx2:w1.cell? ⟨w.heap.size,2,none⟩=some (.int .i64 fn):=by rw [hq];simp
 have hbx3:w1.cell? ⟨w.heap.size,3,none⟩=some (.int .i64 l):=by rw [hq];simp
 have HB1:Hid (Below w.heap.size w w1):=by rw [hq];exact O (below_drewN (below_drewN ((Below.refl _ _).alloc (Nat.le_refl _) _) _) _)
 clear hq h0 hc1
 have HF:Hid (∀ m,Calls Tryz.prog 84 #[.pointer (some ⟨ps,0,none⟩)] (w1.drewN m) fun e w'=>e=.returned (.int .i64 (topFn (s.tasks s.cur)))/\∃ q',w'=(w1.drewN m).drewN q') :=
  O fun m=>rL B ps s _ (((Z H).below (Z HB1)).below (bP w1 m))
 have HC:=O ((Z HH).grown (Z HB1))
 have h0:=(Z HC).c0
 have hc1:=(Z HC).c1
 have ho:=(Z HC).own _ hi2
 rw [hs] at ho
 obtain ⟨g,cap,hV,hgB,hgl,k0,k1,k2,kf⟩:=pV ho
 have HCA:=O ho
 have hgp:g≠ps:=fun e=>(Z HC).nps _ hi2 (by rw [hV,e];rfl)
 have hgt:g≠bt:=fun e=>(Z HC).nbt _ hi2 (by rw [hV,e];rfl)
 have hgm:g≠w.heap.size:=fun e=>by have:=(Z HL g (by rw [hV];rfl)).2;omega
 have hc:=(Z HC).row.cell hi2
 have hrf:=(Z HC).row.frozen s.cur
 rw [hV] at hc
 have hlen:(((s.tasks s.cur).length:Nat):Int) - 1=(r.length:Int):=by rw [hs];simp
 have hr200:r.length<200:=by rw [hs] at hi4;simp at hi4;omega
 have hw1:=bV hbx2
 simp only at hw1
 rw [hlen]
 have HLEN:=O hlen;clear hlen
 have HV:=O hV;clear hV
 have HS:=O hs;clear hs ho
 have NG:=O (And.intro hgp (And.intro hgt hgm));clear hgp hgt hgm
 obtain ⟨n,hn⟩:∃ n,n=r.length:=⟨_,rfl⟩
 obtain ⟨c,hcc⟩:∃ c,c=s.cur:=⟨_,rfl⟩
 rw [<- hn] at k0 k1 k2 kf hc hr200
 rw [<- hn]
 rw [<- hcc] at hi2 hc1 hc hrf
 have HN:=O hn;clear hn
 have HCC:=O hcc;clear hcc
 clear hi4
 go_wp2_with fail
 go_quiet ((go_at_call 84;exact Calls.quiet_of (Z HF _)))
 generalize hw2:w1.drewN _=w2
 have HB2:Hid (Below w1.heap.size w1 w2):=by rw [<- hw2];exact O (bP _ _)
 have HC2:=O ((Z HC).grown (Z HB2))
 have h0:=bG (Z HB2) h0
 have hc1:=bG (Z HB2) hc1
 have hbx0:=bG (Z HB2) hbx0
 have hbx3:=bG (Z HB2) hbx3
 have hcOld:=hc
 have hc:=bG (Z HB2) hc
 have kf':w2.frozen? ⟨g,n*3+1,none⟩=false:=by rw [(Z HB2).frozen (bV k1)];exact kf
 have hrf':w2.frozen? ⟨bt,c,none⟩=false:=by rw [(Z HB2).frozen (bV hcOld)];exact hrf
 have k1:=bG (Z HB2) k1
 have k2:=bG (Z HB2) k2
 clear hw2 HF hrf kf
 have hj1:(0:Int)<=(c:Int):=by omega
 have hj2:(c:Int)<101:=by omega
 have hj3:(0:Int)<=(n:Int):=by omega
 have hj4:(n:Int)<(n:Int)+1:=by omega
 have hg1:decide ((n:Int)<0)=false:=by simp
 have HPOP:Hid (w2.ownsRow B 42 3 (.slice (some ⟨g,0,none⟩) n cap) n (cA r.reverse)/\n+1<=cap):=by
  have h1:=(Z HC2).own s.cur (Z HC2).cur
  rw [Z HV,Z HS] at h1
  have e:=Z HN
  subst e
  exact O (owns_pop h1)
 have hj5:(n:Int)<=(cap:Int):=by have:=(Z HPOP).2;omega
 go_wp2_with fail
 go_quiet (fail)
 generalize hw3:w2.drewN _=w3
 have HB3:Hid (Below w2.heap.size w2 w3):=by rw [<- hw3];exact O (bP _ _)
 have HC3:=O ((Z HC2).grown (Z HB3))
 have h0:=bG (Z HB3) h0
 have hc1:=bG (Z HB3) hc1
 have hrf'':w3.frozen? ⟨bt,c,none⟩=false:=by rw [(Z HB3).frozen (bV hc)];exact hrf'
 have hc:=bG (Z HB3) hc
 clear hw3 hrf' k1 k2
 go_wp2_with fail
 refine wp_region_held_drew (S:=fun w'=>w'.cell? ⟨ps,0,none⟩=some (.slice (some ⟨bt,0,none⟩) 101 101)/\w'.cell? ⟨ps,1,none⟩=some (.int .i64 c)) (by kernel_rfl) ⟨h0,hc1⟩ (fun hHeld=>?_)
 refine tka 0 103 (by assumption) ?_
 refine tka 1 104 (by assumption) ?_
 refine tka 2 105 (by assumption) ?_
 refine tka 3 106 (by assumption) ?_
 refine tka 4 107 (by assumption) ?_
 refine tka 5 108 (by assumption) ?_
 refine tka 6 109 (by assumption) ?_
 refine tka 7 110 (by assumption) ?_
 refine tka 8 111 (by assumption) ?_
 refine tka 9 112 (by assumption) ?_
 refine tka 10 113 (by assumption) ?_
 refine tka 11 114 (by assumption) ?_
 refine tka 12 115 (by assumption) ?_
 refine tka 13 116 (by assumption) ?_
 refine tka 14 117 (by assumption) ?_
 refine tka 15 118 (by assumption) ?_
 refine tka 16 119 (by assumption) ?_
 refine tka 18 121 (by assumption) ?_
 refine wpAnyH_ready (rs:=[17]) (by kernel_rfl) (by simp) ?_
 refine AllReadyH.cons rfl (fun K hK=>?_) AllReadyH.nil
 go_simp
 refine hK.out _ _ hHeld (fun hHeld=>?_)
 clear hK K
 refine tka 19 122 (by assumption) ?_
 refine tka 20 123 (by assumption) ?_
 refine wpAnyH_ready (rs:=[21]) (by kernel_rfl) (by simp) ?_
 refine AllReadyH.cons rfl (fun K hK=>?_) AllReadyH.nil
 go_simp
 refine hK.out _ _ ⟨gZ (Z NE).1 h0,gZ (Z NE).1 hc1⟩ (fun hHeld=>?_)
 clear hK K
 refine wpAnyH_done (by kernel_rfl) ?_ _
 go_wp2
 go_ret
 refine ⟨by rw [(Z E3).1];rfl,fun _=>?_,?_,?_⟩
 ·rw [(Z E3).2]
  have e:=Z HN
  subst e
  have e2:=Z HCC
  subst e2
  have hgg:w3.grownBy w3.drew (V s.cur).ownBlock:=⟨rfl,rfl,rfl,Nat.le_refl _,fun _ _ _=>rfl⟩
  refine ⟨bt,_,dV.putRow (l:=r) (g:=g) (Z HC3) hgg ?_ rfl ?_ (by omega)⟩
  ·have hg:w2.grownBy w3 none:=⟨(Z HB3).os,(Z HB3).tape,(Z HB3).output,(Z HB3).size,fun k hk _=>(Z HB3).block k hk⟩
   exact ((Z HPOP).1.kept hg (.inr (by simp [Value.ownBlock]))).drew
  left;rw [Z HV];rfl
 ·exact ((((Z HB1).mono hB).trans ((Z HB2).mono (by omega))).trans ((Z HB3).mono (by have:=(Z HB2).size;omega))).setCell (p:=⟨bt,c,none⟩) hbt _ |>.drew
 refine gD.drew (gD.of_out (fun b=>b=bt) (fun b hb hx=>?_) (fun b hx=>.inr (.inr (by rw [hx];exact (Z KT).1))))
 rw [Below.heap_setCell _ _ _ _ hx]
 exact (((Z HB1).trans ((Z HB2).mono (Z HB1).size)).trans ((Z HB3).mono (Nat.le_trans (Z HB1).size (Z HB2).size))).block b hb
end
theorem mZ (B ps:Nat) (s:St) (k t fn l i:Int) (tx:ByteArray) (v:Value) (w:World) (h:cG B w ps s) (h1:0<=t) (h2:t<=100) :
  Calls Tryz.prog 57 #[.pointer (some ⟨ps,0,none⟩),.agg #[.int .i64 k,.int .i64 t,.int .i64 fn,.int .i64 l,.string tx,v],.int .i64 i] w (tC B w ps s k t fn l i):=by
 by_cases k7:k=7
 ·subst k7;exact move_turn B ps s t fn l i tx v w h h1 h2
 have k7':(k == 7)=false:=by simpa using k7
 by_cases ht:t=s.cur
 ·by_cases k2:k=2
  ·subst k2
   by_cases hd:(s.tasks s.cur).length=200
   ·exact move_deep B ps s t fn l i tx v w h ht hd
   exact move_call B ps s t fn l i tx v w h ht hd
  have k2':(k == 2)=false:=by simpa using k2
  cases hf:fn != topFn (s.tasks s.cur) with
  | true=>exact move_fn B ps s k t fn l i tx v w h ht k7' k2' hf
  | false =>
   by_cases k1:k=1
   ·have k1':(k == 1)=true:=by simpa using k1
    cases hs:s.tasks s.cur with
    | nil=>exact move_line0 B ps s k t fn l i tx v w h ht k7' k2' hf k1' hs
    | cons f r=>exact move_line1 B ps s k t fn l i tx v w h ht k7' k2' f r hf k1' hs
   have k1':(k == 1)=false:=by simpa using k1
   by_cases k3:k=3
   ·have k3':(k == 3)=true:=by simpa using k3
    cases hs:s.tasks s.cur with
    | nil=>exact move_back0 B ps s k t fn l i tx v w h ht k7' k2' hf k3' hs
    | cons f r =>
     cases hfr:decide (f.frm<0) with
     | true=>exact move_back1 B ps s k t fn l i tx v w h ht k7' k2' f r hf k3' hs hfr
     | false=>exact move_back2 B ps s k t fn l i tx v w h ht k7' k2' f r hf k3' hs hfr
   have k3':(k == 3)=false:=by simpa using k3
   exact move_none B ps s k t fn l i tx v w h ht k7' k2' hf k1' k3'
 exact move_task B ps s k t fn l i tx v w h k7' ht
theorem info_Frames:(Tryz.prog.info? 35).map (fun i=>(i.zero,i.size,i.bytes))=some (some (.slice none 0 0),1,24):=by kernel_rfl
theorem bK (w:World) (c:Array Value) (t:TypeId) (b i:Nat) (hb:b=w.heap.size):(w.alloc (.cells c t)).cell? ⟨b,i,none⟩=c[i]?:=by subst hb;simp
theorem cW (w:World) (c:Array Value) (t:TypeId) (b i:Nat) (hb:b=w.heap.size):(w.alloc (.cells c t)).frozen? ⟨b,i,none⟩=false:=by subst hb;simp
theorem SpecAt_begin (w:World) (mc:Array Value) (hs:mc.size=101) (hm:∀ i,i<101->mc[i]?=some (.slice none 0 0)) :
  cG w.heap.size (((w.alloc (.cells (mc.setIfInBounds 0 (.slice (some ⟨w.heap.size+1+1,0,none⟩) 1 1)) 35)).alloc (.cells #[.slice (some ⟨w.heap.size,0,none⟩) 101 101,.int .i64 0] 152)).alloc (.cells #[.int .i64 0,.int .i64 0,.int .i64 (-1)] 42))
   (w.heap.size+1) St.init:=by
 refine ⟨w.heap.size,fun t=>if t=0 then .slice (some ⟨w.heap.size+1+1,0,none⟩) 1 1 else .slice none 0 0,by omega,Nat.le_refl _,by omega,?_,?_,?_,?_,fun t ht=>?_,fun t ht=>?_,fun t ht=>?_,fun t t' ht ht' hne=>?_,by decide,fun t ht=>?_⟩
 ·rw [World.cell?_alloc_old _ _ _ (by simp),bK _ _ _ _ _ (by simp)]
  rfl
 ·rw [World.cell?_alloc_old _ _ _ (by simp),bK _ _ _ _ _ (by simp)]
  rfl
 ·rw [World.frozen?_alloc_old _ _ _ (by simp),cW _ _ _ _ _ (by simp)]
 ·have h:=World.rowIs_alloc w (mc.setIfInBounds 0 (.slice (some ⟨w.heap.size+1+1,0,none⟩) 1 1)) 35 (fun t=>if t=0 then .slice (some ⟨w.heap.size+1+1,0,none⟩) 1 1 else .slice none 0 0) (fun i hi=>by
   have hi':i<101:=by simpa [hs] using hi
   rw [Array.getElem?_setIfInBounds]
   by_cases e:i=0
   ·subst e;simp [hs]
   rw [if_neg (fun h=>e h.symm),if_neg e];exact hm i hi')
  rw [show (mc.setIfInBounds 0 (.slice (some ⟨w.heap.size+1+1,0,none⟩) 1 1)).size=101 by simpa using hs] at h
  exact (h.alloc _).alloc _
 ·by_cases e:t=0
  ·subst e
   refine ⟨by simp [cA,St.init],.inr ⟨w.heap.size+1+1,1,#[.int .i64 0,.int .i64 0,.int .i64 (-1)],rfl,by omega,?_,by simp [St.init],by unfold maxLen;omega,rfl,by simp [St.init,cA]⟩⟩
   have:=heap_alloc_new ((w.alloc (.cells (mc.setIfInBounds 0 (.slice (some ⟨w.heap.size+1+1,0,none⟩) 1 1)) 35)).alloc (.cells #[.slice (some ⟨w.heap.size,0,none⟩) 101 101,.int .i64 0] 152)) (.cells #[.int .i64 0,.int .i64 0,.int .i64 (-1)] 42)
   simpa using this
  have e1:St.init.tasks t=[]:=by simp [St.init,e]
  rw [if_neg e,e1]
  exact World.ownsRow_nil _ _ _ _
 ·by_cases e:t=0
  ·rw [if_pos e];simp [Value.ownBlock]
  rw [if_neg e];simp [Value.ownBlock]
 ·by_cases e:t=0
  ·rw [if_pos e];simp [Value.ownBlock];omega
  rw [if_neg e];simp [Value.ownBlock]
 ·by_cases e:t=0
  ·have e':t' ≠ 0:=by omega
   rw [if_pos e,if_neg e'];right;simp [Value.ownBlock]
  rw [if_neg e];left;rfl
 by_cases e:t=0
 ·subst e;simp [St.init]
 simp [St.init,e]
theorem pA (w:World) :
  Calls Tryz.prog 56 #[] w fun e w'=>(∃ ps,e=.returned (.pointer (some ⟨ps,0,none⟩))/\cG w.heap.size w' ps St.init)/\Below w.heap.size w w':=by
 obtain ⟨mc,hmc⟩:∃ mc,mc=madeCells #[.slice none 0 0] 101:=⟨_,rfl⟩
 have hmk:∀ w,(Instr.makeSlice 150 (.int .i64 101) (.int .i64 101)).run Tryz.prog w=.ok (.slice (some ⟨w.heap.size,0,none⟩) 101 101) (w.alloc (.cells mc 35)):=fun w=>by
  have:=gY (P:=Tryz.prog) 150 35 _ _ _ Tryz.underlying150 info_Frames 101 (by omega) (by omega) w
  rw [hmc]
  exact this
 have hs:mc.size=101:=by rw [hmc];exact size_madeCells _ _
 have hm:∀ i,i<101->mc[i]?=some (.slice none 0 0):=fun i hi=>by rw [hmc];simp [madeCells,hi,Nat.mod_one]
 have h0:=hm 0 (by omega)
 have HS:=O hs
 have HM:=O hm
 clear hmc hm hs
 go_enter Tryz.func56,Tryz.ntmps56
 go_wp2
 go_ret
 exact ⟨⟨w.heap.size+1,rfl,SpecAt_begin w mc (Z HS) (Z HM)⟩,(((Below.refl _ _).alloc (Nat.le_refl _) _).alloc (by simp) _).alloc (by simp;omega) _⟩
def Two (w:World) (v1 v2:Value) (w':World):Prop :=
 Below (w.heap.size+2) ((w.alloc (.cells #[v1,v2] 26)).alloc (.cells #[.int .i64 0,.int .i64 0] 49)) w'
theorem Two.below {w w':World} {v1 v2:Value} (h:Two w v1 v2 w'):Below w.heap.size w w' :=
 (((Below.refl _ _).alloc (Nat.le_refl _) _).alloc (by simp) _).trans (Below.mono h (by omega))
theorem Two.size {w w':World} {v1 v2:Value} (h:Two w v1 v2 w'):w.heap.size+2<=w'.heap.size:=by
 have:=Below.size h;simpa using this
theorem Two.go {w w' w'':World} {v1 v2:Value} (h:Two w v1 v2 w') (hb:Below w'.heap.size w' w''):Two w v1 v2 w'':=Below.trans h (hb.mono h.size)
theorem Two.b0 {w w':World} {v1 v2:Value} (h:Two w v1 v2 w'):w'.cell? ⟨w.heap.size,0,none⟩=some v1:=by
 rw [Below.cell h (by simp),World.cell?_alloc_old _ _ _ (by simp),bK _ _ _ _ _ rfl];rfl
theorem Two.b1 {w w':World} {v1 v2:Value} (h:Two w v1 v2 w'):w'.cell? ⟨w.heap.size,1,none⟩=some v2:=by
 rw [Below.cell h (by simp),World.cell?_alloc_old _ _ _ (by simp),bK _ _ _ _ _ rfl];rfl
theorem Two.r0 {w w':World} {v1 v2:Value} (h:Two w v1 v2 w'):w'.cell? ⟨w.heap.size+1,0,none⟩=some (.int .i64 0):=by
 rw [Below.cell h (by simp),bK _ _ _ _ _ (by simp)];rfl
theorem Two.r1 {w w':World} {v1 v2:Value} (h:Two w v1 v2 w'):w'.cell? ⟨w.heap.size+1,1,none⟩=some (.int .i64 0):=by
 rw [Below.cell h (by simp),bK _ _ _ _ _ (by simp)];rfl
theorem Two.f0 {w w':World} {v1 v2:Value} (h:Two w v1 v2 w'):w'.frozen? ⟨w.heap.size+1,0,none⟩=false:=by
 rw [Below.frozen h (by simp),cW _ _ _ _ _ (by simp)]
theorem Two.f1 {w w':World} {v1 v2:Value} (h:Two w v1 v2 w'):w'.frozen? ⟨w.heap.size+1,1,none⟩=false:=by
 rw [Below.frozen h (by simp),cW _ _ _ _ _ (by simp)]
def SaysF (nf:Nat) (fns:Nat->ByteArray) (nm:Nat) (f:Nat->M) (e:Ending):Prop:=∃ c m,e=.returned (.agg #[.int .i64 c,.int .i64 m])/\Ans nf fns nm f c m
theorem bD1 (lo:Nat) (v1 v2:Value) (nf:Nat) (fns:Nat->ByteArray) (n:Nat) (f:Nat->M) (w:World) (h1:eE lo w v1 nf fns) (h2:bQ lo w v2 n f) :
  Calls Tryz.prog 18 #[.agg #[v1,v2]] w fun e w'=>SaysF nf fns n f e/\Below w.heap.size w w':=by
 have H1:=O h1
 have H2:=O h2
 obtain ⟨a1,cap1,rfl,hn1,-⟩:=h1
 obtain ⟨a2,cap2,rfl,hn2,-⟩:=h2
 unfold maxLen at hn1 hn2
 have T0:Hid (Two w (.slice a1 nf cap1) (.slice a2 n cap2) ((w.alloc (.cells #[.slice a1 nf cap1,.slice a2 n cap2] 26)).alloc (.cells #[.int .i64 0,.int .i64 0] 49))):=Below.refl _ _
 go_enter Tryz.func18,Tryz.ntmps18
 go_wp2_with fail
 refine (l1sizes_any lo _ _ nf fns n f _ ((Z H1).below (Z T0).below) ((Z H2).below (Z T0).below)).mono ?_
 rintro e w1 ⟨⟨b,rfl,hsz⟩,hb1⟩
 have T1:=O ((Z T0).go hb1);clear hb1 T0
 have g0:=(Z T1).b0
 have g1:=(Z T1).b1
 have g2:=(Z T1).r0
 have g3:=(Z T1).r1
 have g4:=(Z T1).f0
 have g5:=(Z T1).f1
 cases b with
 | false =>
  have HS:Hid (¬ kN nf fns n):=fun h=>by simp [h] at hsz
  clear hsz
  go_wp2
  refine bodyPost_ret (v:=.agg #[.int .i64 1,.int .i64 0]) (by simp [results,Tryz.results18,go_sem,g2,g3]) rfl ⟨⟨1,0,rfl,.inl ⟨Z HS,rfl,rfl⟩⟩,?_⟩
  repeat (refine Below.setCell ?_ (by simp) _)
  exact (Z T1).below
 | true =>
  have HS:Hid (kN nf fns n):=O (by simpa using hsz)
  clear hsz
  go_wp2
  go_loopw [16] (fun i w'=>∃ (k:Nat),k<=n/\i=.int .i64 k/\(∀ j,j<k->fB nf (f j))/\Two w (.slice a1 nf cap1) (.slice a2 n cap2) w') (fun i _=>n - (intOf i).toNat)
  case atStart=>exact ⟨0,by omega,rfl,by omega,Z T1⟩
  case round =>
   obtain ⟨k,hk,rfl,hq,ht⟩:=hrel
   have HQ:=O hq;clear hq
   have HT:=O ht;clear ht g0 g1 g2 g3 g4 g5 T1
   by_cases hlt:k<n
   ·obtain ⟨_,_,e,_,hv⟩:=(Z H2).below (Z HT).below
    cases e
    obtain ⟨b,o,vv,rfl,hc0,hc1,hc2,hc3,hc4,hc5,hs1,hs2,-⟩:=hv k hlt
    clear hv
    have HV:=O hs2
    obtain ⟨av,capv,rfl,-⟩:=hs2
    have g0:=(Z HT).b0
    have g1:=(Z HT).b1
    have hsz:=(Z HT).size
    have n1:w.heap.size≠wr.heap.size:=by omega
    have BA:=O ((Below.refl wr.heap.size wr).alloc (Nat.le_refl _) (.cells #[.int .i64 (f k).kind,.int .i64 (f k).task,.int .i64 (f k).fn,.int .i64 (f k).line,.string (f k).text,.slice av (f k).nv capv] 108))
    have g6:=((Z HT).go (Z BA)).b0
    have g7:=((Z HT).go (Z BA)).b1
    go_wp2_with fail
    refine (l1moment_any lo _ _ nf fns _ _ _ _ _ _ (f k).nv (f k).vars _ ((Z H1).below ((Z HT).go (Z BA)).below) hs1 ((Z HV).below (Z BA))).mono ?_
    rintro e w2 ⟨⟨b,rfl,hm⟩,hb2⟩
    have T2:=O (((Z HT).go (Z BA)).go hb2);clear hb2
    have g2:=(Z T2).r0
    have g3:=(Z T2).r1
    have g4:=(Z T2).f0
    have g5:=(Z T2).f1
    cases b with
    | false =>
     have HM:Hid (¬ fB nf (f k)):=O (fun h=>by
      have:=hm.2 h
      cases this)
     clear hm
     go_wp2
     refine bodyPost_ret (v:=.agg #[.int .i64 2,.int .i64 k]) (by simp [results,Tryz.results18,go_sem,g2,g3]) rfl ⟨⟨2,k,rfl,.inr (.inl ⟨Z HS,k,hlt,Z HM,Z HQ,rfl,rfl⟩)⟩,?_⟩
     repeat (refine Below.setCell ?_ (by simp) _)
     exact (Z T2).below
    | true =>
     have HM:Hid (fB nf (f k)):=O (hm.1 rfl)
     clear hm
     go_wp2
     go_roundw
     case rel =>
      refine ⟨k+1,by omega,by go_num,fun j hj=>?_,Z T2⟩
      by_cases hjk:j<k
      ·exact Z HQ j hjk
      have e:j=k:=by omega
      rw [e];exact Z HM
     case measure=>simp [intOf];omega
   have hkn:k=n:=by omega
   subst hkn
   clear hlt
   have g0:=(Z HT).b0
   have g1:=(Z HT).b1
   go_wp2_with fail
   refine (pA _).mono ?_
   rintro e w2 ⟨⟨ps,rfl,hsp⟩,hb2⟩
   have T2:=O ((Z HT).go hb2)
   have hB:=(Z HT).size
   have HSP:=O hsp
   clear hb2 hsp g0 g1
   have g0:=(Z T2).b0
   have g1:=(Z T2).b1
   obtain ⟨B,hBe⟩:∃ B,B=wr.heap.size:=⟨_,rfl⟩
   rw [<- hBe] at hB HSP
   clear hBe HT
   go_wp2
   go_loopw [32] (fun i w'=>∃ (j:Nat),j<=k/\i=.int .i64 j/\(∀ i,i<j->eB f i=0)/\cG B w' ps (St.after f j)/\Two w (.slice a1 nf cap1) (.slice a2 k cap2) w') (fun i _=>k - (intOf i).toNat)
   case atStart=>exact ⟨0,by omega,rfl,by omega,Z HSP,Z T2⟩
   case round =>
    obtain ⟨j,hj,rfl,hq,hsp,ht⟩:=hrel
    have HC:=O hq;clear hq
    have HT:=O ht;clear ht g0 g1 T2 HSP
    have HSP:=O hsp;clear hsp
    by_cases hlt:j<k
    ·obtain ⟨_,_,e,_,hv⟩:=(Z H2).below (Z HT).below
     cases e
     obtain ⟨b,o,vv,rfl,hc0,hc1,hc2,hc3,hc4,hc5,hs1,hs2,-⟩:=hv j hlt
     clear hv
     obtain ⟨av,capv,rfl,-⟩:=hs2
     have BA:=O ((Below.refl wr.heap.size wr).alloc (Nat.le_refl _) (.cells #[.int .i64 (f j).kind,.int .i64 (f j).task,.int .i64 (f j).fn,.int .i64 (f j).line,.string (f j).text,.slice av (f j).nv capv] 108))
     have hmo:=Z HQ j hlt
     have ht1:0<=(f j).task:=hmo.1.2.2.1
     have ht2:(f j).task<=100:=hmo.1.2.2.2.1
     clear hmo
     go_wp2_with fail
     refine (mZ B ps (St.after f j) _ _ _ _ _ _ _ _ ((Z HSP).below (Z BA)) ht1 ht2).mono ?_
     rintro e w2 ⟨rfl,hsp,hb2,-⟩
     have T2:Hid (Two w (.slice a1 nf cap1) (.slice (some ⟨b,o,none⟩) k cap2) w2):=O (Below.trans ((Z HT).go (Z BA)) (hb2.mono hB))
     have HSP2:=O hsp
     clear hb2 hsp
     have g2:=(Z T2).r0
     have g3:=(Z T2).r1
     have g4:=(Z T2).f0
     have g5:=(Z T2).f1
     have hce:code (St.after f j) (f j).kind (f j).task (f j).fn=eB f j:=rfl
     rw [hce]
     clear hce
     by_cases hcode:eB f j=0
     ·rw [hcode]
      have HCO:=O hcode;clear hcode
      go_wp2
      go_roundw
      case rel =>
       refine ⟨j+1,by omega,by go_num,fun i hi=>?_,Z HSP2 (Z HCO),Z T2⟩
       by_cases hij:i<j
       ·exact Z HC i hij
       have e:i=j:=by omega
       rw [e];exact Z HCO
      case measure=>simp [intOf];omega
     have hb:(eB f j != 0)=true:=by simpa using hcode
     have HCO:=O hcode;clear hcode
     go_wp2
     refine bodyPost_ret (v:=.agg #[.int .i64 (eB f j),.int .i64 j]) (by simp [results,Tryz.results18,go_sem,g2,g3]) rfl ⟨⟨_,j,rfl,.inr (.inr (.inl ⟨Z HS,Z HQ,j,hlt,Z HCO,Z HC,rfl,rfl⟩))⟩,?_⟩
     repeat (refine Below.setCell ?_ (by simp) _)
     exact (Z T2).below
    have hjk:j=k:=by omega
    subst hjk
    have g2:=(Z HT).r0
    have g3:=(Z HT).r1
    have g4:=(Z HT).f0
    have g5:=(Z HT).f1
    go_wp2
    refine bodyPost_ret (v:=.agg #[.int .i64 0,.int .i64 0]) (by simp [results,Tryz.results18,go_sem,g2,g3]) rfl ⟨⟨0,0,rfl,.inr (.inr (.inr ⟨Z HS,Z HQ,Z HC,rfl,rfl⟩))⟩,?_⟩
    repeat (refine Below.setCell ?_ (by simp) _)
    exact (Z HT).below
def cB (nf:Nat) (fns:Nat->ByteArray) (n:Nat) (f:Nat->M):Prop:=kN nf fns n/\(∀ j,j<n->fB nf (f j))/\∀ j,j<n->eB f j=0
theorem Ans.zero {nf:Nat} {fns:Nat->ByteArray} {n:Nat} {f:Nat->M} {c m:Int} (h:Ans nf fns n f c m):(c=0↔cB nf fns n f)/\(c=0->m=0):=by
 rcases h with ⟨a,rfl,rfl⟩ | ⟨a,i,hi,b,d,rfl,rfl⟩ | ⟨a,b,i,hi,d,e,rfl,rfl⟩ | ⟨a,b,d,rfl,rfl⟩
 ·exact ⟨⟨fun h=>by omega,fun h=>absurd h.1 a⟩,fun h=>by omega⟩
 ·exact ⟨⟨fun h=>by omega,fun h=>absurd (h.2.1 i hi) b⟩,fun h=>by omega⟩
 ·exact ⟨⟨fun h=>absurd h d,fun h=>h.2.2 i hi⟩,fun h=>absurd h d⟩
 exact ⟨⟨fun _=>⟨a,b,d⟩,fun _=>rfl⟩,fun _=>rfl⟩
def cS (w:World) (v1 v2:Value) (w':World):Prop:=Below (w.heap.size+1) (w.alloc (.cells #[v1,v2] 26)) w'
theorem cS.below {w w':World} {v1 v2:Value} (h:cS w v1 v2 w'):Below w.heap.size w w':=((Below.refl _ _).alloc (Nat.le_refl _) _).trans (Below.mono h (by omega))
theorem cS.size {w w':World} {v1 v2:Value} (h:cS w v1 v2 w'):w.heap.size+1<=w'.heap.size:=by
 have:=Below.size h;simpa using this
theorem cS.go {w w' w'':World} {v1 v2:Value} (h:cS w v1 v2 w') (hb:Below w'.heap.size w' w''):cS w v1 v2 w'':=Below.trans h (hb.mono h.size)
theorem cS.b0 {w w':World} {v1 v2:Value} (h:cS w v1 v2 w'):w'.cell? ⟨w.heap.size,0,none⟩=some v1:=by
 rw [Below.cell h (by simp),bK _ _ _ _ _ rfl];rfl
theorem cS.b1 {w w':World} {v1 v2:Value} (h:cS w v1 v2 w'):w'.cell? ⟨w.heap.size,1,none⟩=some v2:=by
 rw [Below.cell h (by simp),bK _ _ _ _ _ rfl];rfl
theorem cS.new (w:World) (v1 v2:Value):cS w v1 v2 (w.alloc (.cells #[v1,v2] 26)):=Below.refl _ _
theorem bH (w:World) (o:Obj):Below w.heap.size w (w.alloc o):=(Below.refl _ _).alloc (Nat.le_refl _) o
theorem xV (lo:Nat) (v1 v2:Value) (nf:Nat) (fns:Nat->ByteArray) (n:Nat) (f:Nat->M) (w:World) (h1:eE lo w v1 nf fns) (h2:bQ lo w v2 n f) :
  Calls Tryz.prog 37 #[.agg #[v1,v2]] w fun e w'=>bS (cB nf fns n f) e/\Below w.heap.size w w':=by
 have H1:=O h1;clear h1
 have H2:=O h2;clear h2
 have T0:=O (cS.new w v1 v2)
 go_enter Tryz.func37,Tryz.ntmps37
 go_wp2_with fail
 refine (bD1 lo _ _ nf fns n f _ ((Z H1).below (Z T0).below) ((Z H2).below (Z T0).below)).mono ?_
 rintro e w1 ⟨⟨c,m,rfl,ha⟩,hb1⟩
 have T1:=O (((Z T0).go hb1).go (bH w1 (.cells #[.int .i64 c,.int .i64 m] 49)))
 clear hb1
 by_cases hc:c=0
 ·have HS:=O (ha.zero.1.1 hc)
  have hcb:(c == 0)=true:=by simpa using hc
  clear ha hc
  go_wp2
  go_ret
  exact ⟨bS.yes (Z HS),(Z T1).below⟩
 have HS:Hid (¬ cB nf fns n f):=O (fun h=>hc (ha.zero.1.2 h))
 have hcb:(c == 0)=false:=by simpa using hc
 clear ha hc
 go_wp2
 go_ret
 exact ⟨bS.no (Z HS),(Z T1).below⟩
theorem l1at_any (lo:Nat) (v1 v2:Value) (nf:Nat) (fns:Nat->ByteArray) (n:Nat) (f:Nat->M) (kk:Nat) (w:World) (h2:bQ lo w v2 n f) (hs:cB nf fns n f) (hk:kk<=n) :
  Calls Tryz.prog 141 #[.agg #[v1,v2],.int .i64 ((kk:Int) - 1)] w fun e w'=>(∃ ps,e=.returned (.pointer (some ⟨ps,0,none⟩))/\cG w.heap.size w' ps (St.after f kk))/\Below w.heap.size w w':=by
 have H2:=O h2
 obtain ⟨a2,cap2,rfl,hn2,-⟩:=h2
 unfold maxLen at hn2
 have HS:=O hs;clear hs
 have T0:=O (cS.new w v1 (.slice a2 n cap2))
 go_enter Tryz.func141,Tryz.ntmps141
 go_wp2_with fail
 refine (pA _).mono ?_
 rintro e w1 ⟨⟨ps,rfl,hsp⟩,hb1⟩
 have T1:=O ((Z T0).go hb1)
 have HSP:=O hsp
 clear hb1 hsp T0
 obtain ⟨B,hBe⟩:∃ B,B=(w.alloc (.cells #[v1,.slice a2 n cap2] 26)).heap.size:=⟨_,rfl⟩
 have hB:B=w.heap.size+1:=by rw [hBe];simp
 rw [<- hBe] at HSP
 have HBE:=O hB
 clear hBe hB
 go_wp2
 go_loopw [6] (fun i w'=>∃ (j:Nat),j<=kk/\i=.int .i64 j/\cG B w' ps (St.after f j)/\cS w v1 (.slice a2 n cap2) w') (fun i _=>kk - (intOf i).toNat)
 case atStart=>exact ⟨0,by omega,rfl,Z HSP,Z T1⟩
 case round =>
  obtain ⟨j,hj,rfl,hsp,ht⟩:=hrel
  have HT:=O ht;clear ht T1 HSP
  have HSP:=O hsp;clear hsp
  by_cases hlt:j<kk
  ·obtain ⟨_,_,e,_,hv⟩:=(Z H2).below (Z HT).below
   cases e
   obtain ⟨b,o,vv,rfl,hc0,hc1,hc2,hc3,hc4,hc5,hs1,hs2,-⟩:=hv j (by omega)
   clear hv
   obtain ⟨av,capv,rfl,-⟩:=hs2
   have hmo:=(Z HS).2.1 j (by omega)
   have ht1:0<=(f j).task:=hmo.1.2.2.1
   have ht2:(f j).task<=100:=hmo.1.2.2.2.1
   clear hmo
   have g1:=(Z HT).b1
   have hjn:(j:Int)<(n:Int):=by omega
   go_wp2_with fail
   refine (mZ B ps (St.after f j) _ _ _ _ _ _ _ _ (Z HSP) ht1 ht2).mono ?_
   rintro e w2 ⟨rfl,hsp,hb2,-⟩
   have T2:Hid (cS w v1 (.slice (some ⟨b,o,none⟩) n cap2) w2):=O (Below.trans (Z HT) (hb2.mono (by rw [Z HBE];omega)))
   have HSP2:=O (hsp ((Z HS).2.2 j (by omega)))
   clear hsp hb2
   go_wp2
   go_roundw
   case rel=>exact ⟨j+1,by omega,by go_num,Z HSP2,Z T2⟩
   case measure=>simp [intOf];omega
  have hjk:j=kk:=by omega
  subst hjk
  go_wp2
  go_ret
  obtain ⟨bt,V,hc⟩:=Z HSP
  have hBB:w.heap.size<=B:=by rw [Z HBE];omega
  refine ⟨⟨ps,rfl,bt,V,Nat.le_trans hBB hc.hp,Nat.le_trans hBB hc.hbt,hc.ne,hc.c0,hc.c1,hc.fz,hc.row,fun t ht=>?_,hc.nps,hc.nbt,hc.dis,hc.cur,hc.len⟩,(Z HT).below⟩
  have h:=hc.own t ht
  refine ⟨h.1,?_⟩
  rcases h.2 with hn | ⟨g,cap,cur,hv,hb,rest⟩
  ·exact .inl hn
  exact .inr ⟨g,cap,cur,hv,by omega,rest⟩
def cQ (n:Nat) (k:Int):Nat:=min (k+1).toNat n
theorem tH (lo:Nat) (v1 v2:Value) (nf:Nat) (fns:Nat->ByteArray) (n:Nat) (f:Nat->M) (k:Int) (w:World) (h2:bQ lo w v2 n f) (hs:cB nf fns n f) (hk1:-1<=k) (hk2:k<=n) :
  Calls Tryz.prog 97 #[.agg #[v1,v2],.int .i64 k] w fun e w'=>(∃ ps,e=.returned (.pointer (some ⟨ps,0,none⟩))/\cG (w.heap.size+1) w' ps (St.after f (cQ n k)))/\Below w.heap.size w w':=by
 have H2:=O h2
 obtain ⟨a2,cap2,rfl,hn2,-⟩:=h2
 unfold maxLen at hn2
 have HS:=O hs;clear hs
 have T0:=O (cS.new w v1 (.slice a2 n cap2))
 have g0:=(Z T0).b0
 have g1:=(Z T0).b1
 by_cases hk:k=n
 ·subst hk
  have e:cQ n (n:Int)=n:=by unfold cQ;omega
  rw [e];clear e
  go_enter Tryz.func97,Tryz.ntmps97
  go_wp2_with fail
  refine (l1at_any lo _ _ nf fns n f n _ ((Z H2).below (Z T0).below) (Z HS) (Nat.le_refl _)).mono ?_
  rintro e w1 ⟨⟨ps,rfl,hsp⟩,hb1⟩
  have T1:=O ((Z T0).go hb1)
  have HSP:=O hsp
  clear hb1 hsp
  go_wp2
  go_ret
  exact ⟨⟨ps,rfl,by simpa using Z HSP⟩,(Z T1).below⟩
 obtain ⟨kk,rfl⟩:∃ kk:Nat,k=(kk:Int) - 1:=⟨(k+1).toNat,by omega⟩
 have e:cQ n ((kk:Int) - 1)=kk:=by unfold cQ;omega
 rw [e];clear e
 have hkb:((kk:Int) - 1 == (n:Int))=false:=by simpa using hk
 have hkk:kk<=n:=by omega
 clear hk
 go_enter Tryz.func97,Tryz.ntmps97
 go_wp2_with fail
 refine (l1at_any lo _ _ nf fns n f kk _ ((Z H2).below (Z T0).below) (Z HS) hkk).mono ?_
 rintro e w1 ⟨⟨ps,rfl,hsp⟩,hb1⟩
 have T1:=O ((Z T0).go hb1)
 have HSP:=O hsp
 clear hb1 hsp
 go_wp2
 go_ret
 exact ⟨⟨ps,rfl,by simpa using Z HSP⟩,(Z T1).below⟩
end Go.Proofs.YtmnmeaeicjhkhaaGreatDoor
