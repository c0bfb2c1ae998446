import Derived.Test.YtmnmeaeicjhkhaaGreatDoorGSbz
import Derived.Deep.DrawnRows
set_option maxRecDepth 100000
set_option maxHeartbeats 16000000
namespace Go.Proofs.YtmnmeaeicjhkhaaGreatDoor
open Go.RowKit
attribute [local go_sem ↓] Go.wp_at_zero Go.wp_at_succ
theorem takeAt {P:Program} {ops:Array Oper} {Q:Exit→Act→World→Prop} {md:Region.Mode} {S:World→Prop} (i:Nat) (dst:Option Tmp) {v:Value} {fuel:Nat} {listed:Array Bool} {a:Act} {w:World}
  (hl:i < ops.size) (hd:(ops[i]'hl).dst=dst) (hs:Region.noSelect ops=true) (hf:Region.free md ops listed i=true) (hr:(Region.ready md ops listed).contains i=true)
  (hQ:∀ c a w,Q (.panic c) (a.put dst v) w→Q (.panic c) a w) (hw:Region.wanted (ops[i]'hl) (yielded ops a.tmps)=true) (hy:∀ w,S w→(execOp a.eval (ops[i]'hl)).run P w=.ok (.value v) w) (hS:S w)
  (h:wpAnyH P md ops Q S fuel (listed.setIfInBounds i true) (a.put dst v) w):wpAnyH P md ops Q S (fuel + 1) listed a w:=by
 subst hd
 exact wpAnyH_take (Array.getElem?_eq_getElem hl) hs hf hr hQ (Or.inl ⟨hw,hy⟩) hS h
theorem tka {P:Program} {ops:Array Oper} {Q:Exit→Act→World→Prop} {md:Region.Mode} {S:World→Prop} {o:Oper} {v:Value} {fuel:Nat} {listed:Array Bool} {a:Act} {w:World} (i:Nat) (d:Tmp)
  (hy:∀ w,S w→(execOp a.eval o).run P w=.ok (.value v) w) (hS:S w) (h:wpAnyH P md ops Q S fuel (listed.setIfInBounds i true) (a.put (some d) v) w)
  (ho:ops[i]?=some o:=by rfl) (hd:o.dst=some d:=by rfl) (hs:Region.noSelect ops=true:=by kernel_rfl) (hf:Region.free md ops listed i=true:=by kernel_rfl) (hr:(Region.ready md ops listed).contains i=true:=by kernel_rfl)
  (hQ:∀ c a w,Q (.panic c) (a.put (some d) v) w→Q (.panic c) a w:=by exact fun _ _ _ h=>h) (hw:Region.wanted o (yielded ops a.tmps)=true:=by rfl):wpAnyH P md ops Q S (fuel + 1) listed a w:=by
 rw [← hd] at h hQ
 exact wpAnyH_take ho hs hf hr hQ (Or.inl ⟨hw,hy⟩) hS h
theorem info_Frame:(Tryz.prog.info? 42).map (fun i=>(i.zero,i.size,i.bytes))=some (some (.agg #[.int .i64 0,.int .i64 0,.int .i64 0]),3,24):=by kernel_rfl
theorem move_deep (B ps:Nat) (s:St) (t fn l i:Int) (tx:ByteArray) (v:Value) (w:World) (h:SpecAt B w ps s) (ht:t=s.cur) (hd:(s.tasks s.cur).length=200) :
  Calls Tryz.prog 57 #[.pointer (some ⟨ps,0,none⟩),.agg #[.int .i64 2,.int .i64 t,.int .i64 fn,.int .i64 l,.string tx,v],.int .i64 i] w (Moved B w ps s 2 t fn l i):=by
 subst ht
 have H:=hide h
 have hB:=hide h.base
 obtain ⟨bt,V,hh⟩:=h
 have hp:=hh.hp
 have h0:=hh.c0
 have hc1:=hh.c1
 clear hh
 have hz:=cell_lt h0
 simp only at hz
 have E3:Hid (code s 2 (s.cur:Int) fn=5):=by
  refine hide ?_
  simp [code,hd]
 have hne:ps ≠ w.heap.size:=by omega
 have HD:=hide hd;clear hd
 go_enter Tryz.func57,Tryz.ntmps57
 go_wp2
 go_quiet (fail)
 go_wp2_with fail
 refine (top_any B ps s _ ((uh H).below (by exact below_drewN ((Below.refl _ _).alloc (Nat.le_refl _) _) _))).mono ?_
 rintro e w1 ⟨rfl,q,hq⟩
 rw [uh HD]
 subst hq
 go_wp2
 go_ret
 refine ⟨by rw [uh E3];rfl,fun h=>?_,?_,?_⟩
 ·rw [uh E3] at h;cases h
 ·exact below_drewN ((Below.refl _ _).alloc (uh hB) _) _
 ·exact Keeps.of_below (below_drewN ((Below.refl _ _).alloc (Nat.le_refl _) _) _)
theorem move_call (B ps:Nat) (s:St) (t fn l i:Int) (tx:ByteArray) (v:Value) (w:World) (h:SpecAt B w ps s) (ht:t=s.cur) (hd:(s.tasks s.cur).length ≠ 200) :
  Calls Tryz.prog 57 #[.pointer (some ⟨ps,0,none⟩),.agg #[.int .i64 2,.int .i64 t,.int .i64 fn,.int .i64 l,.string tx,v],.int .i64 i] w (Moved B w ps s 2 t fn l i):=by
 subst ht
 have H:=hide h
 have hB:=h.base
 obtain ⟨bt,V,hh⟩:=h
 have KT:=hide hh.kinds
 have HH:=hide hh
 have hp:=hh.hp
 have h0:=hh.c0
 have hc1:=hh.c1
 have hi2:=hh.cur
 have hi4:=hh.len _ hi2
 have HL:=hide ((hh.own _ hi2).lt)
 have NE:Hid (bt ≠ ps∧bt ≠ w.heap.size):=⟨Ne.symm hh.ne,by have:=hh.row.lt;omega⟩
 have hbt:=hh.hbt
 clear hh
 have hz:=cell_lt h0
 simp only at hz
 have E3:Hid (code s 2 (s.cur:Int) fn=0∧s.step 2 (s.cur:Int) fn l i=s.put (⟨fn,0,i⟩ :: s.tasks s.cur)):=by
  refine hide ⟨?_,?_⟩
  ·simp [code,hd]
  ·simp [St.step]
 have hne:ps ≠ w.heap.size:=by omega
 have hd1:(((s.tasks s.cur).length:Int) - 1 + 1 == 200)=false:=by simp;omega
 have hd2:(((s.tasks s.cur).length:Int) == 200)=false:=by simp;omega
 have hd3:(s.tasks s.cur).length < 200:=by omega
 clear hd
 go_enter Tryz.func57,Tryz.ntmps57
 go_wp2
 go_quiet (fail)
 go_wp2_with fail
 refine (top_any B ps s _ ((uh H).below (by exact below_drewN ((Below.refl _ _).alloc (Nat.le_refl _) _) _))).mono ?_
 rintro e w1 ⟨rfl,q,hq⟩
 have hbx0:w1.cell? ⟨w.heap.size,0,none⟩=some (.int .i64 2):=by rw [hq];simp
 have hbx:w1.cell? ⟨w.heap.size,2,none⟩=some (.int .i64 fn):=by rw [hq];simp
 have HB1:Hid (Below w.heap.size w w1):=by rw [hq];exact hide (below_drewN (below_drewN ((Below.refl _ _).alloc (Nat.le_refl _) _) _) _)
 clear hq h0 hc1 H
 have HC:=hide ((uh HH).grown (uh HB1))
 have h0:=(uh HC).c0
 have hc1:=(uh HC).c1
 have hc:=(uh HC).row.cell hi2
 have hfz:=(uh HC).row.frozen s.cur
 have ho:=(uh HC).own _ hi2
 have np:=(uh HC).nps _ hi2
 have nt:=(uh HC).nbt _ hi2
 obtain ⟨a,cap,hV⟩:=owns_slice ho
 have hbm:some w.heap.size ≠ (V s.cur).ownBlock:=fun e=>by have:=(uh HL _ e.symm).2;omega
 rw [hV] at hc ho np nt hbm
 have HO:=hide ho;clear ho
 have HV:=hide hV;clear hV HL HH
 have NP:=hide np
 have NT:=hide nt
 have NM:=hide hbm
 clear np nt hbm
 obtain ⟨n,hn⟩:∃ n,n=(s.tasks s.cur).length:=⟨_,rfl⟩
 obtain ⟨c,hcc⟩:∃ c,c=s.cur:=⟨_,rfl⟩
 rw [← hn] at hi4 hd1 hd2 hd3 HO HV hc NP NT NM
 rw [← hn]
 have HN:=hide hn;clear hn
 rw [← hcc] at hi2 hc1 hc hfz
 rw [← hcc]
 have HCC:=hide hcc;clear hcc
 have hj1:(0:Int)≤(c:Int):=by omega
 have hj2:(c:Int) < 101:=by omega
 obtain ⟨i0,hi0,hz0,hz1,hz2⟩:=info_parts info_Frame
 have hw1:=cell_lt hbx
 have hw2:=cell_lt h0
 have hw3:=cell_lt hc
 simp only at hw1 hw2 hw3
 have hb0:∀ o,Below w1.heap.size w1 (w1.alloc o).drew:=fun o=>((Below.refl _ _).alloc (Nat.le_refl _) o).drew
 have HB0:=hide hb0;clear hb0
 have II:=hide (And.intro hi0 (And.intro hz0 (And.intro hz1 hz2)));clear hi0 hz0 hz1 hz2
 go_wp2_with fail
 refine wp_region_held_drew (S:=fun w'=>w'.cell? ⟨ps,0,none⟩=some (.slice (some ⟨bt,0,none⟩) 101 101)∧w'.cell? ⟨ps,1,none⟩=some (.int .i64 c)∧w'.cell? ⟨w.heap.size,2,none⟩=some (.int .i64 fn)) (by kernel_rfl) ⟨h0,hc1,hbx⟩ (fun hHeld=>?_)
 refine tka 0 31 ?hy0 (by assumption) ?r0 (v:=?v0)
 case hy0=>intro wx hSw;go_simp;with_reducible rfl
 simp only [Act.put,sx1,sx2,sx3]
 refine tka 1 32 ?hy1 (by assumption) ?r1 (v:=?v1)
 case hy1=>intro wx hSw;go_simp;with_reducible rfl
 simp only [Act.put,sx1,sx2,sx3]
 refine tka 2 33 ?hy2 (by assumption) ?r2 (v:=?v2)
 case hy2=>intro wx hSw;go_simp;with_reducible rfl
 simp only [Act.put,sx1,sx2,sx3]
 refine tka 3 34 ?hy3 (by assumption) ?r3 (v:=?v3)
 case hy3=>intro wx hSw;go_simp;with_reducible rfl
 simp only [Act.put,sx1,sx2,sx3]
 refine tka 4 35 ?hy4 (by assumption) ?r4 (v:=?v4)
 case hy4=>intro wx hSw;go_simp;with_reducible rfl
 simp only [Act.put,sx1,sx2,sx3]
 refine tka 5 36 ?hy5 (by assumption) ?r5 (v:=?v5)
 case hy5=>intro wx hSw;go_simp;with_reducible rfl
 simp only [Act.put,sx1,sx2,sx3]
 refine tka 6 37 ?hy6 (by assumption) ?r6 (v:=?v6)
 case hy6=>intro wx hSw;go_simp;with_reducible rfl
 simp only [Act.put,sx1,sx2,sx3]
 refine tka 7 38 ?hy7 (by assumption) ?r7 (v:=?v7)
 case hy7=>intro wx hSw;go_simp;with_reducible rfl
 simp only [Act.put,sx1,sx2,sx3]
 refine tka 8 39 ?hy8 (by assumption) ?r8 (v:=?v8)
 case hy8=>intro wx hSw;go_simp;with_reducible rfl
 simp only [Act.put,sx1,sx2,sx3]
 refine tka 9 40 ?hy9 (by assumption) ?r9 (v:=?v9)
 case hy9=>intro wx hSw;go_simp;with_reducible rfl
 simp only [Act.put,sx1,sx2,sx3]
 refine tka 10 41 ?hy10 (by assumption) ?r10 (v:=?v10)
 case hy10=>intro wx hSw;go_simp;with_reducible rfl
 simp only [Act.put,sx1,sx2,sx3]
 refine tka 11 42 ?hy11 (by assumption) ?r11 (v:=?v11)
 case hy11=>intro wx hSw;go_simp;with_reducible rfl
 simp only [Act.put,sx1,sx2,sx3]
 refine tka 12 43 ?hy12 (by assumption) ?r12 (v:=?v12)
 case hy12=>intro wx hSw;go_simp;with_reducible rfl
 simp only [Act.put,sx1,sx2,sx3]
 refine tka 13 44 ?hy13 (by assumption) ?r13 (v:=?v13)
 case hy13=>intro wx hSw;go_simp;with_reducible rfl
 simp only [Act.put,sx1,sx2,sx3]
 refine tka 14 45 ?hy14 (by assumption) ?r14 (v:=?v14)
 case hy14=>intro wx hSw;go_simp;with_reducible rfl
 simp only [Act.put,sx1,sx2,sx3]
 refine tka 15 46 ?hy15 (by assumption) ?r15 (v:=?v15)
 case hy15=>intro wx hSw;go_simp;with_reducible rfl
 simp only [Act.put,sx1,sx2,sx3]
 refine tka 16 47 ?hy16 (by assumption) ?r16 (v:=?v16)
 case hy16=>intro wx hSw;go_simp;with_reducible rfl
 simp only [Act.put,sx1,sx2,sx3]
 refine tka 18 49 ?hy18 (by assumption) ?r18 (v:=?v18)
 case hy18=>intro wx hSw;go_simp;with_reducible rfl
 simp only [Act.put,sx1,sx2,sx3]
 refine tka 19 50 ?hy19 (by assumption) ?r19 (v:=?v19)
 case hy19=>intro wx hSw;go_simp;with_reducible rfl
 simp only [Act.put,sx1,sx2,sx3]
 refine tka 20 51 ?hy20 (by assumption) ?r20 (v:=?v20)
 case hy20=>intro wx hSw;go_simp;with_reducible rfl
 simp only [Act.put,sx1,sx2,sx3]
 refine tka 21 52 ?hy21 (by assumption) ?r21 (v:=?v21)
 case hy21=>intro wx hSw;go_simp;with_reducible rfl
 simp only [Act.put,sx1,sx2,sx3]
 refine wpAnyH_ready (rs:=[17,22]) (by kernel_rfl) (by simp) ?_
 refine AllReadyH.cons rfl (fun K hK=>?_) (AllReadyH.cons rfl (fun K hK=>?_) AllReadyH.nil)
 ·go_simp
  refine hK.out _ _ hHeld (fun hHeld=>?_)
  clear hK K
  refine wpAnyH_ready (rs:=[22]) (by kernel_rfl) (by simp) ?_
  refine AllReadyH.cons rfl (fun K hK=>?_) AllReadyH.nil
  go_simp
  refine hK.out _ _ ⟨cell_below (uh HB0 _) h0,cell_below (uh HB0 _) hc1,cell_below (uh HB0 _) hbx⟩ (fun hHeld=>?_)
  clear hK K
  refine wpAnyH_ready (rs:=[23]) (by kernel_rfl) (by simp) ?_
  refine AllReadyH.cons rfl (fun K hK=>?_) AllReadyH.nil
  refine step_append_lies _ (by rfl) _ _ _ (by rfl) B 42 i0 _ 3 24 Tryz.underlying35 (uh II).1 (uh II).2.1 (uh II).2.2.1 (uh II).2.2.2 rfl (by omega) (.slice a n cap) n (frCells (s.tasks s.cur).reverse) (by rfl) (((uh HO).alloc _).drew)
   ⟨w1.heap.size,0,none⟩ 1 1 [.int .i64 fn,.int .i64 0,.int .i64 i] (by rfl) (by rfl) (World.news_of_block (cs:=#[.int .i64 fn,.int .i64 0,.int .i64 i]) (t:=42) (fr:=(0,0)) (heap_alloc_new w1 _)) (by simp [Value.oneCell'])
   (by omega) (by unfold maxLen;omega) (by omega) (by simp;omega) (w1.heap.size + 1) (by simp) ?_
  intro g cap' w2 hown1 hgrow hat hlt
  have hx:w2.cell? ⟨bt,c,none⟩=some (.slice a n cap):=by
   rw [hgrow.cell_far _ (by simp;omega) (Ne.symm (uh NT))];exact cell_below (uh HB0 _) hc
  have hx2:w2.frozen? ⟨bt,c,none⟩=false:=by
   rw [hgrow.frozen_far _ (by simp;omega) (Ne.symm (uh NT)),(uh HB0 _).frozen hw3];exact hfz
  have hx3:w2.cell? ⟨ps,0,none⟩=some (.slice (some ⟨bt,0,none⟩) 101 101):=by
   rw [hgrow.cell_far _ (by simp;omega) (Ne.symm (uh NP))];exact hHeld.1
  have hx4:w2.cell? ⟨ps,1,none⟩=some (.int .i64 c):=by
   rw [hgrow.cell_far _ (by simp;omega) (Ne.symm (uh NP))];exact hHeld.2.1
  have hx5:w2.cell? ⟨w.heap.size,2,none⟩=some (.int .i64 fn):=by
   rw [hgrow.cell_far _ (by simp;omega) (uh NM)];exact hHeld.2.2
  have HG:=hide hgrow
  have HW:=hide hown1
  have HA:=hide hat
  refine hK.out _ _ ⟨hx3,hx4,hx5⟩ (fun hHeld=>?_)
  clear hK K hown1 hgrow hat
  simp only [Act.put,sx1,sx4,sx5,sx6,sx2,sx3]
  refine tka 24 55 ?hy24a (by assumption) ?r24a (v:=?v24a)
  case hy24a=>intro wx hSw;go_simp;with_reducible rfl
  simp only [Act.put,sx1,sx2,sx3]
  refine wpAnyH_ready (rs:=[25]) (by kernel_rfl) (by simp) ?_
  refine AllReadyH.cons rfl (fun K hK=>?_) AllReadyH.nil
  go_simp
  refine hK.out _ _ ⟨cell_set_ne (uh NE).1 hx3,cell_set_ne (uh NE).1 hx4,cell_set_ne (uh NE).2 hx5⟩ (fun hHeld=>?_)
  clear hK K
  refine wpAnyH_done (by kernel_rfl) ?_ _
  go_wp2
  go_ret
  refine ⟨by rw [(uh E3).1];rfl,fun _=>?_,?_,?_⟩
  ·rw [(uh E3).2]
   have e:=uh HCC
   subst e
   refine ⟨bt,_,SpecCore.putRow (l:=⟨fn,0,i⟩ :: s.tasks s.cur) (g:=g) ((uh HC).grown (uh HB0 _)) (by rw [uh HV];exact uh HG) ?_ rfl ?_ (by simp only [List.length_cons];rw [← uh HN];omega)⟩
   ·rw [List.length_cons,← uh HN,List.reverse_cons,frCells_app]
    exact uh HW
   ·rw [uh HV]
    rcases uh HA with h | h
    ·exact .inl h
    ·right;simp;omega
  ·refine Below.setCell ?_ hbt _
   refine Below.grown ((((uh HB1).mono hB).alloc (by omega) _).drew) (uh HG) (by simp;omega) (fun k hk=>((uh HO).lt k hk).1)
  ·refine Keeps.of_out (fun b=>b=bt∨(V s.cur).ownBlock=some b) (fun b hb hx=>?_) (fun b hx=>?_)
   ·rw [Below.heap_setCell _ _ _ _ (fun e=>hx (.inl e)),(uh HG).block b (by have:=(uh HB1).size;simp;omega) (fun e=>hx (.inr (by rw [uh HV];exact e.symm)))]
    exact (((uh HB1).alloc (uh HB1).size _).drew).block b hb
   ·rcases hx with rfl | hx
    ·exact .inr (.inr (uh KT).1)
    ·exact .inr (.inl ((uh KT).2 s.cur (uh HC).cur b hx))
 ·go_simp
  refine hK.out _ _ ⟨cell_below (uh HB0 _) h0,cell_below (uh HB0 _) hc1,cell_below (uh HB0 _) hbx⟩ (fun hHeld=>?_)
  clear hK K
  have hcc2:=cell_below (uh HB0 (.cells #[.int .i64 fn,.int .i64 0,.int .i64 i] 42)) hc
  refine wpAnyH_ready (rs:=[17]) (by kernel_rfl) (by simp) ?_
  refine AllReadyH.cons rfl (fun K hK=>?_) AllReadyH.nil
  go_simp
  refine hK.out _ _ hHeld (fun hHeld=>?_)
  clear hK K hcc2
  refine wpAnyH_ready (rs:=[23]) (by kernel_rfl) (by simp) ?_
  refine AllReadyH.cons rfl (fun K hK=>?_) AllReadyH.nil
  refine step_append_lies _ (by rfl) _ _ _ (by rfl) B 42 i0 _ 3 24 Tryz.underlying35 (uh II).1 (uh II).2.1 (uh II).2.2.1 (uh II).2.2.2 rfl (by omega) (.slice a n cap) n (frCells (s.tasks s.cur).reverse) (by rfl) (((uh HO).alloc _).drew)
   ⟨w1.heap.size,0,none⟩ 1 1 [.int .i64 fn,.int .i64 0,.int .i64 i] (by rfl) (by rfl) (World.news_of_block (cs:=#[.int .i64 fn,.int .i64 0,.int .i64 i]) (t:=42) (fr:=(0,0)) (heap_alloc_new w1 _)) (by simp [Value.oneCell'])
   (by omega) (by unfold maxLen;omega) (by omega) (by simp;omega) (w1.heap.size + 1) (by simp) ?_
  intro g cap' w2 hown1 hgrow hat hlt
  have hx:w2.cell? ⟨bt,c,none⟩=some (.slice a n cap):=by
   rw [hgrow.cell_far _ (by simp;omega) (Ne.symm (uh NT))];exact cell_below (uh HB0 _) hc
  have hx2:w2.frozen? ⟨bt,c,none⟩=false:=by
   rw [hgrow.frozen_far _ (by simp;omega) (Ne.symm (uh NT)),(uh HB0 _).frozen hw3];exact hfz
  have hx3:w2.cell? ⟨ps,0,none⟩=some (.slice (some ⟨bt,0,none⟩) 101 101):=by
   rw [hgrow.cell_far _ (by simp;omega) (Ne.symm (uh NP))];exact hHeld.1
  have hx4:w2.cell? ⟨ps,1,none⟩=some (.int .i64 c):=by
   rw [hgrow.cell_far _ (by simp;omega) (Ne.symm (uh NP))];exact hHeld.2.1
  have hx5:w2.cell? ⟨w.heap.size,2,none⟩=some (.int .i64 fn):=by
   rw [hgrow.cell_far _ (by simp;omega) (uh NM)];exact hHeld.2.2
  have HG:=hide hgrow
  have HW:=hide hown1
  have HA:=hide hat
  refine hK.out _ _ ⟨hx3,hx4,hx5⟩ (fun hHeld=>?_)
  clear hK K hown1 hgrow hat
  simp only [Act.put,sx1,sx4,sx5,sx6,sx2,sx3]
  refine tka 24 55 ?hy24b (by assumption) ?r24b (v:=?v24b)
  case hy24b=>intro wx hSw;go_simp;with_reducible rfl
  simp only [Act.put,sx1,sx2,sx3]
  refine wpAnyH_ready (rs:=[25]) (by kernel_rfl) (by simp) ?_
  refine AllReadyH.cons rfl (fun K hK=>?_) AllReadyH.nil
  go_simp
  refine hK.out _ _ ⟨cell_set_ne (uh NE).1 hx3,cell_set_ne (uh NE).1 hx4,cell_set_ne (uh NE).2 hx5⟩ (fun hHeld=>?_)
  clear hK K
  refine wpAnyH_done (by kernel_rfl) ?_ _
  go_wp2
  go_ret
  refine ⟨by rw [(uh E3).1];rfl,fun _=>?_,?_,?_⟩
  ·rw [(uh E3).2]
   have e:=uh HCC
   subst e
   refine ⟨bt,_,SpecCore.putRow (l:=⟨fn,0,i⟩ :: s.tasks s.cur) (g:=g) ((uh HC).grown (uh HB0 _)) (by rw [uh HV];exact uh HG) ?_ rfl ?_ (by simp only [List.length_cons];rw [← uh HN];omega)⟩
   ·rw [List.length_cons,← uh HN,List.reverse_cons,frCells_app]
    exact uh HW
   ·rw [uh HV]
    rcases uh HA with h | h
    ·exact .inl h
    ·right;simp;omega
  ·refine Below.setCell ?_ hbt _
   refine Below.grown ((((uh HB1).mono hB).alloc (by omega) _).drew) (uh HG) (by simp;omega) (fun k hk=>((uh HO).lt k hk).1)
  ·refine Keeps.of_out (fun b=>b=bt∨(V s.cur).ownBlock=some b) (fun b hb hx=>?_) (fun b hx=>?_)
   ·rw [Below.heap_setCell _ _ _ _ (fun e=>hx (.inl e)),(uh HG).block b (by have:=(uh HB1).size;simp;omega) (fun e=>hx (.inr (by rw [uh HV];exact e.symm)))]
    exact (((uh HB1).alloc (uh HB1).size _).drew).block b hb
   ·rcases hx with rfl | hx
    ·exact .inr (.inr (uh KT).1)
    ·exact .inr (.inl ((uh KT).2 s.cur (uh HC).cur b hx))
end Go.Proofs.YtmnmeaeicjhkhaaGreatDoor
namespace Go.Proofs.YtmnmeaeicjhkhaaGreatDoor
open Go.RowKit
theorem move_fn (B ps:Nat) (s:St) (k t fn l i:Int) (tx:ByteArray) (v:Value) (w:World) (h:SpecAt B w ps s) (ht:t=s.cur) (hk7:(k == 7)=false) (hk2:(k == 2)=false) (hf:(fn != topFn (s.tasks s.cur))=true) :
  Calls Tryz.prog 57 #[.pointer (some ⟨ps,0,none⟩),.agg #[.int .i64 k,.int .i64 t,.int .i64 fn,.int .i64 l,.string tx,v],.int .i64 i] w (Moved B w ps s k t fn l i):=by
 subst ht
 have H:=hide h
 have hB:=h.base
 obtain ⟨bt,V,hh⟩:=h
 have HH:=hide hh
 have hp:=hh.hp
 have h0:=hh.c0
 have hc1:=hh.c1
 have hi2:=hh.cur
 have hi4:=hh.len _ hi2
 have HL:=hide ((hh.own _ hi2).lt)
 have NE:Hid (bt ≠ ps∧bt ≠ w.heap.size):=⟨Ne.symm hh.ne,by have:=hh.row.lt;omega⟩
 have hbt:=hh.hbt
 clear hh
 have hz:=cell_lt h0
 simp only at hz
 have n7:k ≠ 7:=by simpa using hk7
 have n2:k ≠ 2:=by simpa using hk2
 have E3:Hid (code s k (s.cur:Int) fn=4):=by
  have:fn ≠ topFn (s.tasks s.cur):=by simpa using hf
  exact hide (by simp [code,n7,n2,this])
 clear n7 n2
 have hne:ps ≠ w.heap.size:=by omega
 go_enter Tryz.func57,Tryz.ntmps57
 go_wp2
 go_quiet (fail)
 go_wp2_with fail
 refine (top_any B ps s _ ((uh H).below (by exact below_drewN ((Below.refl _ _).alloc (Nat.le_refl _) _) _))).mono ?_
 rintro e w1 ⟨rfl,q,hq⟩
 have hbx0:w1.cell? ⟨w.heap.size,0,none⟩=some (.int .i64 k):=by rw [hq];simp
 have hbx2:w1.cell? ⟨w.heap.size,2,none⟩=some (.int .i64 fn):=by rw [hq];simp
 have hbx3:w1.cell? ⟨w.heap.size,3,none⟩=some (.int .i64 l):=by rw [hq];simp
 have HB1:Hid (Below w.heap.size w w1):=by rw [hq];exact hide (below_drewN (below_drewN ((Below.refl _ _).alloc (Nat.le_refl _) _) _) _)
 clear hq h0 hc1
 have HF:Hid (∀ m,Calls Tryz.prog 84 #[.pointer (some ⟨ps,0,none⟩)] (w1.drewN m) fun e w'=>e=.returned (.int .i64 (topFn (s.tasks s.cur)))∧∃ q',w'=(w1.drewN m).drewN q') :=
  hide fun m=>fn_any B ps s _ (((uh H).below (uh HB1)).below (below_drewN' w1 m))
 have HC:=hide ((uh HH).grown (uh HB1))
 have h0:=(uh HC).c0
 have hc1:=(uh HC).c1
 have hw1:=cell_lt hbx2
 simp only at hw1
 go_wp2_with fail
 go_quiet ((go_at_call 84;exact Calls.quiet_of (uh HF _)))
 go_wp2
 go_ret
 refine ⟨by rw [uh E3];rfl,fun h=>?_,?_,?_⟩
 ·rw [uh E3] at h;cases h
 ·exact below_drewN ((uh HB1).mono hB) _
 ·exact Keeps.of_below (below_drewN (uh HB1) _)
theorem move_none (B ps:Nat) (s:St) (k t fn l i:Int) (tx:ByteArray) (v:Value) (w:World) (h:SpecAt B w ps s) (ht:t=s.cur) (hk7:(k == 7)=false) (hk2:(k == 2)=false) (hf:(fn != topFn (s.tasks s.cur))=false) (hk1:(k == 1)=false) (hk3:(k == 3)=false) :
  Calls Tryz.prog 57 #[.pointer (some ⟨ps,0,none⟩),.agg #[.int .i64 k,.int .i64 t,.int .i64 fn,.int .i64 l,.string tx,v],.int .i64 i] w (Moved B w ps s k t fn l i):=by
 subst ht
 have H:=hide h
 have hB:=h.base
 obtain ⟨bt,V,hh⟩:=h
 have HH:=hide hh
 have hp:=hh.hp
 have h0:=hh.c0
 have hc1:=hh.c1
 have hi2:=hh.cur
 have hi4:=hh.len _ hi2
 have HL:=hide ((hh.own _ hi2).lt)
 have NE:Hid (bt ≠ ps∧bt ≠ w.heap.size):=⟨Ne.symm hh.ne,by have:=hh.row.lt;omega⟩
 have hbt:=hh.hbt
 clear hh
 have hz:=cell_lt h0
 simp only at hz
 have n7:k ≠ 7:=by simpa using hk7
 have n2:k ≠ 2:=by simpa using hk2
 have E3:Hid (code s k (s.cur:Int) fn=0∧s.step k (s.cur:Int) fn l i=s):=by
  have n1:k ≠ 1:=by simpa using hk1
  have n3:k ≠ 3:=by simpa using hk3
  have:fn=topFn (s.tasks s.cur):=by simpa using hf
  refine hide ⟨?_,?_⟩
  ·simp [code,n7,n2,n1,n3,this]
  ·simp [St.step,n7,n2,n1,n3]
 clear n7 n2
 have hne:ps ≠ w.heap.size:=by omega
 go_enter Tryz.func57,Tryz.ntmps57
 go_wp2
 go_quiet (fail)
 go_wp2_with fail
 refine (top_any B ps s _ ((uh H).below (by exact below_drewN ((Below.refl _ _).alloc (Nat.le_refl _) _) _))).mono ?_
 rintro e w1 ⟨rfl,q,hq⟩
 have hbx0:w1.cell? ⟨w.heap.size,0,none⟩=some (.int .i64 k):=by rw [hq];simp
 have hbx2:w1.cell? ⟨w.heap.size,2,none⟩=some (.int .i64 fn):=by rw [hq];simp
 have hbx3:w1.cell? ⟨w.heap.size,3,none⟩=some (.int .i64 l):=by rw [hq];simp
 have HB1:Hid (Below w.heap.size w w1):=by rw [hq];exact hide (below_drewN (below_drewN ((Below.refl _ _).alloc (Nat.le_refl _) _) _) _)
 clear hq h0 hc1
 have HF:Hid (∀ m,Calls Tryz.prog 84 #[.pointer (some ⟨ps,0,none⟩)] (w1.drewN m) fun e w'=>e=.returned (.int .i64 (topFn (s.tasks s.cur)))∧∃ q',w'=(w1.drewN m).drewN q') :=
  hide fun m=>fn_any B ps s _ (((uh H).below (uh HB1)).below (below_drewN' w1 m))
 have HC:=hide ((uh HH).grown (uh HB1))
 have h0:=(uh HC).c0
 have hc1:=(uh HC).c1
 have hw1:=cell_lt hbx2
 simp only at hw1
 go_wp2_with fail
 go_quiet ((go_at_call 84;exact Calls.quiet_of (uh HF _)))
 go_wp2
 go_ret
 refine ⟨by rw [(uh E3).1];rfl,fun _=>?_,?_,?_⟩
 ·rw [(uh E3).2]
  exact ⟨bt,V,(uh HC).grown (below_drewN' _ _)⟩
 ·exact below_drewN ((uh HB1).mono hB) _
 ·exact Keeps.of_below (below_drewN (uh HB1) _)
theorem move_line0 (B ps:Nat) (s:St) (k t fn l i:Int) (tx:ByteArray) (v:Value) (w:World) (h:SpecAt B w ps s) (ht:t=s.cur) (hk7:(k == 7)=false) (hk2:(k == 2)=false) (hf:(fn != topFn (s.tasks s.cur))=false) (hk1:(k == 1)=true) (hl:s.tasks s.cur=[]) :
  Calls Tryz.prog 57 #[.pointer (some ⟨ps,0,none⟩),.agg #[.int .i64 k,.int .i64 t,.int .i64 fn,.int .i64 l,.string tx,v],.int .i64 i] w (Moved B w ps s k t fn l i):=by
 subst ht
 have H:=hide h
 have hB:=h.base
 obtain ⟨bt,V,hh⟩:=h
 have HH:=hide hh
 have hp:=hh.hp
 have h0:=hh.c0
 have hc1:=hh.c1
 have hi2:=hh.cur
 have hi4:=hh.len _ hi2
 have HL:=hide ((hh.own _ hi2).lt)
 have NE:Hid (bt ≠ ps∧bt ≠ w.heap.size):=⟨Ne.symm hh.ne,by have:=hh.row.lt;omega⟩
 have hbt:=hh.hbt
 clear hh
 have hz:=cell_lt h0
 simp only at hz
 have n7:k ≠ 7:=by simpa using hk7
 have n2:k ≠ 2:=by simpa using hk2
 have E3:Hid (code s k (s.cur:Int) fn=4):=by
  have n1:k=1:=by simpa using hk1
  have:fn=topFn (s.tasks s.cur):=by simpa using hf
  refine hide ?_
  simp [code,n1,this,hl]
 have E4:Hid ((s.tasks s.cur).length=0):=by rw [hl];exact hide rfl
 clear hl
 clear n7 n2
 have hne:ps ≠ w.heap.size:=by omega
 go_enter Tryz.func57,Tryz.ntmps57
 go_wp2
 go_quiet (fail)
 go_wp2_with fail
 refine (top_any B ps s _ ((uh H).below (by exact below_drewN ((Below.refl _ _).alloc (Nat.le_refl _) _) _))).mono ?_
 rintro e w1 ⟨rfl,q,hq⟩
 have hbx0:w1.cell? ⟨w.heap.size,0,none⟩=some (.int .i64 k):=by rw [hq];simp
 have hbx2:w1.cell? ⟨w.heap.size,2,none⟩=some (.int .i64 fn):=by rw [hq];simp
 have hbx3:w1.cell? ⟨w.heap.size,3,none⟩=some (.int .i64 l):=by rw [hq];simp
 have HB1:Hid (Below w.heap.size w w1):=by rw [hq];exact hide (below_drewN (below_drewN ((Below.refl _ _).alloc (Nat.le_refl _) _) _) _)
 clear hq h0 hc1
 have HF:Hid (∀ m,Calls Tryz.prog 84 #[.pointer (some ⟨ps,0,none⟩)] (w1.drewN m) fun e w'=>e=.returned (.int .i64 (topFn (s.tasks s.cur)))∧∃ q',w'=(w1.drewN m).drewN q') :=
  hide fun m=>fn_any B ps s _ (((uh H).below (uh HB1)).below (below_drewN' w1 m))
 have HC:=hide ((uh HH).grown (uh HB1))
 have h0:=(uh HC).c0
 have hc1:=(uh HC).c1
 have hw1:=cell_lt hbx2
 simp only at hw1
 go_wp2_with fail
 go_quiet ((go_at_call 84;exact Calls.quiet_of (uh HF _)))
 rw [uh E4]
 go_wp2
 go_ret
 refine ⟨by rw [uh E3];rfl,fun h=>?_,?_,?_⟩
 ·rw [uh E3] at h;cases h
 ·exact below_drewN ((uh HB1).mono hB) _
 ·exact Keeps.of_below (below_drewN (uh HB1) _)
end Go.Proofs.YtmnmeaeicjhkhaaGreatDoor
namespace Go.Proofs.YtmnmeaeicjhkhaaGreatDoor
open Go.RowKit
attribute [local go_sem ↓] Go.wp_at_zero Go.wp_at_succ
theorem cell_set_drew {w:World} {p q:Addr} {v u:Value} (hne:q.block ≠ p.block) (h:w.cell? p=some v):(w.setCell q u).drew.cell? p=some v:=cell_set_ne hne h
theorem owns_set {w:World} {B:Nat} {e:TypeId} {z g n cap:Nat} {xs:List Value} (h:w.ownsRow B e z (.slice (some ⟨g,0,none⟩) n cap) n xs) (j:Nat) (u:Value) :
  (w.setCell ⟨g,j,none⟩ u).ownsRow B e z (.slice (some ⟨g,0,none⟩) n cap) n (xs.set j u):=by
 refine ⟨by rw [List.length_set];exact h.1,?_⟩
 rcases h.2 with ⟨h,_⟩ | ⟨g',cap',cur,hv,hB,hg,h1,h2,h3,h4⟩
 ·cases h
 ·cases hv
  refine .inr ⟨g,cap,cur.setIfInBounds j u,rfl,hB,?_,h1,h2,by simpa using h3,?_⟩
  ·simp [World.setCell,Array.getElem?_modify,hg]
  ·rw [← h4,Array.toList_setIfInBounds,List.take_set]
theorem SpecCore.putLine {B:Nat} {w:World} {ps bt:Nat} {V:Nat→Value} {s:St} {f:Fr} {r:List Fr} {g cap:Nat} (h:SpecCore B w ps bt V s) (hs:s.tasks s.cur=f :: r) (hV:V s.cur=.slice (some ⟨g,0,none⟩) (r.length + 1) cap) (l:Int) :
  SpecCore B (w.setCell ⟨g,r.length * 3 + 1,none⟩ (.int .i64 l)) ps bt V (s.put (⟨f.fn,l,f.frm⟩ :: r)):=by
 have hob:(V s.cur).ownBlock=some g:=by rw [hV];rfl
 have hgp:g ≠ ps:=fun e=>h.nps _ h.cur (by rw [hob,e])
 have hgt:g ≠ bt:=fun e=>h.nbt _ h.cur (by rw [hob,e])
 refine ⟨h.hp,h.hbt,h.ne,cell_set_ne hgp h.c0,cell_set_ne hgp h.c1,by rw [World.frozen?_setCell];exact h.fz,h.row.setOther (fun e=>hgt e.symm) _,fun t ht=>?_,h.nps,h.nbt,h.dis,h.cur,fun t ht=>?_⟩
 ·show (w.setCell _ _).ownsRow B _ 3 (V t) (if t=s.cur then ⟨f.fn,l,f.frm⟩ :: r else s.tasks t).length (frCells (if t=s.cur then ⟨f.fn,l,f.frm⟩ :: r else s.tasks t).reverse)
  by_cases e:t=s.cur
  ·rw [if_pos e,e,hV]
   have ho:=h.own s.cur h.cur
   rw [hV,hs] at ho
   have h1:=owns_set ho (r.length * 3 + 1) (.int .i64 l)
   have e1:frCells (f :: r).reverse=frCells r.reverse ++ [.int .i64 f.fn,.int .i64 f.line,.int .i64 f.frm]:=by rw [List.reverse_cons,frCells_app];rfl
   have e2:frCells ((⟨f.fn,l,f.frm⟩:Fr) :: r).reverse=frCells r.reverse ++ [.int .i64 f.fn,.int .i64 l,.int .i64 f.frm]:=by rw [List.reverse_cons,frCells_app];rfl
   have hl:(frCells r.reverse).length=r.length * 3:=by rw [frCells_len,List.length_reverse]
   rw [e1,List.set_append_right _ _ (by omega),hl,show r.length * 3 + 1 - r.length * 3=1 by omega] at h1
   rw [e2]
   exact h1
  ·rw [if_neg e]
   refine owns_setCell (h.own t ht) (fun e'=>?_)
   rcases h.dis t s.cur ht h.cur e with h3 | h3
   ·rw [h3] at e';cases e'
   ·exact h3 (by rw [e',hob])
 ·show (if t=s.cur then ⟨f.fn,l,f.frm⟩ :: r else s.tasks t).length≤200
  by_cases e:t=s.cur
  ·rw [if_pos e]
   have:=h.len s.cur h.cur
   rw [hs] at this
   exact this
  ·rw [if_neg e];exact h.len t ht
theorem move_line1 (B ps:Nat) (s:St) (k t fn l i:Int) (tx:ByteArray) (v:Value) (w:World) (h:SpecAt B w ps s) (ht:t=s.cur) (hk7:(k == 7)=false) (hk2:(k == 2)=false) (f:Fr) (r:List Fr) (hf:(fn != topFn (s.tasks s.cur))=false) (hk1:(k == 1)=true) (hs:s.tasks s.cur=f :: r) :
  Calls Tryz.prog 57 #[.pointer (some ⟨ps,0,none⟩),.agg #[.int .i64 k,.int .i64 t,.int .i64 fn,.int .i64 l,.string tx,v],.int .i64 i] w (Moved B w ps s k t fn l i):=by
 subst ht
 have H:=hide h
 have hB:=h.base
 obtain ⟨bt,V,hh⟩:=h
 have KT:=hide hh.kinds
 have HH:=hide hh
 have hp:=hh.hp
 have h0:=hh.c0
 have hc1:=hh.c1
 have hi2:=hh.cur
 have hi4:=hh.len _ hi2
 have HL:=hide ((hh.own _ hi2).lt)
 have NE:Hid (bt ≠ ps∧bt ≠ w.heap.size):=⟨Ne.symm hh.ne,by have:=hh.row.lt;omega⟩
 have hbt:=hh.hbt
 clear hh
 have hz:=cell_lt h0
 simp only at hz
 have n7:k ≠ 7:=by simpa using hk7
 have n2:k ≠ 2:=by simpa using hk2
 have E3:Hid (code s k (s.cur:Int) fn=0∧s.step k (s.cur:Int) fn l i=s.put (⟨f.fn,l,f.frm⟩ :: r)):=by
  have n1:k=1:=by simpa using hk1
  have:fn=topFn (s.tasks s.cur):=by simpa using hf
  refine hide ⟨?_,?_⟩
  ·simp [code,n1,this,hs]
  ·simp [St.step,n1,hs,setLine]
 clear n7 n2
 have hne:ps ≠ w.heap.size:=by omega
 go_enter Tryz.func57,Tryz.ntmps57
 go_wp2
 go_quiet (fail)
 go_wp2_with fail
 refine (top_any B ps s _ ((uh H).below (by exact below_drewN ((Below.refl _ _).alloc (Nat.le_refl _) _) _))).mono ?_
 rintro e w1 ⟨rfl,q,hq⟩
 have hbx0:w1.cell? ⟨w.heap.size,0,none⟩=some (.int .i64 k):=by rw [hq];simp
 have hbx2:w1.cell? ⟨w.heap.size,2,none⟩=some (.int .i64 fn):=by rw [hq];simp
 have hbx3:w1.cell? ⟨w.heap.size,3,none⟩=some (.int .i64 l):=by rw [hq];simp
 have HB1:Hid (Below w.heap.size w w1):=by rw [hq];exact hide (below_drewN (below_drewN ((Below.refl _ _).alloc (Nat.le_refl _) _) _) _)
 clear hq h0 hc1
 have HF:Hid (∀ m,Calls Tryz.prog 84 #[.pointer (some ⟨ps,0,none⟩)] (w1.drewN m) fun e w'=>e=.returned (.int .i64 (topFn (s.tasks s.cur)))∧∃ q',w'=(w1.drewN m).drewN q') :=
  hide fun m=>fn_any B ps s _ (((uh H).below (uh HB1)).below (below_drewN' w1 m))
 have HC:=hide ((uh HH).grown (uh HB1))
 have h0:=(uh HC).c0
 have hc1:=(uh HC).c1
 have ho:=(uh HC).own _ hi2
 rw [hs] at ho
 obtain ⟨g,cap,hV,hgB,hgl,k0,k1,k2,kf⟩:=owns_top ho
 have HCA:=hide ho
 have hgp:g ≠ ps:=fun e=>(uh HC).nps _ hi2 (by rw [hV,e];rfl)
 have hgt:g ≠ bt:=fun e=>(uh HC).nbt _ hi2 (by rw [hV,e];rfl)
 have hgm:g ≠ w.heap.size:=fun e=>by have:=(uh HL g (by rw [hV];rfl)).2;omega
 have hc:=(uh HC).row.cell hi2
 have hrf:=(uh HC).row.frozen s.cur
 rw [hV] at hc
 have hlen:(((s.tasks s.cur).length:Nat):Int) - 1=(r.length:Int):=by rw [hs];simp
 have hr200:r.length < 200:=by rw [hs] at hi4;simp at hi4;omega
 have hw1:=cell_lt hbx2
 simp only at hw1
 rw [hlen]
 have HLEN:=hide hlen;clear hlen
 have HV:=hide hV;clear hV
 have HS:=hide hs;clear hs ho
 have NG:=hide (And.intro hgp (And.intro hgt hgm));clear hgp hgt hgm
 obtain ⟨n,hn⟩:∃ n,n=r.length:=⟨_,rfl⟩
 obtain ⟨c,hcc⟩:∃ c,c=s.cur:=⟨_,rfl⟩
 rw [← hn] at k0 k1 k2 kf hc hr200
 rw [← hn]
 rw [← hcc] at hi2 hc1 hc hrf
 have HN:=hide hn;clear hn
 have HCC:=hide hcc;clear hcc
 clear hi4
 go_wp2_with fail
 go_quiet ((go_at_call 84;exact Calls.quiet_of (uh HF _)))
 generalize hw2:w1.drewN _=w2
 have HB2:Hid (Below w1.heap.size w1 w2):=by rw [← hw2];exact hide (below_drewN' _ _)
 have HC2:=hide ((uh HC).grown (uh HB2))
 have h0:=cell_below (uh HB2) h0
 have hc1:=cell_below (uh HB2) hc1
 have hbx0:=cell_below (uh HB2) hbx0
 have hbx3:=cell_below (uh HB2) hbx3
 have hcOld:=hc
 have hc:=cell_below (uh HB2) hc
 have kf':w2.frozen? ⟨g,n * 3 + 1,none⟩=false:=by rw [(uh HB2).frozen (cell_lt k1)];exact kf
 have hrf':w2.frozen? ⟨bt,c,none⟩=false:=by rw [(uh HB2).frozen (cell_lt hcOld)];exact hrf
 have k1:=cell_below (uh HB2) k1
 have k2:=cell_below (uh HB2) k2
 clear hw2 HF hrf kf
 have hj1:(0:Int)≤(c:Int):=by omega
 have hj2:(c:Int) < 101:=by omega
 have hj3:(0:Int)≤(n:Int):=by omega
 have hj4:(n:Int) < (n:Int) + 1:=by omega
 go_wp2_with fail
 go_region_held3 (fun w'=>w'.cell? ⟨ps,0,none⟩=some (.slice (some ⟨bt,0,none⟩) 101 101)∧w'.cell? ⟨ps,1,none⟩=some (.int .i64 c)∧w'.cell? ⟨bt,c,none⟩=some (.slice (some ⟨g,0,none⟩) (n + 1) cap)∧w'.cell? ⟨w.heap.size,3,none⟩=some (.int .i64 l))
  (first | (exact ⟨h0,hc1,hc,hbx3⟩) | (exact ⟨cell_set_drew (uh NG).1 h0,cell_set_drew (uh NG).1 hc1,cell_set_drew (uh NG).2.1 hc,cell_set_drew (uh NG).2.2 hbx3⟩)) (fail)
 go_wp2
 go_ret
 refine ⟨by rw [(uh E3).1];rfl,fun _=>?_,?_,?_⟩
 ·rw [(uh E3).2]
  have e:=uh HN
  subst e
  exact ⟨bt,V,((uh HC2).putLine (uh HS) (uh HV) l).grown (Below.refl _ _).drew⟩
 ·exact ((((uh HB1).mono hB).trans ((uh HB2).mono (by omega))).setCell (p:=⟨g,n * 3 + 1,none⟩) hgB _).drew
 ·refine Keeps.drew (Keeps.of_out (fun b=>b=g) (fun b hb hx=>?_) (fun b hx=>.inr (.inl ((uh KT).2 s.cur (uh HC2).cur b (by rw [uh HV,hx];rfl)))))
  rw [Below.heap_setCell _ _ _ _ hx]
  exact ((uh HB1).trans ((uh HB2).mono (uh HB1).size)).block b hb
theorem move_back0 (B ps:Nat) (s:St) (k t fn l i:Int) (tx:ByteArray) (v:Value) (w:World) (h:SpecAt B w ps s) (ht:t=s.cur) (hk7:(k == 7)=false) (hk2:(k == 2)=false) (hf:(fn != topFn (s.tasks s.cur))=false) (hk3:(k == 3)=true) (hl:s.tasks s.cur=[]) :
  Calls Tryz.prog 57 #[.pointer (some ⟨ps,0,none⟩),.agg #[.int .i64 k,.int .i64 t,.int .i64 fn,.int .i64 l,.string tx,v],.int .i64 i] w (Moved B w ps s k t fn l i):=by
 subst ht
 have H:=hide h
 have hB:=h.base
 obtain ⟨bt,V,hh⟩:=h
 have HH:=hide hh
 have hp:=hh.hp
 have h0:=hh.c0
 have hc1:=hh.c1
 have hi2:=hh.cur
 have hi4:=hh.len _ hi2
 have HL:=hide ((hh.own _ hi2).lt)
 have NE:Hid (bt ≠ ps∧bt ≠ w.heap.size):=⟨Ne.symm hh.ne,by have:=hh.row.lt;omega⟩
 have hbt:=hh.hbt
 clear hh
 have hz:=cell_lt h0
 simp only at hz
 have n7:k ≠ 7:=by simpa using hk7
 have n2:k ≠ 2:=by simpa using hk2
 have E3:Hid (code s k (s.cur:Int) fn=4):=by
  have n3:k=3:=by simpa using hk3
  have:fn=topFn (s.tasks s.cur):=by simpa using hf
  refine hide ?_
  simp [code,n3,this,hl,topFrom]
 have E4:Hid ((s.tasks s.cur).length=0):=by rw [hl];exact hide rfl
 clear hl
 have hk1:(k == 1)=false:=by have:k=3:=by simpa using hk3
                             rw [this];rfl
 clear n7 n2
 have hne:ps ≠ w.heap.size:=by omega
 go_enter Tryz.func57,Tryz.ntmps57
 go_wp2
 go_quiet (fail)
 go_wp2_with fail
 refine (top_any B ps s _ ((uh H).below (by exact below_drewN ((Below.refl _ _).alloc (Nat.le_refl _) _) _))).mono ?_
 rintro e w1 ⟨rfl,q,hq⟩
 have hbx0:w1.cell? ⟨w.heap.size,0,none⟩=some (.int .i64 k):=by rw [hq];simp
 have hbx2:w1.cell? ⟨w.heap.size,2,none⟩=some (.int .i64 fn):=by rw [hq];simp
 have hbx3:w1.cell? ⟨w.heap.size,3,none⟩=some (.int .i64 l):=by rw [hq];simp
 have HB1:Hid (Below w.heap.size w w1):=by rw [hq];exact hide (below_drewN (below_drewN ((Below.refl _ _).alloc (Nat.le_refl _) _) _) _)
 clear hq h0 hc1
 have HF:Hid (∀ m,Calls Tryz.prog 84 #[.pointer (some ⟨ps,0,none⟩)] (w1.drewN m) fun e w'=>e=.returned (.int .i64 (topFn (s.tasks s.cur)))∧∃ q',w'=(w1.drewN m).drewN q') :=
  hide fun m=>fn_any B ps s _ (((uh H).below (uh HB1)).below (below_drewN' w1 m))
 have HC:=hide ((uh HH).grown (uh HB1))
 have h0:=(uh HC).c0
 have hc1:=(uh HC).c1
 have hw1:=cell_lt hbx2
 simp only at hw1
 go_wp2_with fail
 go_quiet ((go_at_call 84;exact Calls.quiet_of (uh HF _)))
 rw [uh E4]
 go_wp2
 go_quiet (fail)
 go_wp2
 go_ret
 refine ⟨by rw [uh E3];rfl,fun h=>?_,?_,?_⟩
 ·rw [uh E3] at h;cases h
 ·exact below_drewN (below_drewN ((uh HB1).mono hB) _) _
 ·exact Keeps.of_below (below_drewN (below_drewN (uh HB1) _) _)
theorem move_back1 (B ps:Nat) (s:St) (k t fn l i:Int) (tx:ByteArray) (v:Value) (w:World) (h:SpecAt B w ps s) (ht:t=s.cur) (hk7:(k == 7)=false) (hk2:(k == 2)=false) (f:Fr) (r:List Fr) (hf:(fn != topFn (s.tasks s.cur))=false) (hk3:(k == 3)=true) (hs:s.tasks s.cur=f :: r) (hfr:decide (f.frm < 0)=true) :
  Calls Tryz.prog 57 #[.pointer (some ⟨ps,0,none⟩),.agg #[.int .i64 k,.int .i64 t,.int .i64 fn,.int .i64 l,.string tx,v],.int .i64 i] w (Moved B w ps s k t fn l i):=by
 subst ht
 have H:=hide h
 have hB:=h.base
 obtain ⟨bt,V,hh⟩:=h
 have HH:=hide hh
 have hp:=hh.hp
 have h0:=hh.c0
 have hc1:=hh.c1
 have hi2:=hh.cur
 have hi4:=hh.len _ hi2
 have HL:=hide ((hh.own _ hi2).lt)
 have NE:Hid (bt ≠ ps∧bt ≠ w.heap.size):=⟨Ne.symm hh.ne,by have:=hh.row.lt;omega⟩
 have hbt:=hh.hbt
 clear hh
 have hz:=cell_lt h0
 simp only at hz
 have n7:k ≠ 7:=by simpa using hk7
 have n2:k ≠ 2:=by simpa using hk2
 have E3:Hid (code s k (s.cur:Int) fn=4):=by
  have n3:k=3:=by simpa using hk3
  have:fn=topFn (s.tasks s.cur):=by simpa using hf
  refine hide ?_
  simp [code,n3,this,hs,topFrom]
  simpa using hfr
 have hk1:(k == 1)=false:=by have:k=3:=by simpa using hk3
                             rw [this];rfl
 clear n7 n2
 have hne:ps ≠ w.heap.size:=by omega
 go_enter Tryz.func57,Tryz.ntmps57
 go_wp2
 go_quiet (fail)
 go_wp2_with fail
 refine (top_any B ps s _ ((uh H).below (by exact below_drewN ((Below.refl _ _).alloc (Nat.le_refl _) _) _))).mono ?_
 rintro e w1 ⟨rfl,q,hq⟩
 have hbx0:w1.cell? ⟨w.heap.size,0,none⟩=some (.int .i64 k):=by rw [hq];simp
 have hbx2:w1.cell? ⟨w.heap.size,2,none⟩=some (.int .i64 fn):=by rw [hq];simp
 have hbx3:w1.cell? ⟨w.heap.size,3,none⟩=some (.int .i64 l):=by rw [hq];simp
 have HB1:Hid (Below w.heap.size w w1):=by rw [hq];exact hide (below_drewN (below_drewN ((Below.refl _ _).alloc (Nat.le_refl _) _) _) _)
 clear hq h0 hc1
 have HF:Hid (∀ m,Calls Tryz.prog 84 #[.pointer (some ⟨ps,0,none⟩)] (w1.drewN m) fun e w'=>e=.returned (.int .i64 (topFn (s.tasks s.cur)))∧∃ q',w'=(w1.drewN m).drewN q') :=
  hide fun m=>fn_any B ps s _ (((uh H).below (uh HB1)).below (below_drewN' w1 m))
 have HC:=hide ((uh HH).grown (uh HB1))
 have h0:=(uh HC).c0
 have hc1:=(uh HC).c1
 have ho:=(uh HC).own _ hi2
 rw [hs] at ho
 obtain ⟨g,cap,hV,hgB,hgl,k0,k1,k2,kf⟩:=owns_top ho
 have HCA:=hide ho
 have hgp:g ≠ ps:=fun e=>(uh HC).nps _ hi2 (by rw [hV,e];rfl)
 have hgt:g ≠ bt:=fun e=>(uh HC).nbt _ hi2 (by rw [hV,e];rfl)
 have hgm:g ≠ w.heap.size:=fun e=>by have:=(uh HL g (by rw [hV];rfl)).2;omega
 have hc:=(uh HC).row.cell hi2
 have hrf:=(uh HC).row.frozen s.cur
 rw [hV] at hc
 have hlen:(((s.tasks s.cur).length:Nat):Int) - 1=(r.length:Int):=by rw [hs];simp
 have hr200:r.length < 200:=by rw [hs] at hi4;simp at hi4;omega
 have hw1:=cell_lt hbx2
 simp only at hw1
 rw [hlen]
 have HLEN:=hide hlen;clear hlen
 have HV:=hide hV;clear hV
 have HS:=hide hs;clear hs ho
 have NG:=hide (And.intro hgp (And.intro hgt hgm));clear hgp hgt hgm
 obtain ⟨n,hn⟩:∃ n,n=r.length:=⟨_,rfl⟩
 obtain ⟨c,hcc⟩:∃ c,c=s.cur:=⟨_,rfl⟩
 rw [← hn] at k0 k1 k2 kf hc hr200
 rw [← hn]
 rw [← hcc] at hi2 hc1 hc hrf
 have HN:=hide hn;clear hn
 have HCC:=hide hcc;clear hcc
 clear hi4
 go_wp2_with fail
 go_quiet ((go_at_call 84;exact Calls.quiet_of (uh HF _)))
 generalize hw2:w1.drewN _=w2
 have HB2:Hid (Below w1.heap.size w1 w2):=by rw [← hw2];exact hide (below_drewN' _ _)
 have HC2:=hide ((uh HC).grown (uh HB2))
 have h0:=cell_below (uh HB2) h0
 have hc1:=cell_below (uh HB2) hc1
 have hbx0:=cell_below (uh HB2) hbx0
 have hbx3:=cell_below (uh HB2) hbx3
 have hcOld:=hc
 have hc:=cell_below (uh HB2) hc
 have kf':w2.frozen? ⟨g,n * 3 + 1,none⟩=false:=by rw [(uh HB2).frozen (cell_lt k1)];exact kf
 have hrf':w2.frozen? ⟨bt,c,none⟩=false:=by rw [(uh HB2).frozen (cell_lt hcOld)];exact hrf
 have k1:=cell_below (uh HB2) k1
 have k2:=cell_below (uh HB2) k2
 clear hw2 HF hrf kf
 have hj1:(0:Int)≤(c:Int):=by omega
 have hj2:(c:Int) < 101:=by omega
 have hj3:(0:Int)≤(n:Int):=by omega
 have hj4:(n:Int) < (n:Int) + 1:=by omega
 have hg1:decide ((n:Int) < 0)=false:=by simp
 go_wp2_with fail
 go_quiet (fail)
 go_wp2
 go_ret
 refine ⟨by rw [uh E3];rfl,fun h=>?_,?_,?_⟩
 ·rw [uh E3] at h;cases h
 ·exact below_drewN (((uh HB1).mono hB).trans ((uh HB2).mono (by omega))) _
 ·exact Keeps.of_below (below_drewN ((uh HB1).trans ((uh HB2).mono (uh HB1).size)) _)
end Go.Proofs.YtmnmeaeicjhkhaaGreatDoor
namespace Go.Proofs.YtmnmeaeicjhkhaaGreatDoor
open Go.RowKit
attribute [local go_sem ↓] Go.wp_at_zero Go.wp_at_succ
theorem owns_pop {w:World} {B:Nat} {e:TypeId} {g cap:Nat} {f:Fr} {r:List Fr} (h:w.ownsRow B e 3 (.slice (some ⟨g,0,none⟩) (r.length + 1) cap) (f :: r).length (frCells (f :: r).reverse)) :
  w.ownsRow B e 3 (.slice (some ⟨g,0,none⟩) r.length cap) r.length (frCells r.reverse)∧r.length + 1≤cap:=by
 have hl:(frCells r.reverse).length=r.length * 3:=by rw [frCells_len,List.length_reverse]
 have e1:frCells (f :: r).reverse=frCells r.reverse ++ [.int .i64 f.fn,.int .i64 f.line,.int .i64 f.frm]:=by rw [List.reverse_cons,frCells_app];rfl
 rcases h.2 with ⟨h,_⟩ | ⟨g',cap',cur,hv,-,-,h1,-⟩
 ·cases h
 ·cases hv
  have h':=h
  rw [e1] at h'
  exact ⟨ownsRow_pop hl h',by simpa using h1⟩
theorem move_back2 (B ps:Nat) (s:St) (k t fn l i:Int) (tx:ByteArray) (v:Value) (w:World) (h:SpecAt B w ps s) (ht:t=s.cur) (hk7:(k == 7)=false) (hk2:(k == 2)=false) (f:Fr) (r:List Fr) (hf:(fn != topFn (s.tasks s.cur))=false) (hk3:(k == 3)=true) (hs:s.tasks s.cur=f :: r) (hfr:decide (f.frm < 0)=false) :
  Calls Tryz.prog 57 #[.pointer (some ⟨ps,0,none⟩),.agg #[.int .i64 k,.int .i64 t,.int .i64 fn,.int .i64 l,.string tx,v],.int .i64 i] w (Moved B w ps s k t fn l i):=by
 subst ht
 have H:=hide h
 have hB:=h.base
 obtain ⟨bt,V,hh⟩:=h
 have KT:=hide hh.kinds
 have HH:=hide hh
 have hp:=hh.hp
 have h0:=hh.c0
 have hc1:=hh.c1
 have hi2:=hh.cur
 have hi4:=hh.len _ hi2
 have HL:=hide ((hh.own _ hi2).lt)
 have NE:Hid (bt ≠ ps∧bt ≠ w.heap.size):=⟨Ne.symm hh.ne,by have:=hh.row.lt;omega⟩
 have hbt:=hh.hbt
 clear hh
 have hz:=cell_lt h0
 simp only at hz
 have n7:k ≠ 7:=by simpa using hk7
 have n2:k ≠ 2:=by simpa using hk2
 have E3:Hid (code s k (s.cur:Int) fn=0∧s.step k (s.cur:Int) fn l i=s.put r):=by
  have n3:k=3:=by simpa using hk3
  have:fn=topFn (s.tasks s.cur):=by simpa using hf
  refine hide ⟨?_,?_⟩
  ·simp [code,n3,this,hs,topFrom]
   simpa using hfr
  ·simp [St.step,n3,hs]
 have hk1:(k == 1)=false:=by have:k=3:=by simpa using hk3
                             rw [this];rfl
 clear n7 n2
 have hne:ps ≠ w.heap.size:=by omega
 go_enter Tryz.func57,Tryz.ntmps57
 go_wp2
 go_quiet (fail)
 go_wp2_with fail
 refine (top_any B ps s _ ((uh H).below (by exact below_drewN ((Below.refl _ _).alloc (Nat.le_refl _) _) _))).mono ?_
 rintro e w1 ⟨rfl,q,hq⟩
 have hbx0:w1.cell? ⟨w.heap.size,0,none⟩=some (.int .i64 k):=by rw [hq];simp
 have hbx2:w1.cell? ⟨w.heap.size,2,none⟩=some (.int .i64 fn):=by rw [hq];simp
 have hbx3:w1.cell? ⟨w.heap.size,3,none⟩=some (.int .i64 l):=by rw [hq];simp
 have HB1:Hid (Below w.heap.size w w1):=by rw [hq];exact hide (below_drewN (below_drewN ((Below.refl _ _).alloc (Nat.le_refl _) _) _) _)
 clear hq h0 hc1
 have HF:Hid (∀ m,Calls Tryz.prog 84 #[.pointer (some ⟨ps,0,none⟩)] (w1.drewN m) fun e w'=>e=.returned (.int .i64 (topFn (s.tasks s.cur)))∧∃ q',w'=(w1.drewN m).drewN q') :=
  hide fun m=>fn_any B ps s _ (((uh H).below (uh HB1)).below (below_drewN' w1 m))
 have HC:=hide ((uh HH).grown (uh HB1))
 have h0:=(uh HC).c0
 have hc1:=(uh HC).c1
 have ho:=(uh HC).own _ hi2
 rw [hs] at ho
 obtain ⟨g,cap,hV,hgB,hgl,k0,k1,k2,kf⟩:=owns_top ho
 have HCA:=hide ho
 have hgp:g ≠ ps:=fun e=>(uh HC).nps _ hi2 (by rw [hV,e];rfl)
 have hgt:g ≠ bt:=fun e=>(uh HC).nbt _ hi2 (by rw [hV,e];rfl)
 have hgm:g ≠ w.heap.size:=fun e=>by have:=(uh HL g (by rw [hV];rfl)).2;omega
 have hc:=(uh HC).row.cell hi2
 have hrf:=(uh HC).row.frozen s.cur
 rw [hV] at hc
 have hlen:(((s.tasks s.cur).length:Nat):Int) - 1=(r.length:Int):=by rw [hs];simp
 have hr200:r.length < 200:=by rw [hs] at hi4;simp at hi4;omega
 have hw1:=cell_lt hbx2
 simp only at hw1
 rw [hlen]
 have HLEN:=hide hlen;clear hlen
 have HV:=hide hV;clear hV
 have HS:=hide hs;clear hs ho
 have NG:=hide (And.intro hgp (And.intro hgt hgm));clear hgp hgt hgm
 obtain ⟨n,hn⟩:∃ n,n=r.length:=⟨_,rfl⟩
 obtain ⟨c,hcc⟩:∃ c,c=s.cur:=⟨_,rfl⟩
 rw [← hn] at k0 k1 k2 kf hc hr200
 rw [← hn]
 rw [← hcc] at hi2 hc1 hc hrf
 have HN:=hide hn;clear hn
 have HCC:=hide hcc;clear hcc
 clear hi4
 go_wp2_with fail
 go_quiet ((go_at_call 84;exact Calls.quiet_of (uh HF _)))
 generalize hw2:w1.drewN _=w2
 have HB2:Hid (Below w1.heap.size w1 w2):=by rw [← hw2];exact hide (below_drewN' _ _)
 have HC2:=hide ((uh HC).grown (uh HB2))
 have h0:=cell_below (uh HB2) h0
 have hc1:=cell_below (uh HB2) hc1
 have hbx0:=cell_below (uh HB2) hbx0
 have hbx3:=cell_below (uh HB2) hbx3
 have hcOld:=hc
 have hc:=cell_below (uh HB2) hc
 have kf':w2.frozen? ⟨g,n * 3 + 1,none⟩=false:=by rw [(uh HB2).frozen (cell_lt k1)];exact kf
 have hrf':w2.frozen? ⟨bt,c,none⟩=false:=by rw [(uh HB2).frozen (cell_lt hcOld)];exact hrf
 have k1:=cell_below (uh HB2) k1
 have k2:=cell_below (uh HB2) k2
 clear hw2 HF hrf kf
 have hj1:(0:Int)≤(c:Int):=by omega
 have hj2:(c:Int) < 101:=by omega
 have hj3:(0:Int)≤(n:Int):=by omega
 have hj4:(n:Int) < (n:Int) + 1:=by omega
 have hg1:decide ((n:Int) < 0)=false:=by simp
 have HPOP:Hid (w2.ownsRow B 42 3 (.slice (some ⟨g,0,none⟩) n cap) n (frCells r.reverse)∧n + 1≤cap):=by
  have h1:=(uh HC2).own s.cur (uh HC2).cur
  rw [uh HV,uh HS] at h1
  have e:=uh HN
  subst e
  exact hide (owns_pop h1)
 have hj5:(n:Int)≤(cap:Int):=by have:=(uh HPOP).2;omega
 go_wp2_with fail
 go_quiet (fail)
 generalize hw3:w2.drewN _=w3
 have HB3:Hid (Below w2.heap.size w2 w3):=by rw [← hw3];exact hide (below_drewN' _ _)
 have HC3:=hide ((uh HC2).grown (uh HB3))
 have h0:=cell_below (uh HB3) h0
 have hc1:=cell_below (uh HB3) hc1
 have hrf'':w3.frozen? ⟨bt,c,none⟩=false:=by rw [(uh HB3).frozen (cell_lt hc)];exact hrf'
 have hc:=cell_below (uh HB3) hc
 clear hw3 hrf' k1 k2
 go_wp2_with fail
 refine wp_region_held_drew (S:=fun w'=>w'.cell? ⟨ps,0,none⟩=some (.slice (some ⟨bt,0,none⟩) 101 101)∧w'.cell? ⟨ps,1,none⟩=some (.int .i64 c)) (by kernel_rfl) ⟨h0,hc1⟩ (fun hHeld=>?_)
 refine tka 0 103 ?hy0 (by assumption) ?r0 (v:=?v0)
 case hy0=>intro wx hSw;go_simp;with_reducible rfl
 simp only [Act.put,sx1,sx2,sx3]
 refine tka 1 104 ?hy1 (by assumption) ?r1 (v:=?v1)
 case hy1=>intro wx hSw;go_simp;with_reducible rfl
 simp only [Act.put,sx1,sx2,sx3]
 refine tka 2 105 ?hy2 (by assumption) ?r2 (v:=?v2)
 case hy2=>intro wx hSw;go_simp;with_reducible rfl
 simp only [Act.put,sx1,sx2,sx3]
 refine tka 3 106 ?hy3 (by assumption) ?r3 (v:=?v3)
 case hy3=>intro wx hSw;go_simp;with_reducible rfl
 simp only [Act.put,sx1,sx2,sx3]
 refine tka 4 107 ?hy4 (by assumption) ?r4 (v:=?v4)
 case hy4=>intro wx hSw;go_simp;with_reducible rfl
 simp only [Act.put,sx1,sx2,sx3]
 refine tka 5 108 ?hy5 (by assumption) ?r5 (v:=?v5)
 case hy5=>intro wx hSw;go_simp;with_reducible rfl
 simp only [Act.put,sx1,sx2,sx3]
 refine tka 6 109 ?hy6 (by assumption) ?r6 (v:=?v6)
 case hy6=>intro wx hSw;go_simp;with_reducible rfl
 simp only [Act.put,sx1,sx2,sx3]
 refine tka 7 110 ?hy7 (by assumption) ?r7 (v:=?v7)
 case hy7=>intro wx hSw;go_simp;with_reducible rfl
 simp only [Act.put,sx1,sx2,sx3]
 refine tka 8 111 ?hy8 (by assumption) ?r8 (v:=?v8)
 case hy8=>intro wx hSw;go_simp;with_reducible rfl
 simp only [Act.put,sx1,sx2,sx3]
 refine tka 9 112 ?hy9 (by assumption) ?r9 (v:=?v9)
 case hy9=>intro wx hSw;go_simp;with_reducible rfl
 simp only [Act.put,sx1,sx2,sx3]
 refine tka 10 113 ?hy10 (by assumption) ?r10 (v:=?v10)
 case hy10=>intro wx hSw;go_simp;with_reducible rfl
 simp only [Act.put,sx1,sx2,sx3]
 refine tka 11 114 ?hy11 (by assumption) ?r11 (v:=?v11)
 case hy11=>intro wx hSw;go_simp;with_reducible rfl
 simp only [Act.put,sx1,sx2,sx3]
 refine tka 12 115 ?hy12 (by assumption) ?r12 (v:=?v12)
 case hy12=>intro wx hSw;go_simp;with_reducible rfl
 simp only [Act.put,sx1,sx2,sx3]
 refine tka 13 116 ?hy13 (by assumption) ?r13 (v:=?v13)
 case hy13=>intro wx hSw;go_simp;with_reducible rfl
 simp only [Act.put,sx1,sx2,sx3]
 refine tka 14 117 ?hy14 (by assumption) ?r14 (v:=?v14)
 case hy14=>intro wx hSw;go_simp;with_reducible rfl
 simp only [Act.put,sx1,sx2,sx3]
 refine tka 15 118 ?hy15 (by assumption) ?r15 (v:=?v15)
 case hy15=>intro wx hSw;go_simp;with_reducible rfl
 simp only [Act.put,sx1,sx2,sx3]
 refine tka 16 119 ?hy16 (by assumption) ?r16 (v:=?v16)
 case hy16=>intro wx hSw;go_simp;with_reducible rfl
 simp only [Act.put,sx1,sx2,sx3]
 refine tka 18 121 ?hy18 (by assumption) ?r18 (v:=?v18)
 case hy18=>intro wx hSw;go_simp;with_reducible rfl
 simp only [Act.put,sx1,sx2,sx3]
 refine wpAnyH_ready (rs:=[17]) (by kernel_rfl) (by simp) ?_
 refine AllReadyH.cons rfl (fun K hK=>?_) AllReadyH.nil
 go_simp
 refine hK.out _ _ hHeld (fun hHeld=>?_)
 clear hK K
 refine tka 19 122 ?hy19 (by assumption) ?r19 (v:=?v19)
 case hy19=>intro wx hSw;go_simp;with_reducible rfl
 simp only [Act.put,sx1,sx2,sx3]
 refine tka 20 123 ?hy20 (by assumption) ?r20 (v:=?v20)
 case hy20=>intro wx hSw;go_simp;with_reducible rfl
 simp only [Act.put,sx1,sx2,sx3]
 refine wpAnyH_ready (rs:=[21]) (by kernel_rfl) (by simp) ?_
 refine AllReadyH.cons rfl (fun K hK=>?_) AllReadyH.nil
 go_simp
 refine hK.out _ _ ⟨cell_set_drew (uh NE).1 h0,cell_set_drew (uh NE).1 hc1⟩ (fun hHeld=>?_)
 clear hK K
 refine wpAnyH_done (by kernel_rfl) ?_ _
 go_wp2
 go_ret
 refine ⟨by rw [(uh E3).1];rfl,fun _=>?_,?_,?_⟩
 ·rw [(uh E3).2]
  have e:=uh HN
  subst e
  have e2:=uh HCC
  subst e2
  have hgg:w3.grownBy w3.drew (V s.cur).ownBlock:=⟨rfl,rfl,rfl,Nat.le_refl _,fun _ _ _=>rfl⟩
  refine ⟨bt,_,SpecCore.putRow (l:=r) (g:=g) (uh HC3) hgg ?_ rfl ?_ (by omega)⟩
  ·have hg:w2.grownBy w3 none:=⟨(uh HB3).os,(uh HB3).tape,(uh HB3).output,(uh HB3).size,fun k hk _=>(uh HB3).block k hk⟩
   exact ((uh HPOP).1.kept hg (.inr (by simp [Value.ownBlock]))).drew
  ·left;rw [uh HV];rfl
 ·exact ((((uh HB1).mono hB).trans ((uh HB2).mono (by omega))).trans ((uh HB3).mono (by have:=(uh HB2).size;omega))).setCell (p:=⟨bt,c,none⟩) hbt _ |>.drew
 ·refine Keeps.drew (Keeps.of_out (fun b=>b=bt) (fun b hb hx=>?_) (fun b hx=>.inr (.inr (by rw [hx];exact (uh KT).1))))
  rw [Below.heap_setCell _ _ _ _ hx]
  exact (((uh HB1).trans ((uh HB2).mono (uh HB1).size)).trans ((uh HB3).mono (Nat.le_trans (uh HB1).size (uh HB2).size))).block b hb
end Go.Proofs.YtmnmeaeicjhkhaaGreatDoor
namespace Go.Proofs.YtmnmeaeicjhkhaaGreatDoor
open Go.RowKit
theorem move_any (B ps:Nat) (s:St) (k t fn l i:Int) (tx:ByteArray) (v:Value) (w:World) (h:SpecAt B w ps s) (h1:0≤t) (h2:t≤100) :
  Calls Tryz.prog 57 #[.pointer (some ⟨ps,0,none⟩),.agg #[.int .i64 k,.int .i64 t,.int .i64 fn,.int .i64 l,.string tx,v],.int .i64 i] w (Moved B w ps s k t fn l i):=by
 by_cases k7:k=7
 ·subst k7;exact move_turn B ps s t fn l i tx v w h h1 h2
 have k7':(k == 7)=false:=by simpa using k7
 by_cases ht:t=s.cur
 ·by_cases k2:k=2
  ·subst k2
   by_cases hd:(s.tasks s.cur).length=200
   ·exact move_deep B ps s t fn l i tx v w h ht hd
   ·exact move_call B ps s t fn l i tx v w h ht hd
  have k2':(k == 2)=false:=by simpa using k2
  cases hf:fn != topFn (s.tasks s.cur) with
  | true=>exact move_fn B ps s k t fn l i tx v w h ht k7' k2' hf
  | false =>
   by_cases k1:k=1
   ·have k1':(k == 1)=true:=by simpa using k1
    cases hs:s.tasks s.cur with
    | nil=>exact move_line0 B ps s k t fn l i tx v w h ht k7' k2' hf k1' hs
    | cons f r=>exact move_line1 B ps s k t fn l i tx v w h ht k7' k2' f r hf k1' hs
   have k1':(k == 1)=false:=by simpa using k1
   by_cases k3:k=3
   ·have k3':(k == 3)=true:=by simpa using k3
    cases hs:s.tasks s.cur with
    | nil=>exact move_back0 B ps s k t fn l i tx v w h ht k7' k2' hf k3' hs
    | cons f r =>
     cases hfr:decide (f.frm < 0) with
     | true=>exact move_back1 B ps s k t fn l i tx v w h ht k7' k2' f r hf k3' hs hfr
     | false=>exact move_back2 B ps s k t fn l i tx v w h ht k7' k2' f r hf k3' hs hfr
   have k3':(k == 3)=false:=by simpa using k3
   exact move_none B ps s k t fn l i tx v w h ht k7' k2' hf k1' k3'
 ·exact move_task B ps s k t fn l i tx v w h k7' ht
theorem info_Frames:(Tryz.prog.info? 35).map (fun i=>(i.zero,i.size,i.bytes))=some (some (.slice none 0 0),1,24):=by kernel_rfl
theorem cell_alloc_at (w:World) (c:Array Value) (t:TypeId) (b i:Nat) (hb:b=w.heap.size):(w.alloc (.cells c t)).cell? ⟨b,i,none⟩=c[i]?:=by subst hb;simp
theorem frozen_alloc_at (w:World) (c:Array Value) (t:TypeId) (b i:Nat) (hb:b=w.heap.size):(w.alloc (.cells c t)).frozen? ⟨b,i,none⟩=false:=by subst hb;simp
theorem SpecAt_begin (w:World) (mc:Array Value) (hs:mc.size=101) (hm:∀ i,i < 101→mc[i]?=some (.slice none 0 0)) :
  SpecAt w.heap.size (((w.alloc (.cells (mc.setIfInBounds 0 (.slice (some ⟨w.heap.size + 1 + 1,0,none⟩) 1 1)) 35)).alloc (.cells #[.slice (some ⟨w.heap.size,0,none⟩) 101 101,.int .i64 0] 152)).alloc (.cells #[.int .i64 0,.int .i64 0,.int .i64 (-1)] 42))
   (w.heap.size + 1) St.init:=by
 refine ⟨w.heap.size,fun t=>if t=0 then .slice (some ⟨w.heap.size + 1 + 1,0,none⟩) 1 1 else .slice none 0 0,by omega,Nat.le_refl _,by omega,?_,?_,?_,?_,fun t ht=>?_,fun t ht=>?_,fun t ht=>?_,fun t t' ht ht' hne=>?_,by decide,fun t ht=>?_⟩
 ·rw [World.cell?_alloc_old _ _ _ (by simp),cell_alloc_at _ _ _ _ _ (by simp)]
  rfl
 ·rw [World.cell?_alloc_old _ _ _ (by simp),cell_alloc_at _ _ _ _ _ (by simp)]
  rfl
 ·rw [World.frozen?_alloc_old _ _ _ (by simp),frozen_alloc_at _ _ _ _ _ (by simp)]
 ·have h:=World.rowIs_alloc w (mc.setIfInBounds 0 (.slice (some ⟨w.heap.size + 1 + 1,0,none⟩) 1 1)) 35 (fun t=>if t=0 then .slice (some ⟨w.heap.size + 1 + 1,0,none⟩) 1 1 else .slice none 0 0) (fun i hi=>by
   have hi':i < 101:=by simpa [hs] using hi
   rw [Array.getElem?_setIfInBounds]
   by_cases e:i=0
   ·subst e;simp [hs]
   ·rw [if_neg (fun h=>e h.symm),if_neg e];exact hm i hi')
  rw [show (mc.setIfInBounds 0 (.slice (some ⟨w.heap.size + 1 + 1,0,none⟩) 1 1)).size=101 by simpa using hs] at h
  exact (h.alloc _).alloc _
 ·by_cases e:t=0
  ·subst e
   refine ⟨by simp [frCells,St.init],.inr ⟨w.heap.size + 1 + 1,1,#[.int .i64 0,.int .i64 0,.int .i64 (-1)],rfl,by omega,?_,by simp [St.init],by unfold maxLen;omega,rfl,by simp [St.init,frCells]⟩⟩
   have:=heap_alloc_new ((w.alloc (.cells (mc.setIfInBounds 0 (.slice (some ⟨w.heap.size + 1 + 1,0,none⟩) 1 1)) 35)).alloc (.cells #[.slice (some ⟨w.heap.size,0,none⟩) 101 101,.int .i64 0] 152)) (.cells #[.int .i64 0,.int .i64 0,.int .i64 (-1)] 42)
   simpa using this
  ·have e1:St.init.tasks t=[]:=by simp [St.init,e]
   rw [if_neg e,e1]
   exact World.ownsRow_nil _ _ _ _
 ·by_cases e:t=0
  ·rw [if_pos e];simp [Value.ownBlock]
  ·rw [if_neg e];simp [Value.ownBlock]
 ·by_cases e:t=0
  ·rw [if_pos e];simp [Value.ownBlock];omega
  ·rw [if_neg e];simp [Value.ownBlock]
 ·by_cases e:t=0
  ·have e':t' ≠ 0:=by omega
   rw [if_pos e,if_neg e'];right;simp [Value.ownBlock]
  ·rw [if_neg e];left;rfl
 ·by_cases e:t=0
  ·subst e;simp [St.init]
  ·simp [St.init,e]
theorem l1begin_any (w:World) :
  Calls Tryz.prog 56 #[] w fun e w'=>(∃ ps,e=.returned (.pointer (some ⟨ps,0,none⟩))∧SpecAt w.heap.size w' ps St.init)∧Below w.heap.size w w':=by
 obtain ⟨mc,hmc⟩:∃ mc,mc=madeCells #[.slice none 0 0] 101:=⟨_,rfl⟩
 have hmk:∀ w,(Instr.makeSlice 150 (.int .i64 101) (.int .i64 101)).run Tryz.prog w=.ok (.slice (some ⟨w.heap.size,0,none⟩) 101 101) (w.alloc (.cells mc 35)):=fun w=>by
  have:=run_make_many (P:=Tryz.prog) 150 35 _ _ _ Tryz.underlying150 info_Frames 101 (by omega) (by omega) w
  rw [hmc]
  exact this
 have hs:mc.size=101:=by rw [hmc];exact size_madeCells _ _
 have hm:∀ i,i < 101→mc[i]?=some (.slice none 0 0):=fun i hi=>by rw [hmc];simp [madeCells,hi,Nat.mod_one]
 have h0:=hm 0 (by omega)
 have HS:=hide hs
 have HM:=hide hm
 clear hmc hm hs
 go_enter Tryz.func56,Tryz.ntmps56
 go_wp2
 go_ret
 exact ⟨⟨w.heap.size + 1,rfl,SpecAt_begin w mc (uh HS) (uh HM)⟩,(((Below.refl _ _).alloc (Nat.le_refl _) _).alloc (by simp) _).alloc (by simp;omega) _⟩
end Go.Proofs.YtmnmeaeicjhkhaaGreatDoor
namespace Go.Proofs.YtmnmeaeicjhkhaaGreatDoor
open Go.RowKit
def Two (w:World) (v1 v2:Value) (w':World):Prop :=
 Below (w.heap.size + 2) ((w.alloc (.cells #[v1,v2] 26)).alloc (.cells #[.int .i64 0,.int .i64 0] 49)) w'
theorem Two.below {w w':World} {v1 v2:Value} (h:Two w v1 v2 w'):Below w.heap.size w w' :=
 (((Below.refl _ _).alloc (Nat.le_refl _) _).alloc (by simp) _).trans (Below.mono h (by omega))
theorem Two.size {w w':World} {v1 v2:Value} (h:Two w v1 v2 w'):w.heap.size + 2≤w'.heap.size:=by
 have:=Below.size h;simpa using this
theorem Two.go {w w' w'':World} {v1 v2:Value} (h:Two w v1 v2 w') (hb:Below w'.heap.size w' w''):Two w v1 v2 w'':=Below.trans h (hb.mono h.size)
theorem Two.b0 {w w':World} {v1 v2:Value} (h:Two w v1 v2 w'):w'.cell? ⟨w.heap.size,0,none⟩=some v1:=by
 rw [Below.cell h (by simp),World.cell?_alloc_old _ _ _ (by simp),cell_alloc_at _ _ _ _ _ rfl];rfl
theorem Two.b1 {w w':World} {v1 v2:Value} (h:Two w v1 v2 w'):w'.cell? ⟨w.heap.size,1,none⟩=some v2:=by
 rw [Below.cell h (by simp),World.cell?_alloc_old _ _ _ (by simp),cell_alloc_at _ _ _ _ _ rfl];rfl
theorem Two.r0 {w w':World} {v1 v2:Value} (h:Two w v1 v2 w'):w'.cell? ⟨w.heap.size + 1,0,none⟩=some (.int .i64 0):=by
 rw [Below.cell h (by simp),cell_alloc_at _ _ _ _ _ (by simp)];rfl
theorem Two.r1 {w w':World} {v1 v2:Value} (h:Two w v1 v2 w'):w'.cell? ⟨w.heap.size + 1,1,none⟩=some (.int .i64 0):=by
 rw [Below.cell h (by simp),cell_alloc_at _ _ _ _ _ (by simp)];rfl
theorem Two.f0 {w w':World} {v1 v2:Value} (h:Two w v1 v2 w'):w'.frozen? ⟨w.heap.size + 1,0,none⟩=false:=by
 rw [Below.frozen h (by simp),frozen_alloc_at _ _ _ _ _ (by simp)]
theorem Two.f1 {w w':World} {v1 v2:Value} (h:Two w v1 v2 w'):w'.frozen? ⟨w.heap.size + 1,1,none⟩=false:=by
 rw [Below.frozen h (by simp),frozen_alloc_at _ _ _ _ _ (by simp)]
def SaysF (nf:Nat) (fns:Nat→ByteArray) (nm:Nat) (f:Nat→M) (e:Ending):Prop:=∃ c m,e=.returned (.agg #[.int .i64 c,.int .i64 m])∧Ans nf fns nm f c m
theorem specTraceOk_any (lo:Nat) (v1 v2:Value) (nf:Nat) (fns:Nat→ByteArray) (n:Nat) (f:Nat→M) (w:World) (h1:StrsAt lo w v1 nf fns) (h2:MomsAt lo w v2 n f) :
  Calls Tryz.prog 18 #[.agg #[v1,v2]] w fun e w'=>SaysF nf fns n f e∧Below w.heap.size w w':=by
 have H1:=hide h1
 have H2:=hide h2
 obtain ⟨a1,cap1,rfl,hn1,-⟩:=h1
 obtain ⟨a2,cap2,rfl,hn2,-⟩:=h2
 unfold maxLen at hn1 hn2
 have T0:Hid (Two w (.slice a1 nf cap1) (.slice a2 n cap2) ((w.alloc (.cells #[.slice a1 nf cap1,.slice a2 n cap2] 26)).alloc (.cells #[.int .i64 0,.int .i64 0] 49))):=Below.refl _ _
 go_enter Tryz.func18,Tryz.ntmps18
 go_wp2_with fail
 refine (l1sizes_any lo _ _ nf fns n f _ ((uh H1).below (uh T0).below) ((uh H2).below (uh T0).below)).mono ?_
 rintro e w1 ⟨⟨b,rfl,hsz⟩,hb1⟩
 have T1:=hide ((uh T0).go hb1);clear hb1 T0
 have g0:=(uh T1).b0
 have g1:=(uh T1).b1
 have g2:=(uh T1).r0
 have g3:=(uh T1).r1
 have g4:=(uh T1).f0
 have g5:=(uh T1).f1
 cases b with
 | false =>
  have HS:Hid (¬ SizesOk nf fns n):=fun h=>by simp [h] at hsz
  clear hsz
  go_wp2
  refine bodyPost_ret (v:=.agg #[.int .i64 1,.int .i64 0]) (by simp [results,Tryz.results18,go_sem,g2,g3]) rfl ⟨⟨1,0,rfl,.inl ⟨uh HS,rfl,rfl⟩⟩,?_⟩
  repeat (refine Below.setCell ?_ (by simp) _)
  exact (uh T1).below
 | true =>
  have HS:Hid (SizesOk nf fns n):=hide (by simpa using hsz)
  clear hsz
  go_wp2
  go_loopw [16] (fun i w'=>∃ (k:Nat),k≤n∧i=.int .i64 k∧(∀ j,j < k→MomentOk nf (f j))∧Two w (.slice a1 nf cap1) (.slice a2 n cap2) w') (fun i _=>n - (intOf i).toNat)
  case atStart=>exact ⟨0,by omega,rfl,by omega,uh T1⟩
  case round =>
   obtain ⟨k,hk,rfl,hq,ht⟩:=hrel
   have HQ:=hide hq;clear hq
   have HT:=hide ht;clear ht g0 g1 g2 g3 g4 g5 T1
   by_cases hlt:k < n
   ·obtain ⟨_,_,e,_,hv⟩:=(uh H2).below (uh HT).below
    cases e
    obtain ⟨b,o,vv,rfl,hc0,hc1,hc2,hc3,hc4,hc5,hs1,hs2,-⟩:=hv k hlt
    clear hv
    have HV:=hide hs2
    obtain ⟨av,capv,rfl,-⟩:=hs2
    have g0:=(uh HT).b0
    have g1:=(uh HT).b1
    have hsz:=(uh HT).size
    have n1:w.heap.size ≠ wr.heap.size:=by omega
    have BA:=hide ((Below.refl wr.heap.size wr).alloc (Nat.le_refl _) (.cells #[.int .i64 (f k).kind,.int .i64 (f k).task,.int .i64 (f k).fn,.int .i64 (f k).line,.string (f k).text,.slice av (f k).nv capv] 108))
    have g6:=((uh HT).go (uh BA)).b0
    have g7:=((uh HT).go (uh BA)).b1
    go_wp2_with fail
    refine (l1moment_any lo _ _ nf fns _ _ _ _ _ _ (f k).nv (f k).vars _ ((uh H1).below ((uh HT).go (uh BA)).below) hs1 ((uh HV).below (uh BA))).mono ?_
    rintro e w2 ⟨⟨b,rfl,hm⟩,hb2⟩
    have T2:=hide (((uh HT).go (uh BA)).go hb2);clear hb2
    have g2:=(uh T2).r0
    have g3:=(uh T2).r1
    have g4:=(uh T2).f0
    have g5:=(uh T2).f1
    cases b with
    | false =>
     have HM:Hid (¬ MomentOk nf (f k)):=hide (fun h=>by
      have:=hm.2 h
      cases this)
     clear hm
     go_wp2
     refine bodyPost_ret (v:=.agg #[.int .i64 2,.int .i64 k]) (by simp [results,Tryz.results18,go_sem,g2,g3]) rfl ⟨⟨2,k,rfl,.inr (.inl ⟨uh HS,k,hlt,uh HM,uh HQ,rfl,rfl⟩)⟩,?_⟩
     repeat (refine Below.setCell ?_ (by simp) _)
     exact (uh T2).below
    | true =>
     have HM:Hid (MomentOk nf (f k)):=hide (hm.1 rfl)
     clear hm
     go_wp2
     go_roundw
     case rel =>
      refine ⟨k + 1,by omega,by go_num,fun j hj=>?_,uh T2⟩
      by_cases hjk:j < k
      ·exact uh HQ j hjk
      ·have e:j=k:=by omega
       rw [e];exact uh HM
     case measure=>simp [intOf];omega
   ·have hkn:k=n:=by omega
    subst hkn
    clear hlt
    have g0:=(uh HT).b0
    have g1:=(uh HT).b1
    go_wp2_with fail
    refine (l1begin_any _).mono ?_
    rintro e w2 ⟨⟨ps,rfl,hsp⟩,hb2⟩
    have T2:=hide ((uh HT).go hb2)
    have hB:=(uh HT).size
    have HSP:=hide hsp
    clear hb2 hsp g0 g1
    have g0:=(uh T2).b0
    have g1:=(uh T2).b1
    obtain ⟨B,hBe⟩:∃ B,B=wr.heap.size:=⟨_,rfl⟩
    rw [← hBe] at hB HSP
    clear hBe HT
    go_wp2
    go_loopw [32] (fun i w'=>∃ (j:Nat),j≤k∧i=.int .i64 j∧(∀ i,i < j→codeAt f i=0)∧SpecAt B w' ps (St.after f j)∧Two w (.slice a1 nf cap1) (.slice a2 k cap2) w') (fun i _=>k - (intOf i).toNat)
    case atStart=>exact ⟨0,by omega,rfl,by omega,uh HSP,uh T2⟩
    case round =>
     obtain ⟨j,hj,rfl,hq,hsp,ht⟩:=hrel
     have HC:=hide hq;clear hq
     have HT:=hide ht;clear ht g0 g1 T2 HSP
     have HSP:=hide hsp;clear hsp
     by_cases hlt:j < k
     ·obtain ⟨_,_,e,_,hv⟩:=(uh H2).below (uh HT).below
      cases e
      obtain ⟨b,o,vv,rfl,hc0,hc1,hc2,hc3,hc4,hc5,hs1,hs2,-⟩:=hv j hlt
      clear hv
      obtain ⟨av,capv,rfl,-⟩:=hs2
      have BA:=hide ((Below.refl wr.heap.size wr).alloc (Nat.le_refl _) (.cells #[.int .i64 (f j).kind,.int .i64 (f j).task,.int .i64 (f j).fn,.int .i64 (f j).line,.string (f j).text,.slice av (f j).nv capv] 108))
      have hmo:=uh HQ j hlt
      have ht1:0≤(f j).task:=hmo.1.2.2.1
      have ht2:(f j).task≤100:=hmo.1.2.2.2.1
      clear hmo
      go_wp2_with fail
      refine (move_any B ps (St.after f j) _ _ _ _ _ _ _ _ ((uh HSP).below (uh BA)) ht1 ht2).mono ?_
      rintro e w2 ⟨rfl,hsp,hb2,-⟩
      have T2:Hid (Two w (.slice a1 nf cap1) (.slice (some ⟨b,o,none⟩) k cap2) w2):=hide (Below.trans ((uh HT).go (uh BA)) (hb2.mono hB))
      have HSP2:=hide hsp
      clear hb2 hsp
      have g2:=(uh T2).r0
      have g3:=(uh T2).r1
      have g4:=(uh T2).f0
      have g5:=(uh T2).f1
      have hce:code (St.after f j) (f j).kind (f j).task (f j).fn=codeAt f j:=rfl
      rw [hce]
      clear hce
      by_cases hcode:codeAt f j=0
      ·rw [hcode]
       have HCO:=hide hcode;clear hcode
       go_wp2
       go_roundw
       case rel =>
        refine ⟨j + 1,by omega,by go_num,fun i hi=>?_,uh HSP2 (uh HCO),uh T2⟩
        by_cases hij:i < j
        ·exact uh HC i hij
        ·have e:i=j:=by omega
         rw [e];exact uh HCO
       case measure=>simp [intOf];omega
      ·have hb:(codeAt f j != 0)=true:=by simpa using hcode
       have HCO:=hide hcode;clear hcode
       go_wp2
       refine bodyPost_ret (v:=.agg #[.int .i64 (codeAt f j),.int .i64 j]) (by simp [results,Tryz.results18,go_sem,g2,g3]) rfl ⟨⟨_,j,rfl,.inr (.inr (.inl ⟨uh HS,uh HQ,j,hlt,uh HCO,uh HC,rfl,rfl⟩))⟩,?_⟩
       repeat (refine Below.setCell ?_ (by simp) _)
       exact (uh T2).below
     ·have hjk:j=k:=by omega
      subst hjk
      have g2:=(uh HT).r0
      have g3:=(uh HT).r1
      have g4:=(uh HT).f0
      have g5:=(uh HT).f1
      go_wp2
      refine bodyPost_ret (v:=.agg #[.int .i64 0,.int .i64 0]) (by simp [results,Tryz.results18,go_sem,g2,g3]) rfl ⟨⟨0,0,rfl,.inr (.inr (.inr ⟨uh HS,uh HQ,uh HC,rfl,rfl⟩))⟩,?_⟩
      repeat (refine Below.setCell ?_ (by simp) _)
      exact (uh HT).below
end Go.Proofs.YtmnmeaeicjhkhaaGreatDoor
namespace Go.Proofs.YtmnmeaeicjhkhaaGreatDoor
open Go.RowKit
def Sound (nf:Nat) (fns:Nat→ByteArray) (n:Nat) (f:Nat→M):Prop:=SizesOk nf fns n∧(∀ j,j < n→MomentOk nf (f j))∧∀ j,j < n→codeAt f j=0
theorem Ans.zero {nf:Nat} {fns:Nat→ByteArray} {n:Nat} {f:Nat→M} {c m:Int} (h:Ans nf fns n f c m):(c=0 ↔ Sound nf fns n f)∧(c=0→m=0):=by
 rcases h with ⟨a,rfl,rfl⟩ | ⟨a,i,hi,b,d,rfl,rfl⟩ | ⟨a,b,i,hi,d,e,rfl,rfl⟩ | ⟨a,b,d,rfl,rfl⟩
 ·exact ⟨⟨fun h=>by omega,fun h=>absurd h.1 a⟩,fun h=>by omega⟩
 ·exact ⟨⟨fun h=>by omega,fun h=>absurd (h.2.1 i hi) b⟩,fun h=>by omega⟩
 ·exact ⟨⟨fun h=>absurd h d,fun h=>h.2.2 i hi⟩,fun h=>absurd h d⟩
 ·exact ⟨⟨fun _=>⟨a,b,d⟩,fun _=>rfl⟩,fun _=>rfl⟩
def TrBox (w:World) (v1 v2:Value) (w':World):Prop:=Below (w.heap.size + 1) (w.alloc (.cells #[v1,v2] 26)) w'
theorem TrBox.below {w w':World} {v1 v2:Value} (h:TrBox w v1 v2 w'):Below w.heap.size w w':=((Below.refl _ _).alloc (Nat.le_refl _) _).trans (Below.mono h (by omega))
theorem TrBox.size {w w':World} {v1 v2:Value} (h:TrBox w v1 v2 w'):w.heap.size + 1≤w'.heap.size:=by
 have:=Below.size h;simpa using this
theorem TrBox.go {w w' w'':World} {v1 v2:Value} (h:TrBox w v1 v2 w') (hb:Below w'.heap.size w' w''):TrBox w v1 v2 w'':=Below.trans h (hb.mono h.size)
theorem TrBox.b0 {w w':World} {v1 v2:Value} (h:TrBox w v1 v2 w'):w'.cell? ⟨w.heap.size,0,none⟩=some v1:=by
 rw [Below.cell h (by simp),cell_alloc_at _ _ _ _ _ rfl];rfl
theorem TrBox.b1 {w w':World} {v1 v2:Value} (h:TrBox w v1 v2 w'):w'.cell? ⟨w.heap.size,1,none⟩=some v2:=by
 rw [Below.cell h (by simp),cell_alloc_at _ _ _ _ _ rfl];rfl
theorem TrBox.new (w:World) (v1 v2:Value):TrBox w v1 v2 (w.alloc (.cells #[v1,v2] 26)):=Below.refl _ _
theorem below_new (w:World) (o:Obj):Below w.heap.size w (w.alloc o):=(Below.refl _ _).alloc (Nat.le_refl _) o
theorem l1ok_any (lo:Nat) (v1 v2:Value) (nf:Nat) (fns:Nat→ByteArray) (n:Nat) (f:Nat→M) (w:World) (h1:StrsAt lo w v1 nf fns) (h2:MomsAt lo w v2 n f) :
  Calls Tryz.prog 37 #[.agg #[v1,v2]] w fun e w'=>SaysB (Sound nf fns n f) e∧Below w.heap.size w w':=by
 have H1:=hide h1;clear h1
 have H2:=hide h2;clear h2
 have T0:=hide (TrBox.new w v1 v2)
 go_enter Tryz.func37,Tryz.ntmps37
 go_wp2_with fail
 refine (specTraceOk_any lo _ _ nf fns n f _ ((uh H1).below (uh T0).below) ((uh H2).below (uh T0).below)).mono ?_
 rintro e w1 ⟨⟨c,m,rfl,ha⟩,hb1⟩
 have T1:=hide (((uh T0).go hb1).go (below_new w1 (.cells #[.int .i64 c,.int .i64 m] 49)))
 clear hb1
 by_cases hc:c=0
 ·have HS:=hide (ha.zero.1.1 hc)
  have hcb:(c == 0)=true:=by simpa using hc
  clear ha hc
  go_wp2
  go_ret
  exact ⟨SaysB.yes (uh HS),(uh T1).below⟩
 ·have HS:Hid (¬ Sound nf fns n f):=hide (fun h=>hc (ha.zero.1.2 h))
  have hcb:(c == 0)=false:=by simpa using hc
  clear ha hc
  go_wp2
  go_ret
  exact ⟨SaysB.no (uh HS),(uh T1).below⟩
theorem l1at_any (lo:Nat) (v1 v2:Value) (nf:Nat) (fns:Nat→ByteArray) (n:Nat) (f:Nat→M) (kk:Nat) (w:World) (h2:MomsAt lo w v2 n f) (hs:Sound nf fns n f) (hk:kk≤n) :
  Calls Tryz.prog 141 #[.agg #[v1,v2],.int .i64 ((kk:Int) - 1)] w fun e w'=>(∃ ps,e=.returned (.pointer (some ⟨ps,0,none⟩))∧SpecAt w.heap.size w' ps (St.after f kk))∧Below w.heap.size w w':=by
 have H2:=hide h2
 obtain ⟨a2,cap2,rfl,hn2,-⟩:=h2
 unfold maxLen at hn2
 have HS:=hide hs;clear hs
 have T0:=hide (TrBox.new w v1 (.slice a2 n cap2))
 go_enter Tryz.func141,Tryz.ntmps141
 go_wp2_with fail
 refine (l1begin_any _).mono ?_
 rintro e w1 ⟨⟨ps,rfl,hsp⟩,hb1⟩
 have T1:=hide ((uh T0).go hb1)
 have HSP:=hide hsp
 clear hb1 hsp T0
 obtain ⟨B,hBe⟩:∃ B,B=(w.alloc (.cells #[v1,.slice a2 n cap2] 26)).heap.size:=⟨_,rfl⟩
 have hB:B=w.heap.size + 1:=by rw [hBe];simp
 rw [← hBe] at HSP
 have HBE:=hide hB
 clear hBe hB
 go_wp2
 go_loopw [6] (fun i w'=>∃ (j:Nat),j≤kk∧i=.int .i64 j∧SpecAt B w' ps (St.after f j)∧TrBox w v1 (.slice a2 n cap2) w') (fun i _=>kk - (intOf i).toNat)
 case atStart=>exact ⟨0,by omega,rfl,uh HSP,uh T1⟩
 case round =>
  obtain ⟨j,hj,rfl,hsp,ht⟩:=hrel
  have HT:=hide ht;clear ht T1 HSP
  have HSP:=hide hsp;clear hsp
  by_cases hlt:j < kk
  ·obtain ⟨_,_,e,_,hv⟩:=(uh H2).below (uh HT).below
   cases e
   obtain ⟨b,o,vv,rfl,hc0,hc1,hc2,hc3,hc4,hc5,hs1,hs2,-⟩:=hv j (by omega)
   clear hv
   obtain ⟨av,capv,rfl,-⟩:=hs2
   have hmo:=(uh HS).2.1 j (by omega)
   have ht1:0≤(f j).task:=hmo.1.2.2.1
   have ht2:(f j).task≤100:=hmo.1.2.2.2.1
   clear hmo
   have g1:=(uh HT).b1
   have hjn:(j:Int) < (n:Int):=by omega
   go_wp2_with fail
   refine (move_any B ps (St.after f j) _ _ _ _ _ _ _ _ (uh HSP) ht1 ht2).mono ?_
   rintro e w2 ⟨rfl,hsp,hb2,-⟩
   have T2:Hid (TrBox w v1 (.slice (some ⟨b,o,none⟩) n cap2) w2):=hide (Below.trans (uh HT) (hb2.mono (by rw [uh HBE];omega)))
   have HSP2:=hide (hsp ((uh HS).2.2 j (by omega)))
   clear hsp hb2
   go_wp2
   go_roundw
   case rel=>exact ⟨j + 1,by omega,by go_num,uh HSP2,uh T2⟩
   case measure=>simp [intOf];omega
  ·have hjk:j=kk:=by omega
   subst hjk
   go_wp2
   go_ret
   obtain ⟨bt,V,hc⟩:=uh HSP
   have hBB:w.heap.size≤B:=by rw [uh HBE];omega
   refine ⟨⟨ps,rfl,bt,V,Nat.le_trans hBB hc.hp,Nat.le_trans hBB hc.hbt,hc.ne,hc.c0,hc.c1,hc.fz,hc.row,fun t ht=>?_,hc.nps,hc.nbt,hc.dis,hc.cur,hc.len⟩,(uh HT).below⟩
   have h:=hc.own t ht
   refine ⟨h.1,?_⟩
   rcases h.2 with hn | ⟨g,cap,cur,hv,hb,rest⟩
   ·exact .inl hn
   ·exact .inr ⟨g,cap,cur,hv,by omega,rest⟩
def upto (n:Nat) (k:Int):Nat:=min (k + 1).toNat n
theorem l1stand_any (lo:Nat) (v1 v2:Value) (nf:Nat) (fns:Nat→ByteArray) (n:Nat) (f:Nat→M) (k:Int) (w:World) (h2:MomsAt lo w v2 n f) (hs:Sound nf fns n f) (hk1:-1≤k) (hk2:k≤n) :
  Calls Tryz.prog 97 #[.agg #[v1,v2],.int .i64 k] w fun e w'=>(∃ ps,e=.returned (.pointer (some ⟨ps,0,none⟩))∧SpecAt (w.heap.size + 1) w' ps (St.after f (upto n k)))∧Below w.heap.size w w':=by
 have H2:=hide h2
 obtain ⟨a2,cap2,rfl,hn2,-⟩:=h2
 unfold maxLen at hn2
 have HS:=hide hs;clear hs
 have T0:=hide (TrBox.new w v1 (.slice a2 n cap2))
 have g0:=(uh T0).b0
 have g1:=(uh T0).b1
 by_cases hk:k=n
 ·subst hk
  have e:upto n (n:Int)=n:=by unfold upto;omega
  rw [e];clear e
  go_enter Tryz.func97,Tryz.ntmps97
  go_wp2_with fail
  refine (l1at_any lo _ _ nf fns n f n _ ((uh H2).below (uh T0).below) (uh HS) (Nat.le_refl _)).mono ?_
  rintro e w1 ⟨⟨ps,rfl,hsp⟩,hb1⟩
  have T1:=hide ((uh T0).go hb1)
  have HSP:=hide hsp
  clear hb1 hsp
  go_wp2
  go_ret
  exact ⟨⟨ps,rfl,by simpa using uh HSP⟩,(uh T1).below⟩
 ·obtain ⟨kk,rfl⟩:∃ kk:Nat,k=(kk:Int) - 1:=⟨(k + 1).toNat,by omega⟩
  have e:upto n ((kk:Int) - 1)=kk:=by unfold upto;omega
  rw [e];clear e
  have hkb:((kk:Int) - 1 == (n:Int))=false:=by simpa using hk
  have hkk:kk≤n:=by omega
  clear hk
  go_enter Tryz.func97,Tryz.ntmps97
  go_wp2_with fail
  refine (l1at_any lo _ _ nf fns n f kk _ ((uh H2).below (uh T0).below) (uh HS) hkk).mono ?_
  rintro e w1 ⟨⟨ps,rfl,hsp⟩,hb1⟩
  have T1:=hide ((uh T0).go hb1)
  have HSP:=hide hsp
  clear hb1 hsp
  go_wp2
  go_ret
  exact ⟨⟨ps,rfl,by simpa using uh HSP⟩,(uh T1).below⟩
end Go.Proofs.YtmnmeaeicjhkhaaGreatDoor
