import Derived.Test.YtoiacbdnkkolmabS5
import Derived.Deep.DrawnRows
namespace Go.Proofs.Ytoiacbdnkkolmab
open Go.RowKit

attribute [local go_sem ↓] Go.wp_at_zero Go.wp_at_succ

/-- 'wpAnyH_take', the operation by its place and its slot. -/
theorem takeAt {P : Program} {ops : Array Oper} {Q : Exit → Act → World → Prop} {md : Region.Mode} {S : World → Prop} (i : Nat) (dst : Option Tmp) {v : Value} {fuel : Nat} {listed : Array Bool} {a : Act} {w : World}
    (hl : i < ops.size) (hd : (ops[i]'hl).dst = dst) (hs : Region.noSelect ops = true) (hf : Region.free md ops listed i = true) (hr : (Region.ready md ops listed).contains i = true)
    (hQ : ∀ c a w, Q (.panic c) (a.put dst v) w → Q (.panic c) a w) (hw : Region.wanted (ops[i]'hl) (yielded ops a.tmps) = true) (hy : ∀ w, S w → (execOp a.eval (ops[i]'hl)).run P w = .ok (.value v) w) (hS : S w)
    (h : wpAnyH P md ops Q S fuel (listed.setIfInBounds i true) (a.put dst v) w) : wpAnyH P md ops Q S (fuel + 1) listed a w := by
  subst hd
  exact wpAnyH_take (Array.getElem?_eq_getElem hl) hs hf hr hQ (Or.inl ⟨hw, hy⟩) hS h

theorem info_Frame : (Try.prog.info? 105).map (fun i => (i.zero, i.size, i.bytes)) = some (some (.agg #[.int .i64 0, .int .i64 0, .int .i64 0]), 3, 24) := by kernel_rfl

set_option maxHeartbeats 400000 in
theorem move_deep (B ps : Nat) (s : St) (t fn l i : Int) (tx : ByteArray) (v : Value) (w : World) (h : SpecAt B w ps s) (ht : t = s.cur) (hd : (s.tasks s.cur).length = 200) :
    Calls Try.prog 75 #[.pointer (some ⟨ps, 0, none⟩), .agg #[.int .i64 2, .int .i64 t, .int .i64 fn, .int .i64 l, .string tx, v], .int .i64 i] w (Moved B w ps s 2 t fn l i) := by
  subst ht
  have H := hide h
  have hB := hide h.base
  obtain ⟨bt, V, hh⟩ := h
  have hp := hh.hp
  have h0 := hh.c0
  have hc1 := hh.c1
  clear hh
  have hz := cell_lt h0
  simp only at hz
  have E3 : Hid (code s 2 (s.cur : Int) fn = 5) := by
    refine hide ?_
    simp [code, hd]
  have hne : ps ≠ w.heap.size := by omega
  have HD := hide hd; clear hd
  go_enter Try.func75, Try.ntmps75
  go_wp2
  go_quiet (fail)
  go_wp2_with fail
  refine (top_any B ps s _ ((unhide H).below (by exact below_drewN ((Below.refl _ _).alloc (Nat.le_refl _) _) _))).mono ?_
  rintro e w1 ⟨rfl, q, hq⟩
  rw [unhide HD]
  subst hq
  go_wp2
  go_ret
  refine ⟨by rw [unhide E3]; rfl, fun h => ?_, ?_, ?_⟩
  · rw [unhide E3] at h; cases h
  · exact below_drewN ((Below.refl _ _).alloc (unhide hB) _) _
  · exact Keeps.of_below (below_drewN ((Below.refl _ _).alloc (Nat.le_refl _) _) _)

set_option maxRecDepth 100000 in
set_option maxHeartbeats 2000000 in
theorem move_call (B ps : Nat) (s : St) (t fn l i : Int) (tx : ByteArray) (v : Value) (w : World) (h : SpecAt B w ps s) (ht : t = s.cur) (hd : (s.tasks s.cur).length ≠ 200) :
    Calls Try.prog 75 #[.pointer (some ⟨ps, 0, none⟩), .agg #[.int .i64 2, .int .i64 t, .int .i64 fn, .int .i64 l, .string tx, v], .int .i64 i] w (Moved B w ps s 2 t fn l i) := by
  subst ht
  have H := hide h
  have hB := h.base
  obtain ⟨bt, V, hh⟩ := h
  have KT := hide hh.kinds
  have HH := hide hh
  have hp := hh.hp
  have h0 := hh.c0
  have hc1 := hh.c1
  have hi2 := hh.cur
  have hi4 := hh.len _ hi2
  have HL := hide ((hh.own _ hi2).lt)
  have NE : Hid (bt ≠ ps ∧ bt ≠ w.heap.size) := ⟨Ne.symm hh.ne, by have := hh.row.lt; omega⟩
  have hbt := hh.hbt
  clear hh
  have hz := cell_lt h0
  simp only at hz
  have E3 : Hid (code s 2 (s.cur : Int) fn = 0 ∧ s.step 2 (s.cur : Int) fn l i = s.put (⟨fn, 0, i⟩ :: s.tasks s.cur)) := by
    refine hide ⟨?_, ?_⟩
    · simp [code, hd]
    · simp [St.step]
  have hne : ps ≠ w.heap.size := by omega
  have hd1 : (((s.tasks s.cur).length : Int) - 1 + 1 == 200) = false := by simp; omega
  have hd2 : (((s.tasks s.cur).length : Int) == 200) = false := by simp; omega
  have hd3 : (s.tasks s.cur).length < 200 := by omega
  clear hd
  go_enter Try.func75, Try.ntmps75
  go_wp2
  go_quiet (fail)
  go_wp2_with fail
  refine (top_any B ps s _ ((unhide H).below (by exact below_drewN ((Below.refl _ _).alloc (Nat.le_refl _) _) _))).mono ?_
  rintro e w1 ⟨rfl, q, hq⟩
  have hbx0 : w1.cell? ⟨w.heap.size, 0, none⟩ = some (.int .i64 2) := by rw [hq]; simp
  have hbx : w1.cell? ⟨w.heap.size, 2, none⟩ = some (.int .i64 fn) := by rw [hq]; simp
  have HB1 : Hid (Below w.heap.size w w1) := by rw [hq]; exact hide (below_drewN (below_drewN ((Below.refl _ _).alloc (Nat.le_refl _) _) _) _)
  clear hq h0 hc1 H
  have HC := hide ((unhide HH).grown (unhide HB1))
  have h0 := (unhide HC).c0
  have hc1 := (unhide HC).c1
  have hc := (unhide HC).row.cell hi2
  have hfz := (unhide HC).row.frozen s.cur
  have ho := (unhide HC).own _ hi2
  have np := (unhide HC).nps _ hi2
  have nt := (unhide HC).nbt _ hi2
  obtain ⟨a, cap, hV⟩ := owns_slice ho
  have hbm : some w.heap.size ≠ (V s.cur).ownBlock := fun e => by have := (unhide HL _ e.symm).2; omega
  rw [hV] at hc ho np nt hbm
  have HO := hide ho; clear ho
  have HV := hide hV; clear hV HL HH
  have NP := hide np
  have NT := hide nt
  have NM := hide hbm
  clear np nt hbm
  obtain ⟨n, hn⟩ : ∃ n, n = (s.tasks s.cur).length := ⟨_, rfl⟩
  obtain ⟨c, hcc⟩ : ∃ c, c = s.cur := ⟨_, rfl⟩
  rw [← hn] at hi4 hd1 hd2 hd3 HO HV hc NP NT NM
  rw [← hn]
  have HN := hide hn; clear hn
  rw [← hcc] at hi2 hc1 hc hfz
  rw [← hcc]
  have HCC := hide hcc; clear hcc
  have hj1 : (0 : Int) ≤ (c : Int) := by omega
  have hj2 : (c : Int) < 101 := by omega
  obtain ⟨i0, hi0, hz0, hz1, hz2⟩ := info_parts info_Frame
  have hw1 := cell_lt hbx
  have hw2 := cell_lt h0
  have hw3 := cell_lt hc
  simp only at hw1 hw2 hw3
  have hb0 : ∀ o, Below w1.heap.size w1 (w1.alloc o).drew := fun o => ((Below.refl _ _).alloc (Nat.le_refl _) o).drew
  have HB0 := hide hb0; clear hb0
  have II := hide (And.intro hi0 (And.intro hz0 (And.intro hz1 hz2))); clear hi0 hz0 hz1 hz2
  go_wp2_with fail
  refine wp_region_held_drew (S := fun w' => w'.cell? ⟨ps, 0, none⟩ = some (.slice (some ⟨bt, 0, none⟩) 101 101) ∧ w'.cell? ⟨ps, 1, none⟩ = some (.int .i64 c) ∧ w'.cell? ⟨w.heap.size, 2, none⟩ = some (.int .i64 fn)) (by kernel_rfl) ⟨h0, hc1, hbx⟩ (fun hHeld => ?_)
  refine takeAt 0 (some 31) (v := ?v0) (by decide) rfl (by kernel_rfl) (by kernel_rfl) (by kernel_rfl) (fun _ _ _ h => h) (by rfl) ?hy0 (by assumption) ?r0
  case hy0 => (intro wx hSw; go_simp; with_reducible rfl)
  simp only [Act.put, List.setIfInBounds_toArray, List.set_cons_zero, List.set_cons_succ]
  refine takeAt 1 (some 32) (v := ?v1) (by decide) rfl (by kernel_rfl) (by kernel_rfl) (by kernel_rfl) (fun _ _ _ h => h) (by rfl) ?hy1 (by assumption) ?r1
  case hy1 => (intro wx hSw; go_simp; with_reducible rfl)
  simp only [Act.put, List.setIfInBounds_toArray, List.set_cons_zero, List.set_cons_succ]
  refine takeAt 2 (some 33) (v := ?v2) (by decide) rfl (by kernel_rfl) (by kernel_rfl) (by kernel_rfl) (fun _ _ _ h => h) (by rfl) ?hy2 (by assumption) ?r2
  case hy2 => (intro wx hSw; go_simp; with_reducible rfl)
  simp only [Act.put, List.setIfInBounds_toArray, List.set_cons_zero, List.set_cons_succ]
  refine takeAt 3 (some 34) (v := ?v3) (by decide) rfl (by kernel_rfl) (by kernel_rfl) (by kernel_rfl) (fun _ _ _ h => h) (by rfl) ?hy3 (by assumption) ?r3
  case hy3 => (intro wx hSw; go_simp; with_reducible rfl)
  simp only [Act.put, List.setIfInBounds_toArray, List.set_cons_zero, List.set_cons_succ]
  refine takeAt 4 (some 35) (v := ?v4) (by decide) rfl (by kernel_rfl) (by kernel_rfl) (by kernel_rfl) (fun _ _ _ h => h) (by rfl) ?hy4 (by assumption) ?r4
  case hy4 => (intro wx hSw; go_simp; with_reducible rfl)
  simp only [Act.put, List.setIfInBounds_toArray, List.set_cons_zero, List.set_cons_succ]
  refine takeAt 5 (some 36) (v := ?v5) (by decide) rfl (by kernel_rfl) (by kernel_rfl) (by kernel_rfl) (fun _ _ _ h => h) (by rfl) ?hy5 (by assumption) ?r5
  case hy5 => (intro wx hSw; go_simp; with_reducible rfl)
  simp only [Act.put, List.setIfInBounds_toArray, List.set_cons_zero, List.set_cons_succ]
  refine takeAt 6 (some 37) (v := ?v6) (by decide) rfl (by kernel_rfl) (by kernel_rfl) (by kernel_rfl) (fun _ _ _ h => h) (by rfl) ?hy6 (by assumption) ?r6
  case hy6 => (intro wx hSw; go_simp; with_reducible rfl)
  simp only [Act.put, List.setIfInBounds_toArray, List.set_cons_zero, List.set_cons_succ]
  refine takeAt 7 (some 38) (v := ?v7) (by decide) rfl (by kernel_rfl) (by kernel_rfl) (by kernel_rfl) (fun _ _ _ h => h) (by rfl) ?hy7 (by assumption) ?r7
  case hy7 => (intro wx hSw; go_simp; with_reducible rfl)
  simp only [Act.put, List.setIfInBounds_toArray, List.set_cons_zero, List.set_cons_succ]
  refine takeAt 8 (some 39) (v := ?v8) (by decide) rfl (by kernel_rfl) (by kernel_rfl) (by kernel_rfl) (fun _ _ _ h => h) (by rfl) ?hy8 (by assumption) ?r8
  case hy8 => (intro wx hSw; go_simp; with_reducible rfl)
  simp only [Act.put, List.setIfInBounds_toArray, List.set_cons_zero, List.set_cons_succ]
  refine takeAt 9 (some 40) (v := ?v9) (by decide) rfl (by kernel_rfl) (by kernel_rfl) (by kernel_rfl) (fun _ _ _ h => h) (by rfl) ?hy9 (by assumption) ?r9
  case hy9 => (intro wx hSw; go_simp; with_reducible rfl)
  simp only [Act.put, List.setIfInBounds_toArray, List.set_cons_zero, List.set_cons_succ]
  refine takeAt 10 (some 41) (v := ?v10) (by decide) rfl (by kernel_rfl) (by kernel_rfl) (by kernel_rfl) (fun _ _ _ h => h) (by rfl) ?hy10 (by assumption) ?r10
  case hy10 => (intro wx hSw; go_simp; with_reducible rfl)
  simp only [Act.put, List.setIfInBounds_toArray, List.set_cons_zero, List.set_cons_succ]
  refine takeAt 11 (some 42) (v := ?v11) (by decide) rfl (by kernel_rfl) (by kernel_rfl) (by kernel_rfl) (fun _ _ _ h => h) (by rfl) ?hy11 (by assumption) ?r11
  case hy11 => (intro wx hSw; go_simp; with_reducible rfl)
  simp only [Act.put, List.setIfInBounds_toArray, List.set_cons_zero, List.set_cons_succ]
  refine takeAt 12 (some 43) (v := ?v12) (by decide) rfl (by kernel_rfl) (by kernel_rfl) (by kernel_rfl) (fun _ _ _ h => h) (by rfl) ?hy12 (by assumption) ?r12
  case hy12 => (intro wx hSw; go_simp; with_reducible rfl)
  simp only [Act.put, List.setIfInBounds_toArray, List.set_cons_zero, List.set_cons_succ]
  refine takeAt 13 (some 44) (v := ?v13) (by decide) rfl (by kernel_rfl) (by kernel_rfl) (by kernel_rfl) (fun _ _ _ h => h) (by rfl) ?hy13 (by assumption) ?r13
  case hy13 => (intro wx hSw; go_simp; with_reducible rfl)
  simp only [Act.put, List.setIfInBounds_toArray, List.set_cons_zero, List.set_cons_succ]
  refine takeAt 14 (some 45) (v := ?v14) (by decide) rfl (by kernel_rfl) (by kernel_rfl) (by kernel_rfl) (fun _ _ _ h => h) (by rfl) ?hy14 (by assumption) ?r14
  case hy14 => (intro wx hSw; go_simp; with_reducible rfl)
  simp only [Act.put, List.setIfInBounds_toArray, List.set_cons_zero, List.set_cons_succ]
  refine takeAt 15 (some 46) (v := ?v15) (by decide) rfl (by kernel_rfl) (by kernel_rfl) (by kernel_rfl) (fun _ _ _ h => h) (by rfl) ?hy15 (by assumption) ?r15
  case hy15 => (intro wx hSw; go_simp; with_reducible rfl)
  simp only [Act.put, List.setIfInBounds_toArray, List.set_cons_zero, List.set_cons_succ]
  refine takeAt 16 (some 47) (v := ?v16) (by decide) rfl (by kernel_rfl) (by kernel_rfl) (by kernel_rfl) (fun _ _ _ h => h) (by rfl) ?hy16 (by assumption) ?r16
  case hy16 => (intro wx hSw; go_simp; with_reducible rfl)
  simp only [Act.put, List.setIfInBounds_toArray, List.set_cons_zero, List.set_cons_succ]
  refine takeAt 18 (some 49) (v := ?v18) (by decide) rfl (by kernel_rfl) (by kernel_rfl) (by kernel_rfl) (fun _ _ _ h => h) (by rfl) ?hy18 (by assumption) ?r18
  case hy18 => (intro wx hSw; go_simp; with_reducible rfl)
  simp only [Act.put, List.setIfInBounds_toArray, List.set_cons_zero, List.set_cons_succ]
  refine takeAt 19 (some 50) (v := ?v19) (by decide) rfl (by kernel_rfl) (by kernel_rfl) (by kernel_rfl) (fun _ _ _ h => h) (by rfl) ?hy19 (by assumption) ?r19
  case hy19 => (intro wx hSw; go_simp; with_reducible rfl)
  simp only [Act.put, List.setIfInBounds_toArray, List.set_cons_zero, List.set_cons_succ]
  refine takeAt 20 (some 51) (v := ?v20) (by decide) rfl (by kernel_rfl) (by kernel_rfl) (by kernel_rfl) (fun _ _ _ h => h) (by rfl) ?hy20 (by assumption) ?r20
  case hy20 => (intro wx hSw; go_simp; with_reducible rfl)
  simp only [Act.put, List.setIfInBounds_toArray, List.set_cons_zero, List.set_cons_succ]
  refine takeAt 21 (some 52) (v := ?v21) (by decide) rfl (by kernel_rfl) (by kernel_rfl) (by kernel_rfl) (fun _ _ _ h => h) (by rfl) ?hy21 (by assumption) ?r21
  case hy21 => (intro wx hSw; go_simp; with_reducible rfl)
  simp only [Act.put, List.setIfInBounds_toArray, List.set_cons_zero, List.set_cons_succ]
  refine wpAnyH_ready (rs := [17, 22]) (by kernel_rfl) (by simp) ?_
  refine AllReadyH.cons rfl (fun K hK => ?_) (AllReadyH.cons rfl (fun K hK => ?_) AllReadyH.nil)
  · go_simp
    refine hK.out _ _ hHeld (fun hHeld => ?_)
    clear hK K
    refine wpAnyH_ready (rs := [22]) (by kernel_rfl) (by simp) ?_
    refine AllReadyH.cons rfl (fun K hK => ?_) AllReadyH.nil
    go_simp
    refine hK.out _ _ ⟨cell_below (unhide HB0 _) h0, cell_below (unhide HB0 _) hc1, cell_below (unhide HB0 _) hbx⟩ (fun hHeld => ?_)
    clear hK K
    refine wpAnyH_ready (rs := [23]) (by kernel_rfl) (by simp) ?_
    refine AllReadyH.cons rfl (fun K hK => ?_) AllReadyH.nil
    refine step_append_lies _ (by rfl) _ _ _ (by rfl) B 105 i0 _ 3 24 Try.underlying100 (unhide II).1 (unhide II).2.1 (unhide II).2.2.1 (unhide II).2.2.2 rfl (by omega) (.slice a n cap) n (frCells (s.tasks s.cur).reverse) (by rfl) (((unhide HO).alloc _).drew)
      ⟨w1.heap.size, 0, none⟩ 1 1 [.int .i64 fn, .int .i64 0, .int .i64 i] (by rfl) (by rfl) (World.news_of_block (cs := #[.int .i64 fn, .int .i64 0, .int .i64 i]) (t := 105) (fr := (0, 0)) (heap_alloc_new w1 _)) (by simp [Value.oneCell'])
      (by omega) (by unfold maxLen; omega) (by omega) (by simp; omega) (w1.heap.size + 1) (by simp) ?_
    intro g cap' w2 hown1 hgrow hat hlt
    have hx : w2.cell? ⟨bt, c, none⟩ = some (.slice a n cap) := by
      rw [hgrow.cell_far _ (by simp; omega) (Ne.symm (unhide NT))]; exact cell_below (unhide HB0 _) hc
    have hx2 : w2.frozen? ⟨bt, c, none⟩ = false := by
      rw [hgrow.frozen_far _ (by simp; omega) (Ne.symm (unhide NT)), (unhide HB0 _).frozen hw3]; exact hfz
    have hx3 : w2.cell? ⟨ps, 0, none⟩ = some (.slice (some ⟨bt, 0, none⟩) 101 101) := by
      rw [hgrow.cell_far _ (by simp; omega) (Ne.symm (unhide NP))]; exact hHeld.1
    have hx4 : w2.cell? ⟨ps, 1, none⟩ = some (.int .i64 c) := by
      rw [hgrow.cell_far _ (by simp; omega) (Ne.symm (unhide NP))]; exact hHeld.2.1
    have hx5 : w2.cell? ⟨w.heap.size, 2, none⟩ = some (.int .i64 fn) := by
      rw [hgrow.cell_far _ (by simp; omega) (unhide NM)]; exact hHeld.2.2
    have HG := hide hgrow
    have HW := hide hown1
    have HA := hide hat
    refine hK.out _ _ ⟨hx3, hx4, hx5⟩ (fun hHeld => ?_)
    clear hK K hown1 hgrow hat
    simp only [Act.put, List.setIfInBounds_toArray, List.getElem_toArray, List.getElem_cons_succ, List.getElem_cons_zero, List.set_cons_zero, List.set_cons_succ]
    refine takeAt 24 (some 55) (v := ?v24a) (by decide) rfl (by kernel_rfl) (by kernel_rfl) (by kernel_rfl) (fun _ _ _ h => h) (by rfl) ?hy24a (by assumption) ?r24a
    case hy24a => (intro wx hSw; go_simp; with_reducible rfl)
    simp only [Act.put, List.setIfInBounds_toArray, List.set_cons_zero, List.set_cons_succ]
    refine wpAnyH_ready (rs := [25]) (by kernel_rfl) (by simp) ?_
    refine AllReadyH.cons rfl (fun K hK => ?_) AllReadyH.nil
    go_simp
    refine hK.out _ _ ⟨cell_set_ne (unhide NE).1 hx3, cell_set_ne (unhide NE).1 hx4, cell_set_ne (unhide NE).2 hx5⟩ (fun hHeld => ?_)
    clear hK K
    refine wpAnyH_done (by kernel_rfl) ?_ _
    go_wp2
    go_ret
    refine ⟨by rw [(unhide E3).1]; rfl, fun _ => ?_, ?_, ?_⟩
    · rw [(unhide E3).2]
      have e := unhide HCC
      subst e
      refine ⟨bt, _, SpecCore.putRow (l := ⟨fn, 0, i⟩ :: s.tasks s.cur) (g := g) ((unhide HC).grown (unhide HB0 _)) (by rw [unhide HV]; exact unhide HG) ?_ rfl ?_ (by simp only [List.length_cons]; rw [← unhide HN]; omega)⟩
      · rw [List.length_cons, ← unhide HN, List.reverse_cons, frCells_app]
        exact unhide HW
      · rw [unhide HV]
        rcases unhide HA with h | h
        · exact .inl h
        · right; simp; omega
    · refine Below.setCell ?_ hbt _
      refine Below.grown ((((unhide HB1).mono hB).alloc (by omega) _).drew) (unhide HG) (by simp; omega) (fun k hk => ((unhide HO).lt k hk).1)
    · refine Keeps.of_out (fun b => b = bt ∨ (V s.cur).ownBlock = some b) (fun b hb hx => ?_) (fun b hx => ?_)
      · rw [Below.heap_setCell _ _ _ _ (fun e => hx (.inl e)), (unhide HG).block b (by have := (unhide HB1).size; simp; omega) (fun e => hx (.inr (by rw [unhide HV]; exact e.symm)))]
        exact (((unhide HB1).alloc (unhide HB1).size _).drew).block b hb
      · rcases hx with rfl | hx
        · exact .inr (.inr (unhide KT).1)
        · exact .inr (.inl ((unhide KT).2 s.cur (unhide HC).cur b hx))
  · go_simp
    refine hK.out _ _ ⟨cell_below (unhide HB0 _) h0, cell_below (unhide HB0 _) hc1, cell_below (unhide HB0 _) hbx⟩ (fun hHeld => ?_)
    clear hK K
    have hcc2 := cell_below (unhide HB0 (.cells #[.int .i64 fn, .int .i64 0, .int .i64 i] 105)) hc
    refine wpAnyH_ready (rs := [17]) (by kernel_rfl) (by simp) ?_
    refine AllReadyH.cons rfl (fun K hK => ?_) AllReadyH.nil
    go_simp
    refine hK.out _ _ hHeld (fun hHeld => ?_)
    clear hK K hcc2
    refine wpAnyH_ready (rs := [23]) (by kernel_rfl) (by simp) ?_
    refine AllReadyH.cons rfl (fun K hK => ?_) AllReadyH.nil
    refine step_append_lies _ (by rfl) _ _ _ (by rfl) B 105 i0 _ 3 24 Try.underlying100 (unhide II).1 (unhide II).2.1 (unhide II).2.2.1 (unhide II).2.2.2 rfl (by omega) (.slice a n cap) n (frCells (s.tasks s.cur).reverse) (by rfl) (((unhide HO).alloc _).drew)
      ⟨w1.heap.size, 0, none⟩ 1 1 [.int .i64 fn, .int .i64 0, .int .i64 i] (by rfl) (by rfl) (World.news_of_block (cs := #[.int .i64 fn, .int .i64 0, .int .i64 i]) (t := 105) (fr := (0, 0)) (heap_alloc_new w1 _)) (by simp [Value.oneCell'])
      (by omega) (by unfold maxLen; omega) (by omega) (by simp; omega) (w1.heap.size + 1) (by simp) ?_
    intro g cap' w2 hown1 hgrow hat hlt
    have hx : w2.cell? ⟨bt, c, none⟩ = some (.slice a n cap) := by
      rw [hgrow.cell_far _ (by simp; omega) (Ne.symm (unhide NT))]; exact cell_below (unhide HB0 _) hc
    have hx2 : w2.frozen? ⟨bt, c, none⟩ = false := by
      rw [hgrow.frozen_far _ (by simp; omega) (Ne.symm (unhide NT)), (unhide HB0 _).frozen hw3]; exact hfz
    have hx3 : w2.cell? ⟨ps, 0, none⟩ = some (.slice (some ⟨bt, 0, none⟩) 101 101) := by
      rw [hgrow.cell_far _ (by simp; omega) (Ne.symm (unhide NP))]; exact hHeld.1
    have hx4 : w2.cell? ⟨ps, 1, none⟩ = some (.int .i64 c) := by
      rw [hgrow.cell_far _ (by simp; omega) (Ne.symm (unhide NP))]; exact hHeld.2.1
    have hx5 : w2.cell? ⟨w.heap.size, 2, none⟩ = some (.int .i64 fn) := by
      rw [hgrow.cell_far _ (by simp; omega) (unhide NM)]; exact hHeld.2.2
    have HG := hide hgrow
    have HW := hide hown1
    have HA := hide hat
    refine hK.out _ _ ⟨hx3, hx4, hx5⟩ (fun hHeld => ?_)
    clear hK K hown1 hgrow hat
    simp only [Act.put, List.setIfInBounds_toArray, List.getElem_toArray, List.getElem_cons_succ, List.getElem_cons_zero, List.set_cons_zero, List.set_cons_succ]
    refine takeAt 24 (some 55) (v := ?v24b) (by decide) rfl (by kernel_rfl) (by kernel_rfl) (by kernel_rfl) (fun _ _ _ h => h) (by rfl) ?hy24b (by assumption) ?r24b
    case hy24b => (intro wx hSw; go_simp; with_reducible rfl)
    simp only [Act.put, List.setIfInBounds_toArray, List.set_cons_zero, List.set_cons_succ]
    refine wpAnyH_ready (rs := [25]) (by kernel_rfl) (by simp) ?_
    refine AllReadyH.cons rfl (fun K hK => ?_) AllReadyH.nil
    go_simp
    refine hK.out _ _ ⟨cell_set_ne (unhide NE).1 hx3, cell_set_ne (unhide NE).1 hx4, cell_set_ne (unhide NE).2 hx5⟩ (fun hHeld => ?_)
    clear hK K
    refine wpAnyH_done (by kernel_rfl) ?_ _
    go_wp2
    go_ret
    refine ⟨by rw [(unhide E3).1]; rfl, fun _ => ?_, ?_, ?_⟩
    · rw [(unhide E3).2]
      have e := unhide HCC
      subst e
      refine ⟨bt, _, SpecCore.putRow (l := ⟨fn, 0, i⟩ :: s.tasks s.cur) (g := g) ((unhide HC).grown (unhide HB0 _)) (by rw [unhide HV]; exact unhide HG) ?_ rfl ?_ (by simp only [List.length_cons]; rw [← unhide HN]; omega)⟩
      · rw [List.length_cons, ← unhide HN, List.reverse_cons, frCells_app]
        exact unhide HW
      · rw [unhide HV]
        rcases unhide HA with h | h
        · exact .inl h
        · right; simp; omega
    · refine Below.setCell ?_ hbt _
      refine Below.grown ((((unhide HB1).mono hB).alloc (by omega) _).drew) (unhide HG) (by simp; omega) (fun k hk => ((unhide HO).lt k hk).1)
    · refine Keeps.of_out (fun b => b = bt ∨ (V s.cur).ownBlock = some b) (fun b hb hx => ?_) (fun b hx => ?_)
      · rw [Below.heap_setCell _ _ _ _ (fun e => hx (.inl e)), (unhide HG).block b (by have := (unhide HB1).size; simp; omega) (fun e => hx (.inr (by rw [unhide HV]; exact e.symm)))]
        exact (((unhide HB1).alloc (unhide HB1).size _).drew).block b hb
      · rcases hx with rfl | hx
        · exact .inr (.inr (unhide KT).1)
        · exact .inr (.inl ((unhide KT).2 s.cur (unhide HC).cur b hx))

end Go.Proofs.Ytoiacbdnkkolmab
