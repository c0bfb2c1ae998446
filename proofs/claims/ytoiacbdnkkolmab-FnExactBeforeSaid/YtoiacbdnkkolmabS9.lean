import Derived.Test.YtoiacbdnkkolmabS8
namespace Go.Proofs.Ytoiacbdnkkolmab
open Go.RowKit

attribute [local go_sem ↓] Go.wp_at_zero Go.wp_at_succ

theorem owns_pop {w : World} {B : Nat} {e : TypeId} {g cap : Nat} {f : Fr} {r : List Fr} (h : w.ownsRow B e 3 (.slice (some ⟨g, 0, none⟩) (r.length + 1) cap) (f :: r).length (frCells (f :: r).reverse)) :
    w.ownsRow B e 3 (.slice (some ⟨g, 0, none⟩) r.length cap) r.length (frCells r.reverse) ∧ r.length + 1 ≤ cap := by
  have hl : (frCells r.reverse).length = r.length * 3 := by rw [frCells_len, List.length_reverse]
  have e1 : frCells (f :: r).reverse = frCells r.reverse ++ [.int .i64 f.fn, .int .i64 f.line, .int .i64 f.frm] := by rw [List.reverse_cons, frCells_app]; rfl
  rcases h.2 with ⟨h, _⟩ | ⟨g', cap', cur, hv, -, -, h1, -⟩
  · cases h
  · cases hv
    have h' := h
    rw [e1] at h'
    exact ⟨ownsRow_pop hl h', by simpa using h1⟩

set_option maxRecDepth 100000 in
set_option maxHeartbeats 2000000 in
theorem move_back2 (B ps : Nat) (s : St) (k t fn l i : Int) (tx : ByteArray) (v : Value) (w : World) (h : SpecAt B w ps s) (ht : t = s.cur) (hk7 : (k == 7) = false) (hk2 : (k == 2) = false) (f : Fr) (r : List Fr) (hf : (fn != topFn (s.tasks s.cur)) = false) (hk3 : (k == 3) = true) (hs : s.tasks s.cur = f :: r) (hfr : decide (f.frm < 0) = false) :
    Calls Try.prog 75 #[.pointer (some ⟨ps, 0, none⟩), .agg #[.int .i64 k, .int .i64 t, .int .i64 fn, .int .i64 l, .string tx, v], .int .i64 i] w (Moved B w ps s k t fn l i) := by
  subst ht
  have H := hide h
  have hB := h.base
  obtain ⟨bt, V, hh⟩ := h
  have KT := hide hh.kinds
  have HH := hide hh
  have hp := hh.hp
  have h0 := hh.c0
  have hc1 := hh.c1
  have hi2 := hh.cur
  have hi4 := hh.len _ hi2
  have HL := hide ((hh.own _ hi2).lt)
  have NE : Hid (bt ≠ ps ∧ bt ≠ w.heap.size) := ⟨Ne.symm hh.ne, by have := hh.row.lt; omega⟩
  have hbt := hh.hbt
  clear hh
  have hz := cell_lt h0
  simp only at hz
  have n7 : k ≠ 7 := by simpa using hk7
  have n2 : k ≠ 2 := by simpa using hk2
  have E3 : Hid (code s k (s.cur : Int) fn = 0 ∧ s.step k (s.cur : Int) fn l i = s.put r) := by
    have n3 : k = 3 := by simpa using hk3
    have : fn = topFn (s.tasks s.cur) := by simpa using hf
    refine hide ⟨?_, ?_⟩
    · simp [code, n3, this, hs, topFrom]
      simpa using hfr
    · simp [St.step, n3, hs]
  have hk1 : (k == 1) = false := by have : k = 3 := by simpa using hk3
                                    rw [this]; rfl
  clear n7 n2
  have hne : ps ≠ w.heap.size := by omega
  go_enter Try.func75, Try.ntmps75
  go_wp2
  go_quiet (fail)
  go_wp2_with fail
  refine (top_any B ps s _ ((unhide H).below (by exact below_drewN ((Below.refl _ _).alloc (Nat.le_refl _) _) _))).mono ?_
  rintro e w1 ⟨rfl, q, hq⟩
  have hbx0 : w1.cell? ⟨w.heap.size, 0, none⟩ = some (.int .i64 k) := by rw [hq]; simp
  have hbx2 : w1.cell? ⟨w.heap.size, 2, none⟩ = some (.int .i64 fn) := by rw [hq]; simp
  have hbx3 : w1.cell? ⟨w.heap.size, 3, none⟩ = some (.int .i64 l) := by rw [hq]; simp
  have HB1 : Hid (Below w.heap.size w w1) := by rw [hq]; exact hide (below_drewN (below_drewN ((Below.refl _ _).alloc (Nat.le_refl _) _) _) _)
  clear hq h0 hc1
  have HF : Hid (∀ m, Calls Try.prog 116 #[.pointer (some ⟨ps, 0, none⟩)] (w1.drewN m) fun e w' => e = .returned (.int .i64 (topFn (s.tasks s.cur))) ∧ ∃ q', w' = (w1.drewN m).drewN q') :=
    hide fun m => fn_any B ps s _ (((unhide H).below (unhide HB1)).below (below_drewN' w1 m))
  have HC := hide ((unhide HH).grown (unhide HB1))
  have h0 := (unhide HC).c0
  have hc1 := (unhide HC).c1
  have ho := (unhide HC).own _ hi2
  rw [hs] at ho
  obtain ⟨g, cap, hV, hgB, hgl, k0, k1, k2, kf⟩ := owns_top ho
  have HCA := hide ho
  have hgp : g ≠ ps := fun e => (unhide HC).nps _ hi2 (by rw [hV, e]; rfl)
  have hgt : g ≠ bt := fun e => (unhide HC).nbt _ hi2 (by rw [hV, e]; rfl)
  have hgm : g ≠ w.heap.size := fun e => by have := (unhide HL g (by rw [hV]; rfl)).2; omega
  have hc := (unhide HC).row.cell hi2
  have hrf := (unhide HC).row.frozen s.cur
  rw [hV] at hc
  have hlen : (((s.tasks s.cur).length : Nat) : Int) - 1 = (r.length : Int) := by rw [hs]; simp
  have hr200 : r.length < 200 := by rw [hs] at hi4; simp at hi4; omega
  have hw1 := cell_lt hbx2
  simp only at hw1
  rw [hlen]
  have HLEN := hide hlen; clear hlen
  have HV := hide hV; clear hV
  have HS := hide hs; clear hs ho
  have NG := hide (And.intro hgp (And.intro hgt hgm)); clear hgp hgt hgm
  obtain ⟨n, hn⟩ : ∃ n, n = r.length := ⟨_, rfl⟩
  obtain ⟨c, hcc⟩ : ∃ c, c = s.cur := ⟨_, rfl⟩
  rw [← hn] at k0 k1 k2 kf hc hr200
  rw [← hn]
  rw [← hcc] at hi2 hc1 hc hrf
  have HN := hide hn; clear hn
  have HCC := hide hcc; clear hcc
  clear hi4
  go_wp2_with fail
  go_quiet ((go_at_call 116; exact Calls.quiet_of (unhide HF _)))
  generalize hw2 : w1.drewN _ = w2
  have HB2 : Hid (Below w1.heap.size w1 w2) := by rw [← hw2]; exact hide (below_drewN' _ _)
  have HC2 := hide ((unhide HC).grown (unhide HB2))
  have h0 := cell_below (unhide HB2) h0
  have hc1 := cell_below (unhide HB2) hc1
  have hbx0 := cell_below (unhide HB2) hbx0
  have hbx3 := cell_below (unhide HB2) hbx3
  have hcOld := hc
  have hc := cell_below (unhide HB2) hc
  have kf' : w2.frozen? ⟨g, n * 3 + 1, none⟩ = false := by rw [(unhide HB2).frozen (cell_lt k1)]; exact kf
  have hrf' : w2.frozen? ⟨bt, c, none⟩ = false := by rw [(unhide HB2).frozen (cell_lt hcOld)]; exact hrf
  have k1 := cell_below (unhide HB2) k1
  have k2 := cell_below (unhide HB2) k2
  clear hw2 HF hrf kf
  have hj1 : (0 : Int) ≤ (c : Int) := by omega
  have hj2 : (c : Int) < 101 := by omega
  have hj3 : (0 : Int) ≤ (n : Int) := by omega
  have hj4 : (n : Int) < (n : Int) + 1 := by omega
  have hg1 : decide ((n : Int) < 0) = false := by simp
  have HPOP : Hid (w2.ownsRow B 105 3 (.slice (some ⟨g, 0, none⟩) n cap) n (frCells r.reverse) ∧ n + 1 ≤ cap) := by
    have h1 := (unhide HC2).own s.cur (unhide HC2).cur
    rw [unhide HV, unhide HS] at h1
    have e := unhide HN
    subst e
    exact hide (owns_pop h1)
  have hj5 : (n : Int) ≤ (cap : Int) := by have := (unhide HPOP).2; omega
  go_wp2_with fail
  go_quiet (fail)
  generalize hw3 : w2.drewN _ = w3
  have HB3 : Hid (Below w2.heap.size w2 w3) := by rw [← hw3]; exact hide (below_drewN' _ _)
  have HC3 := hide ((unhide HC2).grown (unhide HB3))
  have h0 := cell_below (unhide HB3) h0
  have hc1 := cell_below (unhide HB3) hc1
  have hrf'' : w3.frozen? ⟨bt, c, none⟩ = false := by rw [(unhide HB3).frozen (cell_lt hc)]; exact hrf'
  have hc := cell_below (unhide HB3) hc
  clear hw3 hrf' k1 k2
  go_wp2_with fail
  refine wp_region_held_drew (S := fun w' => w'.cell? ⟨ps, 0, none⟩ = some (.slice (some ⟨bt, 0, none⟩) 101 101) ∧ w'.cell? ⟨ps, 1, none⟩ = some (.int .i64 c)) (by kernel_rfl) ⟨h0, hc1⟩ (fun hHeld => ?_)
  refine takeAt 0 (some 103) (v := ?v0) (by decide) rfl (by kernel_rfl) (by kernel_rfl) (by kernel_rfl) (fun _ _ _ h => h) (by rfl) ?hy0 (by assumption) ?r0
  case hy0 => (intro wx hSw; go_simp; with_reducible rfl)
  simp only [Act.put, List.setIfInBounds_toArray, List.set_cons_zero, List.set_cons_succ]
  refine takeAt 1 (some 104) (v := ?v1) (by decide) rfl (by kernel_rfl) (by kernel_rfl) (by kernel_rfl) (fun _ _ _ h => h) (by rfl) ?hy1 (by assumption) ?r1
  case hy1 => (intro wx hSw; go_simp; with_reducible rfl)
  simp only [Act.put, List.setIfInBounds_toArray, List.set_cons_zero, List.set_cons_succ]
  refine takeAt 2 (some 105) (v := ?v2) (by decide) rfl (by kernel_rfl) (by kernel_rfl) (by kernel_rfl) (fun _ _ _ h => h) (by rfl) ?hy2 (by assumption) ?r2
  case hy2 => (intro wx hSw; go_simp; with_reducible rfl)
  simp only [Act.put, List.setIfInBounds_toArray, List.set_cons_zero, List.set_cons_succ]
  refine takeAt 3 (some 106) (v := ?v3) (by decide) rfl (by kernel_rfl) (by kernel_rfl) (by kernel_rfl) (fun _ _ _ h => h) (by rfl) ?hy3 (by assumption) ?r3
  case hy3 => (intro wx hSw; go_simp; with_reducible rfl)
  simp only [Act.put, List.setIfInBounds_toArray, List.set_cons_zero, List.set_cons_succ]
  refine takeAt 4 (some 107) (v := ?v4) (by decide) rfl (by kernel_rfl) (by kernel_rfl) (by kernel_rfl) (fun _ _ _ h => h) (by rfl) ?hy4 (by assumption) ?r4
  case hy4 => (intro wx hSw; go_simp; with_reducible rfl)
  simp only [Act.put, List.setIfInBounds_toArray, List.set_cons_zero, List.set_cons_succ]
  refine takeAt 5 (some 108) (v := ?v5) (by decide) rfl (by kernel_rfl) (by kernel_rfl) (by kernel_rfl) (fun _ _ _ h => h) (by rfl) ?hy5 (by assumption) ?r5
  case hy5 => (intro wx hSw; go_simp; with_reducible rfl)
  simp only [Act.put, List.setIfInBounds_toArray, List.set_cons_zero, List.set_cons_succ]
  refine takeAt 6 (some 109) (v := ?v6) (by decide) rfl (by kernel_rfl) (by kernel_rfl) (by kernel_rfl) (fun _ _ _ h => h) (by rfl) ?hy6 (by assumption) ?r6
  case hy6 => (intro wx hSw; go_simp; with_reducible rfl)
  simp only [Act.put, List.setIfInBounds_toArray, List.set_cons_zero, List.set_cons_succ]
  refine takeAt 7 (some 110) (v := ?v7) (by decide) rfl (by kernel_rfl) (by kernel_rfl) (by kernel_rfl) (fun _ _ _ h => h) (by rfl) ?hy7 (by assumption) ?r7
  case hy7 => (intro wx hSw; go_simp; with_reducible rfl)
  simp only [Act.put, List.setIfInBounds_toArray, List.set_cons_zero, List.set_cons_succ]
  refine takeAt 8 (some 111) (v := ?v8) (by decide) rfl (by kernel_rfl) (by kernel_rfl) (by kernel_rfl) (fun _ _ _ h => h) (by rfl) ?hy8 (by assumption) ?r8
  case hy8 => (intro wx hSw; go_simp; with_reducible rfl)
  simp only [Act.put, List.setIfInBounds_toArray, List.set_cons_zero, List.set_cons_succ]
  refine takeAt 9 (some 112) (v := ?v9) (by decide) rfl (by kernel_rfl) (by kernel_rfl) (by kernel_rfl) (fun _ _ _ h => h) (by rfl) ?hy9 (by assumption) ?r9
  case hy9 => (intro wx hSw; go_simp; with_reducible rfl)
  simp only [Act.put, List.setIfInBounds_toArray, List.set_cons_zero, List.set_cons_succ]
  refine takeAt 10 (some 113) (v := ?v10) (by decide) rfl (by kernel_rfl) (by kernel_rfl) (by kernel_rfl) (fun _ _ _ h => h) (by rfl) ?hy10 (by assumption) ?r10
  case hy10 => (intro wx hSw; go_simp; with_reducible rfl)
  simp only [Act.put, List.setIfInBounds_toArray, List.set_cons_zero, List.set_cons_succ]
  refine takeAt 11 (some 114) (v := ?v11) (by decide) rfl (by kernel_rfl) (by kernel_rfl) (by kernel_rfl) (fun _ _ _ h => h) (by rfl) ?hy11 (by assumption) ?r11
  case hy11 => (intro wx hSw; go_simp; with_reducible rfl)
  simp only [Act.put, List.setIfInBounds_toArray, List.set_cons_zero, List.set_cons_succ]
  refine takeAt 12 (some 115) (v := ?v12) (by decide) rfl (by kernel_rfl) (by kernel_rfl) (by kernel_rfl) (fun _ _ _ h => h) (by rfl) ?hy12 (by assumption) ?r12
  case hy12 => (intro wx hSw; go_simp; with_reducible rfl)
  simp only [Act.put, List.setIfInBounds_toArray, List.set_cons_zero, List.set_cons_succ]
  refine takeAt 13 (some 116) (v := ?v13) (by decide) rfl (by kernel_rfl) (by kernel_rfl) (by kernel_rfl) (fun _ _ _ h => h) (by rfl) ?hy13 (by assumption) ?r13
  case hy13 => (intro wx hSw; go_simp; with_reducible rfl)
  simp only [Act.put, List.setIfInBounds_toArray, List.set_cons_zero, List.set_cons_succ]
  refine takeAt 14 (some 117) (v := ?v14) (by decide) rfl (by kernel_rfl) (by kernel_rfl) (by kernel_rfl) (fun _ _ _ h => h) (by rfl) ?hy14 (by assumption) ?r14
  case hy14 => (intro wx hSw; go_simp; with_reducible rfl)
  simp only [Act.put, List.setIfInBounds_toArray, List.set_cons_zero, List.set_cons_succ]
  refine takeAt 15 (some 118) (v := ?v15) (by decide) rfl (by kernel_rfl) (by kernel_rfl) (by kernel_rfl) (fun _ _ _ h => h) (by rfl) ?hy15 (by assumption) ?r15
  case hy15 => (intro wx hSw; go_simp; with_reducible rfl)
  simp only [Act.put, List.setIfInBounds_toArray, List.set_cons_zero, List.set_cons_succ]
  refine takeAt 16 (some 119) (v := ?v16) (by decide) rfl (by kernel_rfl) (by kernel_rfl) (by kernel_rfl) (fun _ _ _ h => h) (by rfl) ?hy16 (by assumption) ?r16
  case hy16 => (intro wx hSw; go_simp; with_reducible rfl)
  simp only [Act.put, List.setIfInBounds_toArray, List.set_cons_zero, List.set_cons_succ]
  refine takeAt 18 (some 121) (v := ?v18) (by decide) rfl (by kernel_rfl) (by kernel_rfl) (by kernel_rfl) (fun _ _ _ h => h) (by rfl) ?hy18 (by assumption) ?r18
  case hy18 => (intro wx hSw; go_simp; with_reducible rfl)
  simp only [Act.put, List.setIfInBounds_toArray, List.set_cons_zero, List.set_cons_succ]
  refine wpAnyH_ready (rs := [17]) (by kernel_rfl) (by simp) ?_
  refine AllReadyH.cons rfl (fun K hK => ?_) AllReadyH.nil
  go_simp
  refine hK.out _ _ hHeld (fun hHeld => ?_)
  clear hK K
  refine takeAt 19 (some 122) (v := ?v19) (by decide) rfl (by kernel_rfl) (by kernel_rfl) (by kernel_rfl) (fun _ _ _ h => h) (by rfl) ?hy19 (by assumption) ?r19
  case hy19 => (intro wx hSw; go_simp; with_reducible rfl)
  simp only [Act.put, List.setIfInBounds_toArray, List.set_cons_zero, List.set_cons_succ]
  refine takeAt 20 (some 123) (v := ?v20) (by decide) rfl (by kernel_rfl) (by kernel_rfl) (by kernel_rfl) (fun _ _ _ h => h) (by rfl) ?hy20 (by assumption) ?r20
  case hy20 => (intro wx hSw; go_simp; with_reducible rfl)
  simp only [Act.put, List.setIfInBounds_toArray, List.set_cons_zero, List.set_cons_succ]
  refine wpAnyH_ready (rs := [21]) (by kernel_rfl) (by simp) ?_
  refine AllReadyH.cons rfl (fun K hK => ?_) AllReadyH.nil
  go_simp
  refine hK.out _ _ ⟨cell_set_drew (unhide NE).1 h0, cell_set_drew (unhide NE).1 hc1⟩ (fun hHeld => ?_)
  clear hK K
  refine wpAnyH_done (by kernel_rfl) ?_ _
  go_wp2
  go_ret
  refine ⟨by rw [(unhide E3).1]; rfl, fun _ => ?_, ?_, ?_⟩
  · rw [(unhide E3).2]
    have e := unhide HN
    subst e
    have e2 := unhide HCC
    subst e2
    have hgg : w3.grownBy w3.drew (V s.cur).ownBlock := ⟨rfl, rfl, rfl, Nat.le_refl _, fun _ _ _ => rfl⟩
    refine ⟨bt, _, SpecCore.putRow (l := r) (g := g) (unhide HC3) hgg ?_ rfl ?_ (by omega)⟩
    · have hg : w2.grownBy w3 none := ⟨(unhide HB3).os, (unhide HB3).tape, (unhide HB3).output, (unhide HB3).size, fun k hk _ => (unhide HB3).block k hk⟩
      exact ((unhide HPOP).1.kept hg (.inr (by simp [Value.ownBlock]))).drew
    · left; rw [unhide HV]; rfl
  · exact ((((unhide HB1).mono hB).trans ((unhide HB2).mono (by omega))).trans ((unhide HB3).mono (by have := (unhide HB2).size; omega))).setCell (p := ⟨bt, c, none⟩) hbt _ |>.drew
  · refine Keeps.drew (Keeps.of_out (fun b => b = bt) (fun b hb hx => ?_) (fun b hx => .inr (.inr (by rw [hx]; exact (unhide KT).1))))
    rw [Below.heap_setCell _ _ _ _ hx]
    exact (((unhide HB1).trans ((unhide HB2).mono (unhide HB1).size)).trans ((unhide HB3).mono (Nat.le_trans (unhide HB1).size (unhide HB2).size))).block b hb

end Go.Proofs.Ytoiacbdnkkolmab
