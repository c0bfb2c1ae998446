import Derived.Test.YtoiacbdnkkolmabC17
namespace Go.Proofs.Ytoiacbdnkkolmab
open Go.RowKit Go.Lib Go.Maps

section
variable {lo : Nat} {w W W' : World} {g N : Nat} {T : Tree} {nb ni : Nat → Nat} {om : Nat} {of : Int → Option Nat} {mv : Value} {num : Nat → Int}

/-- All blocks of the tree lie below B. -/
structure Blocks (B g : Nat) (T : Tree) (nb ni : Nat → Nat) (om : Nat) (mv : Value) : Prop where
  g : g < B
  b : ∀ j, j ≤ T.bs.length → nb j < B
  i : ∀ j, j ≤ T.bs.length → ni j < B
  o : om < B
  m : ∀ b, mv.ownBlock = some b → b < B

theorem ImT.blocks (h : ImT lo w g N T nb ni om of mv num) : Blocks w.heap.size g T nb ni om mv :=
  ⟨heap_lt' h.hg, fun j hj => by obtain ⟨cs, hc⟩ := h.nodeAny j hj; exact heap_lt' hc, fun j hj => (h.inner j hj).lt, h.ofm.lt, fun b hb => (h.met.lt b hb).2⟩

theorem ImT.keep (h : ImT lo W g N T nb ni om of mv num) {B : Nat} (bl : Blocks B g T nb ni om mv) (hb : ∀ b, b < B → W'.heap[b]? = W.heap[b]?) : ImT lo W' g N T nb ni om of mv num := by
  refine ⟨by rw [hb g bl.g]; exact h.hg, h.lg, h.lb, h.li, h.lm, ?_, by rw [hb _ (bl.b 0 (by omega))]; exact h.ground, fun i hi => by rw [hb _ (bl.b (i + 1) (by omega))]; exact h.node i hi, h.par, fun j hj => (h.inner j hj).of_block (hb _ (bl.i j hj)), h.ofm.of_block (hb _ bl.o), h.injb, h.inji, h.omn⟩
  refine ⟨h.met.1, ?_⟩
  rcases h.met.2 with h1 | ⟨g', cap, cur, e, h2, h3, h4⟩
  · exact .inl h1
  · exact .inr ⟨g', cap, cur, e, h2, by rw [hb g' (bl.m g' (by rw [e]; rfl))]; exact h3, h4⟩

/-- The number of branch i is told. -/
theorem ImT.told (h : ImT lo W g N T nb ni om of mv num) (i : Nat) (hi : i < T.bs.length) : ImT lo (W.setCell ⟨nb (i + 1), 5, none⟩ (.int .i64 i)) g N T nb ni om of mv (fun j => if j = i then (i : Int) else num j) := by
  have e : T.bs.modify i id = T.bs := List.modify_id i T.bs
  have h2 := h.setNode i hi id T.br (fun j => if j = i then (i : Int) else num j) 5 (.int .i64 i) (fun _ => rfl) (fun j hj => if_neg hj) (by rw [if_pos rfl]; rfl)
  rw [e] at h2
  exact h2

/-- What the parent's number reads as once those ahead are told. -/
theorem ImT.parNum (h : ImT lo W g N T nb ni om of mv num) (i : Nat) (hi : i < T.bs.length) (hn : ∀ j, j < i → num j = (j : Int)) : W.cell? ⟨nb (T.bs[i].par + 1).toNat, 5, none⟩ = some (.int .i64 T.bs[i].par) := by
  obtain ⟨p1, p2⟩ := h.par i hi
  by_cases e : T.bs[i].par = -1
  · rw [e]
    show W.cell? ⟨nb 0, 5, none⟩ = _
    rw [cell_at h.ground]; rfl
  · obtain ⟨j, hj⟩ := Int.eq_ofNat_of_zero_le (show 0 ≤ T.bs[i].par by omega)
    have e2 : (T.bs[i].par + 1).toNat = j + 1 := by omega
    rw [e2, hj]
    obtain ⟨-, -, -, -, k5, -⟩ := h.cells j (by omega)
    rw [k5, hn j (by omega)]
end

theorem brCells_take (bs : List Br) (k : Nat) (hk : k < bs.length) : brCells (bs.take (k + 1)) = brCells (bs.take k) ++ [.int .i64 bs[k].fn, .int .i64 bs[k].par, .int .i64 bs[k].calls, .int .i64 bs[k].self] := by
  rw [List.take_succ_eq_append_getElem hk, brCells_app]
  rfl

set_option maxRecDepth 100000 in
set_option maxHeartbeats 4000000 in
theorem list_any {lo : Nat} {g N : Nat} {T : Tree} {S : Int → Prop} (w : World) (h : TreeAt lo w g N T S) (hlo : lo ≤ w.heap.size) (hT : T.bs.length ≤ 4000) :
    Calls Try.prog 84 #[.pointer (some ⟨g, 0, none⟩)] w fun e w' => (∃ v, e = .returned v ∧ w'.ownsRow w.heap.size 117 4 v T.bs.length (brCells T.bs)) ∧ Below lo w w' := by
  obtain ⟨nb, ni, om, of, mv, num, hi, -⟩ := h
  obtain ⟨va, vc, hmv⟩ : ∃ va vc, mv = .slice va T.bs.length vc := by
    rcases hi.met.2 with ⟨e, e2⟩ | ⟨g', cap', cur, e, _⟩
    · exact ⟨none, 0, by rw [e, e2]⟩
    · exact ⟨_, _, e⟩
  subst hmv
  have BL := hide hi.blocks
  have HI := hide hi
  obtain ⟨-, c1, -, -⟩ := hi.tcells
  obtain ⟨n, hn⟩ : ∃ n, n = T.bs.length := ⟨_, rfl⟩
  rw [← hn] at c1 hT
  obtain ⟨mc, hmc⟩ : ∃ mc, mc = madeCells #[.int .i64 0, .int .i64 0, .int .i64 0, .int .i64 0] (n * 4) := ⟨_, rfl⟩
  obtain ⟨i0, hi0, hz0, hz1, hz2⟩ := info_parts info_Branch
  have hmk : ∀ w, (Instr.makeSlice 42 (.int .i64 0) (.int .i64 n)).run Try.prog w = .ok (.slice (some ⟨w.heap.size, 0, none⟩) 0 n) (w.alloc (.cells mc 117)) := fun w => by
    have hr := run_make (P := Try.prog) w 42 117 i0 _ Try.underlying42 hi0 hz0 .i64 .i64 0 n (by omega) (by omega) (by rw [hz2]; omega) (by omega)
    rw [hmc, hr, hz1]
    simp
    rfl
  have H0 : Hid ((w.alloc (.cells mc 117)).ownsRow w.heap.size 117 4 (.slice (some ⟨w.heap.size, 0, none⟩) 0 n) 0 []) := hide (World.ownsRow_made w mc n (Nat.le_refl _) (by unfold maxLen; omega) (by rw [hmc, size_madeCells]))
  have II := hide (And.intro hi0 (And.intro hz0 (And.intro hz1 hz2)))
  have HN := hide hn
  have c1' : (w.alloc (.cells mc 117)).cell? ⟨g, 1, none⟩ = some (.slice va n vc) := cell_below (below_new _ _) c1
  clear hi hmc hi0 hz0 hz1 hz2 hn
  go_enter Try.func84, Try.ntmps84
  go_wp2_with fail
  go_loopw [3, 17] (fun v i W => ∃ (k : Nat) (num' : Nat → Int), k ≤ n ∧ i = .int .i64 k ∧ ImT lo W g N T nb ni om of (.slice va T.bs.length vc) num' ∧ (∀ j, j < k → num' j = (j : Int)) ∧ W.ownsRow w.heap.size 117 4 v k (brCells (T.bs.take k)) ∧ (∃ a m c, v = .slice a m c) ∧ Below lo w W ∧ w.heap.size ≤ W.heap.size) (fun _ i _ => n - (intOf i).toNat)
  case atStart => exact ⟨0, num, by omega, rfl, (unhide HI).below (below_new _ _), fun j hj => absurd hj (Nat.not_lt_zero _), unhide H0, ⟨_, _, _, rfl⟩, (below_new _ _).mono hlo, by simp⟩
  case round =>
    clear HI H0 c1 c1' hmk
    obtain ⟨k, num', hk, rfl, hi, hnum, hown, ⟨ta, tm, tc, rfl⟩, hb, hsz⟩ := hrel
    have HI := hide hi
    have HNUM := hide hnum
    have HOW := hide hown
    have HB := hide hb
    clear hnum hown hb
    by_cases hlt : k < n
    · have hlt' : k < T.bs.length := by have := unhide HN; omega
      obtain ⟨mb, hmb, hmc⟩ : ∃ mb, va = some ⟨mb, 0, none⟩ ∧ wr.cell? ⟨mb, k, none⟩ = some (.pointer (some ⟨nb (k + 1), 0, none⟩)) := by
        obtain ⟨mb, cap', e, -, -⟩ := hi.met.form (by omega)
        injection e with e1 e2 e3
        subst e1 e3
        refine ⟨mb, rfl, ?_⟩
        have := owns_cell hi.met k (.pointer (some ⟨nb (k + 1), 0, none⟩)) (by rw [List.getElem?_map, List.getElem?_range hlt']; rfl)
        exact this.1
      subst hmb
      obtain ⟨-, -, -, -, k5, kf⟩ := hi.cells k hlt'
      have kf5 := kf 5
      have HI1 := hide (hi.told k hlt')
      have HOW1 : Hid ((wr.setCell ⟨nb (k + 1), 5, none⟩ (.int .i64 k)).ownsRow w.heap.size 117 4 (.slice ta tm tc) k (brCells (T.bs.take k))) := hide (owns_setCell (unhide HOW) (fun e => by have h1 : w.heap.size ≤ nb (k + 1) := ((unhide HOW).lt _ e).1; have := (unhide BL).b (k + 1) (by omega); omega))
      have HB1 := hide ((unhide HB).setCell (p := ⟨nb (k + 1), 5, none⟩) (hi.lb (k + 1) (by omega)) (.int .i64 k))
      have hk0 : (0 : Int) ≤ (k : Int) := by omega
      have hk1 : (k : Int) < (n : Int) := by omega
      clear hi kf
      go_upto_region 6 with fail
      have hsz1 : w.heap.size ≤ (wr.setCell ⟨nb (k + 1), 5, none⟩ (.int .i64 k)).heap.size := by simp; exact hsz
      generalize wr.setCell ⟨nb (k + 1), 5, none⟩ (.int .i64 k) = W1 at HI1 HOW1 HB1 hsz1 ⊢
      have hp5 := (unhide HI1).parNum k hlt' (fun j hj => by rw [if_neg (by omega)]; exact unhide HNUM j hj)
      obtain ⟨q0, q1, q3, q4, -, -⟩ := (unhide HI1).cells k hlt'
      have HTK := hide (brCells_take T.bs k hlt')
      have bk1 := (unhide BL).b (k + 1) (by omega)
      have bp1 := (unhide BL).b (T.bs[k].par + 1).toNat (by have := (unhide HI1).par k hlt'; omega)
      generalize T.bs[k].fn = x0 at q0 HTK
      generalize T.bs[k].calls = x2 at q3 HTK
      generalize T.bs[k].self = x3 at q4 HTK
      generalize nb (T.bs[k].par + 1).toNat = bp at hp5 q1 bp1
      generalize T.bs[k].par = x1 at hp5 HTK
      generalize hbk : nb (k + 1) = bk at q0 q1 q3 q4 bk1 ⊢
      clear hbk hmc k5 kf5 HI HOW HB hsz
      have HB0 : Hid (Below W1.heap.size W1 (W1.alloc (.cells #[.int .i64 x0, .int .i64 x1, .int .i64 x2, .int .i64 x3] 117)).drew) := hide ((Below.refl _ _).alloc (Nat.le_refl _) _).drew
      obtain ⟨hta, htm⟩ : tm = k ∧ True := by
        refine ⟨?_, trivial⟩
        rcases (unhide HOW1).2 with ⟨e, e2⟩ | ⟨g', cap', cur, e, _⟩
        · injection e; omega
        · injection e
      subst hta
      refine wp_region_held_drew (S := fun w' => w'.cell? ⟨bk, 0, none⟩ = some (.int .i64 x0) ∧ w'.cell? ⟨bk, 1, none⟩ = some (.pointer (some ⟨bp, 0, none⟩)) ∧ w'.cell? ⟨bk, 3, none⟩ = some (.int .i64 x2) ∧ w'.cell? ⟨bk, 4, none⟩ = some (.int .i64 x3) ∧ w'.cell? ⟨bp, 5, none⟩ = some (.int .i64 x1)) (by kernel_rfl) ⟨q0, q1, q3, q4, hp5⟩ (fun hHeld => ?_)
      refine takeAt 0 (some 26) (v := ?v0) (by decide) rfl (by kernel_rfl) (by kernel_rfl) (by kernel_rfl) (fun _ _ _ h => h) (by rfl) ?hy0 (by assumption) ?r0
      case hy0 => (intro wx hSw; go_simp; with_reducible rfl)
      simp only [Act.put, List.setIfInBounds_toArray, List.set_cons_zero, List.set_cons_succ]
      refine takeAt 1 (some 27) (v := ?v1) (by decide) rfl (by kernel_rfl) (by kernel_rfl) (by kernel_rfl) (fun _ _ _ h => h) (by rfl) ?hy1 (by assumption) ?r1
      case hy1 => (intro wx hSw; go_simp; with_reducible rfl)
      simp only [Act.put, List.setIfInBounds_toArray, List.set_cons_zero, List.set_cons_succ]
      refine takeAt 2 (some 28) (v := ?v2) (by decide) rfl (by kernel_rfl) (by kernel_rfl) (by kernel_rfl) (fun _ _ _ h => h) (by rfl) ?hy2 (by assumption) ?r2
      case hy2 => (intro wx hSw; go_simp; with_reducible rfl)
      simp only [Act.put, List.setIfInBounds_toArray, List.set_cons_zero, List.set_cons_succ]
      refine takeAt 3 (some 29) (v := ?v3) (by decide) rfl (by kernel_rfl) (by kernel_rfl) (by kernel_rfl) (fun _ _ _ h => h) (by rfl) ?hy3 (by assumption) ?r3
      case hy3 => (intro wx hSw; go_simp; with_reducible rfl)
      simp only [Act.put, List.setIfInBounds_toArray, List.set_cons_zero, List.set_cons_succ]
      refine takeAt 4 (some 30) (v := ?v4) (by decide) rfl (by kernel_rfl) (by kernel_rfl) (by kernel_rfl) (fun _ _ _ h => h) (by rfl) ?hy4 (by assumption) ?r4
      case hy4 => (intro wx hSw; go_simp; with_reducible rfl)
      simp only [Act.put, List.setIfInBounds_toArray, List.set_cons_zero, List.set_cons_succ]
      refine takeAt 5 (some 31) (v := ?v5) (by decide) rfl (by kernel_rfl) (by kernel_rfl) (by kernel_rfl) (fun _ _ _ h => h) (by rfl) ?hy5 (by assumption) ?r5
      case hy5 => (intro wx hSw; go_simp; with_reducible rfl)
      simp only [Act.put, List.setIfInBounds_toArray, List.set_cons_zero, List.set_cons_succ]
      refine takeAt 6 (some 32) (v := ?v6) (by decide) rfl (by kernel_rfl) (by kernel_rfl) (by kernel_rfl) (fun _ _ _ h => h) (by rfl) ?hy6 (by assumption) ?r6
      case hy6 => (intro wx hSw; go_simp; with_reducible rfl)
      simp only [Act.put, List.setIfInBounds_toArray, List.set_cons_zero, List.set_cons_succ]
      refine takeAt 7 (some 33) (v := ?v7) (by decide) rfl (by kernel_rfl) (by kernel_rfl) (by kernel_rfl) (fun _ _ _ h => h) (by rfl) ?hy7 (by assumption) ?r7
      case hy7 => (intro wx hSw; go_simp; with_reducible rfl)
      simp only [Act.put, List.setIfInBounds_toArray, List.set_cons_zero, List.set_cons_succ]
      refine takeAt 8 (some 34) (v := ?v8) (by decide) rfl (by kernel_rfl) (by kernel_rfl) (by kernel_rfl) (fun _ _ _ h => h) (by rfl) ?hy8 (by assumption) ?r8
      case hy8 => (intro wx hSw; go_simp; with_reducible rfl)
      simp only [Act.put, List.setIfInBounds_toArray, List.set_cons_zero, List.set_cons_succ]
      refine takeAt 9 (some 35) (v := ?v9) (by decide) rfl (by kernel_rfl) (by kernel_rfl) (by kernel_rfl) (fun _ _ _ h => h) (by rfl) ?hy9 (by assumption) ?r9
      case hy9 => (intro wx hSw; go_simp; with_reducible rfl)
      simp only [Act.put, List.setIfInBounds_toArray, List.set_cons_zero, List.set_cons_succ]
      refine takeAt 10 (some 36) (v := ?v10) (by decide) rfl (by kernel_rfl) (by kernel_rfl) (by kernel_rfl) (fun _ _ _ h => h) (by rfl) ?hy10 (by assumption) ?r10
      case hy10 => (intro wx hSw; go_simp; with_reducible rfl)
      simp only [Act.put, List.setIfInBounds_toArray, List.set_cons_zero, List.set_cons_succ]
      refine takeAt 11 (some 37) (v := ?v11) (by decide) rfl (by kernel_rfl) (by kernel_rfl) (by kernel_rfl) (fun _ _ _ h => h) (by rfl) ?hy11 (by assumption) ?r11
      case hy11 => (intro wx hSw; go_simp; with_reducible rfl)
      simp only [Act.put, List.setIfInBounds_toArray, List.set_cons_zero, List.set_cons_succ]
      refine takeAt 12 (some 38) (v := ?v12) (by decide) rfl (by kernel_rfl) (by kernel_rfl) (by kernel_rfl) (fun _ _ _ h => h) (by rfl) ?hy12 (by assumption) ?r12
      case hy12 => (intro wx hSw; go_simp; with_reducible rfl)
      simp only [Act.put, List.setIfInBounds_toArray, List.set_cons_zero, List.set_cons_succ]
      refine takeAt 13 (some 39) (v := ?v13) (by decide) rfl (by kernel_rfl) (by kernel_rfl) (by kernel_rfl) (fun _ _ _ h => h) (by rfl) ?hy13 (by assumption) ?r13
      case hy13 => (intro wx hSw; go_simp; with_reducible rfl)
      simp only [Act.put, List.setIfInBounds_toArray, List.set_cons_zero, List.set_cons_succ]
      refine takeAt 14 (some 40) (v := ?v14) (by decide) rfl (by kernel_rfl) (by kernel_rfl) (by kernel_rfl) (fun _ _ _ h => h) (by rfl) ?hy14 (by assumption) ?r14
      case hy14 => (intro wx hSw; go_simp; with_reducible rfl)
      simp only [Act.put, List.setIfInBounds_toArray, List.set_cons_zero, List.set_cons_succ]
      refine takeAt 15 (some 41) (v := ?v15) (by decide) rfl (by kernel_rfl) (by kernel_rfl) (by kernel_rfl) (fun _ _ _ h => h) (by rfl) ?hy15 (by assumption) ?r15
      case hy15 => (intro wx hSw; go_simp; with_reducible rfl)
      simp only [Act.put, List.setIfInBounds_toArray, List.set_cons_zero, List.set_cons_succ]
      refine takeAt 16 (some 42) (v := ?v16) (by decide) rfl (by kernel_rfl) (by kernel_rfl) (by kernel_rfl) (fun _ _ _ h => h) (by rfl) ?hy16 (by assumption) ?r16
      case hy16 => (intro wx hSw; go_simp; with_reducible rfl)
      simp only [Act.put, List.setIfInBounds_toArray, List.set_cons_zero, List.set_cons_succ]
      refine takeAt 17 (some 43) (v := ?v17) (by decide) rfl (by kernel_rfl) (by kernel_rfl) (by kernel_rfl) (fun _ _ _ h => h) (by rfl) ?hy17 (by assumption) ?r17
      case hy17 => (intro wx hSw; go_simp; with_reducible rfl)
      simp only [Act.put, List.setIfInBounds_toArray, List.set_cons_zero, List.set_cons_succ]
      refine takeAt 18 (some 44) (v := ?v18) (by decide) rfl (by kernel_rfl) (by kernel_rfl) (by kernel_rfl) (fun _ _ _ h => h) (by rfl) ?hy18 (by assumption) ?r18
      case hy18 => (intro wx hSw; go_simp; with_reducible rfl)
      simp only [Act.put, List.setIfInBounds_toArray, List.set_cons_zero, List.set_cons_succ]
      refine takeAt 19 (some 45) (v := ?v19) (by decide) rfl (by kernel_rfl) (by kernel_rfl) (by kernel_rfl) (fun _ _ _ h => h) (by rfl) ?hy19 (by assumption) ?r19
      case hy19 => (intro wx hSw; go_simp; with_reducible rfl)
      simp only [Act.put, List.setIfInBounds_toArray, List.set_cons_zero, List.set_cons_succ]
      refine takeAt 20 (some 46) (v := ?v20) (by decide) rfl (by kernel_rfl) (by kernel_rfl) (by kernel_rfl) (fun _ _ _ h => h) (by rfl) ?hy20 (by assumption) ?r20
      case hy20 => (intro wx hSw; go_simp; with_reducible rfl)
      simp only [Act.put, List.setIfInBounds_toArray, List.set_cons_zero, List.set_cons_succ]
      refine wpAnyH_ready (rs := [21]) (by kernel_rfl) (by simp) ?_
      refine AllReadyH.cons rfl (fun K hK => ?_) AllReadyH.nil
      go_simp
      refine hK.out _ _ ⟨cell_below (unhide HB0) q0, cell_below (unhide HB0) q1, cell_below (unhide HB0) q3, cell_below (unhide HB0) q4, cell_below (unhide HB0) hp5⟩ (fun hHeld => ?_)
      clear hK K
      refine wpAnyH_ready (rs := [22]) (by kernel_rfl) (by simp) ?_
      refine AllReadyH.cons rfl (fun K hK => ?_) AllReadyH.nil
      have HA := hide ((owns_below (unhide HOW1) (unhide HB0)))
      refine step_append_lies _ (by rfl) _ _ _ (by rfl) w.heap.size 117 i0 _ 4 32 Try.underlying42 (unhide II).1 (unhide II).2.1 (unhide II).2.2.1 (unhide II).2.2.2 rfl (by omega) (.slice ta tm tc) tm (brCells (T.bs.take tm)) (by rfl) (unhide HA)
        ⟨W1.heap.size, 0, none⟩ 1 1 [.int .i64 x0, .int .i64 x1, .int .i64 x2, .int .i64 x3] (by rfl) (by rfl) (World.news_of_block (cs := #[.int .i64 x0, .int .i64 x1, .int .i64 x2, .int .i64 x3]) (t := 117) (fr := (0, 0)) (heap_alloc_new W1 _)) (by simp [Value.oneCell'])
        (by omega) (by unfold maxLen; omega) (by omega) (by simp; omega) (W1.heap.size + 1) (by simp) ?_
      intro g2 cp2 w2 hown1 hgrow hat hlt2
      have hfar : ∀ b o v, b < w.heap.size → (W1.alloc (.cells #[.int .i64 x0, .int .i64 x1, .int .i64 x2, .int .i64 x3] 117)).drew.cell? ⟨b, o, none⟩ = some v → w2.cell? ⟨b, o, none⟩ = some v := fun b o v hb hc => hgrow.cell hc (fun e => by have := ((unhide HA).lt b e.symm).1; omega)
      have HG := hide hgrow
      have HW := hide hown1
      refine hK.out _ _ ⟨hfar _ _ _ bk1 hHeld.1, hfar _ _ _ bk1 hHeld.2.1, hfar _ _ _ bk1 hHeld.2.2.1, hfar _ _ _ bk1 hHeld.2.2.2.1, hfar _ _ _ bp1 hHeld.2.2.2.2⟩ (fun hHeld => ?_)
      clear hK K hown1 hgrow hat hfar
      simp only [Act.put, List.setIfInBounds_toArray, List.getElem_toArray, List.getElem_cons_succ, List.getElem_cons_zero, List.set_cons_zero, List.set_cons_succ]
      refine wpAnyH_ready (rs := [23]) (by kernel_rfl) (by simp) ?_
      refine AllReadyH.cons rfl (fun K hK => ?_) AllReadyH.nil
      go_simp
      refine hK.out _ _ hHeld (fun hHeld => ?_)
      clear hK K
      refine wpAnyH_done (by kernel_rfl) ?_ _
      clear hHeld q0 q1 q3 q4 hp5
      go_wp2_with fail
      go_roundw
      case rel =>
        have hb2 : Below w.heap.size W1 w2 := Below.grown ((((Below.refl _ _).alloc hsz1 _).drew)) (unhide HG) (by simp; omega) (fun b hb => ((unhide HA).lt b hb).1)
        refine ⟨tm + 1, fun j => if j = tm then (tm : Int) else num' j, by omega, by go_num, (unhide HI1).keep (unhide BL) (fun b hb => hb2.block b hb), fun j hj => ?_, ?_, ⟨_, _, _, rfl⟩, (unhide HB1).trans (hb2.mono hlo), Nat.le_trans hsz1 hb2.size⟩
        · dsimp only
          by_cases e : j = tm
          · rw [if_pos e, e]
          · rw [if_neg e]; exact unhide HNUM j (by omega)
        · rw [unhide HTK]; exact unhide HW
      case measure => simp [intOf]; omega
    · have e : k = n := by omega
      subst e
      have hnk : ¬ ((k : Int) < (k : Int)) := by omega
      clear hi
      go_wp2_with fail
      go_ret
      refine ⟨⟨_, rfl, ?_⟩, unhide HB⟩
      have h := unhide HOW
      rw [List.take_of_length_le (by have := unhide HN; omega)] at h
      rw [← unhide HN]
      exact h
end Go.Proofs.Ytoiacbdnkkolmab
