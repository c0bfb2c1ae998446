import Derived.Test.YtjhfdjdmiombpabE21
import Derived.Test.YtjhfdjdmiombpabE17
namespace Go.Proofs.Ytjhfdjdmiombpab
open Go.RowKit Go.Shelf

attribute [local go_sem] Oper.semAt_some

def lastOf (l : List Nat) : Int := match l.getLast? with | some x => (x : Int) | none => -1

theorem lastOf_snoc (l : List Nat) (x : Nat) : lastOf (l ++ [x]) = (x : Int) := by simp [lastOf]

theorem lastOf_ups (P : Nat → Bool) : ∀ q : Nat, LastIs P (q : Int) (lastOf (ups P 0 q))
  | 0 => .inr ⟨rfl, fun i hi => by omega⟩
  | q + 1 => by
    cases h : P q with
    | true => rw [ups_yes (Nat.zero_le _) h, lastOf_snoc]; exact .inl ⟨q, rfl, by omega, h, fun i h1 h2 => by omega⟩
    | false =>
      rw [ups_no h]
      rcases lastOf_ups P q with ⟨j, e, h1, h2, h3⟩ | ⟨e, h3⟩
      · exact .inl ⟨j, e, by omega, h2, fun i h4 h5 => by
          by_cases e' : i = q
          · rw [e']; exact h
          · exact h3 i h4 (by omega)⟩
      · exact .inr ⟨e, fun i h5 => by
          by_cases e' : i = q
          · rw [e']; exact h
          · exact h3 i (by omega)⟩

theorem hitsOf_in (ta : Option Addr) (ns tc : Nat) (a b : Int) (w : World) :
    CallsIn Fence.wide 5 Try.prog 90 #[.slice ta ns tc, .int .i64 a, .int .i64 b] w fun e w' => e = .returned (.func (.func 126) #[] #[.pointer (some ⟨w.heap.size + 1, 0, none⟩), .pointer (some ⟨w.heap.size + 1 + 1, 0, none⟩), .pointer (some ⟨w.heap.size, 0, none⟩)]) ∧ w' = ((w.alloc (.cells #[.slice ta ns tc] 133)).alloc (.cells #[.int .i64 a] 3)).alloc (.cells #[.int .i64 b] 3) := by
  refine callsIn_of_wp Try.func90 rfl trivial ?_ rfl
  simp only [Try.ntmps90, List.size_toArray, List.length_cons, List.length_nil, Nat.reduceAdd, Nat.reduceSub, Array.replicate_succ, Array.replicate_zero, List.push_toArray, List.append_toArray, List.nil_append, List.cons_append]
  gi_wp2
  go_ret
  exact ⟨rfl, rfl⟩

/-- The three boxes of hitsOf, behind w's blocks. -/
theorem three_boxes (w : World) (x y z : Obj) : ∃ W, W = ((w.alloc x).alloc y).alloc z ∧ W.heap.size = w.heap.size + 3 ∧ W.heap[w.heap.size]? = some x ∧ W.heap[w.heap.size + 1]? = some y ∧ W.heap[w.heap.size + 1 + 1]? = some z ∧ Below w.heap.size w W := by
  refine ⟨_, rfl, by simp, ?_, ?_, ?_, (((Below.refl _ _).alloc (Nat.le_refl _) _).alloc (by simp) _).alloc (by simp; omega) _⟩
  · rw [Below.heap_alloc _ _ _ (by simp; omega), Below.heap_alloc _ _ _ (by simp)]; exact World.alloc_heap_new w _
  · rw [Below.heap_alloc _ _ _ (by simp)]; have := World.alloc_heap_new (w.alloc x) y; rwa [World.size_alloc] at this
  · have := World.alloc_heap_new ((w.alloc x).alloc y) z; rwa [World.size_alloc, World.size_alloc] at this

set_option maxRecDepth 100000 in
set_option maxHeartbeats 4000000 in
theorem lastHit_any (B lo : Nat) (tv mv : Value) (n : Nat) (f : Nat → M) (ns : Nat) (ss : Nat → Sp) (k : Int) (w : World) (ht : TestsAt B w tv mv ns n f ss) (h2 : MomsAt lo w mv n f) (hns : ns ≤ 50) (hn : n ≤ 1048576) (hk0 : -1 ≤ k) (hk1 : k ≤ n) :
    Calls Try.prog 98 #[tv, .int .i64 k] w fun e w' => (∃ z, e = .returned (.int .i64 z) ∧ LastIs (anyOf f ns ss) k z) ∧ Below w.heap.size w w' := by
  have HT := hide ht
  have H2 := hide h2
  obtain ⟨ta, tc, rfl, -⟩ := ht.cells
  clear ht h2
  refine (callsIn_wide (n := 6)).1 ?_
  refine callsIn_of_wp_marks Try.func98 rfl trivial ?_ rfl
  simp only [Try.ntmps98, List.size_toArray, List.length_cons, List.length_nil, Nat.reduceAdd, Nat.reduceSub, Array.replicate_succ, Array.replicate_zero, List.push_toArray, List.append_toArray, List.nil_append, List.cons_append]
  gi_wp2_with fail
  refine ⟨trivial, (hitsOf_in _ _ _ _ _ _).mono ?_⟩
  rintro e w' ⟨rfl, rfl⟩
  gi_wp2_with fail
  obtain ⟨WA, hWA⟩ : ∃ WA, WA = w.alloc (.cells #[.int .i64 (-1)] 3) := ⟨_, rfl⟩
  have sA : WA.heap.size = w.heap.size + 1 := by rw [hWA]; simp
  have kA : WA.heap[w.heap.size]? = some (.cells #[.int .i64 (-1)] 3 (0, 0)) := by rw [hWA]; exact heap_alloc_new w _
  have bA : Below w.heap.size w WA := by rw [hWA]; exact below_new _ _
  rw [← hWA]
  obtain ⟨W0, hW0, s0, k1, k2, k3, b0⟩ := three_boxes WA (.cells #[.slice ta ns tc] 133) (.cells #[.int .i64 0] 3) (.cells #[.int .i64 k] 3)
  rw [← hW0]
  rw [sA] at k1 k2 k3 s0
  have kA0 : W0.heap[w.heap.size]? = some (.cells #[.int .i64 (-1)] 3 (0, 0)) := (b0.block _ (by omega)).trans kA
  have bw0 : Below w.heap.size w W0 := bA.trans (b0.mono (by omega))
  clear hWA hW0 kA bA b0
  have hseq : SeqOwn Fence.wide 5 Try.prog 126 #[.pointer (some ⟨w.heap.size + 1 + 1, 0, none⟩), .pointer (some ⟨w.heap.size + 1 + 1 + 1, 0, none⟩), .pointer (some ⟨w.heap.size + 1, 0, none⟩)] (fun x : Nat => #[.int .i64 (x : Int)]) (HKeep w.heap.size w.heap.size)
      (fun xs => ∃ q : Nat, xs = ups (anyOf f ns ss) 0 q ∧ 0 ≤ q ∧ k ≤ (q : Int) ∧ (q = 0 ∨ (q : Int) ≤ k)) (fun pre => ∃ q : Nat, pre = ups (anyOf f ns ss) 0 q ++ [q] ∧ 0 ≤ q ∧ (q : Int) < k ∧ anyOf f ns ss q = true) W0 := fun l J Jx W hW hJ _ hY h0 =>
    hits1_in 5 (by omega) l w.heap.size B lo (w.heap.size + 1 + 1) (w.heap.size + 1 + 1 + 1) (w.heap.size + 1) w (.slice ta ns tc) mv n f ns ss 0 k hk1 hns hn (unhide HT) (unhide H2) J Jx W (bw0.trans (hW.mono bw0.size))
      ((hW.block _ (by omega)).trans k2) ((hW.block _ (by omega)).trans k3) ((hW.block _ (by omega)).trans k1) (by omega) (by omega) (by have := hW.size; omega) hJ hY h0
  refine wpIn_range_own rfl (by omega) (gf := 126) (lb := #[.pointer (some ⟨w.heap.size + 1 + 1, 0, none⟩), .pointer (some ⟨w.heap.size + 1 + 1 + 1, 0, none⟩), .pointer (some ⟨w.heap.size + 1, 0, none⟩)]) rfl trivial (enters_of Try.func126 (by kernel_rfl) rfl)
    hseq HKeep.t (HKeep.b (by omega)) (fun _ => rfl)
    (fun pre W => W.heap[w.heap.size]? = some (.cells #[.int .i64 (lastOf pre)] 3 (0, 0)) ∧ Below w.heap.size w W)
    (fun _ _ _ => False)
    (fun s A B h hb => ⟨(hb.block _ (by omega)).trans h.1, h.2.trans (hb.mono (by omega))⟩)
    (fun _ _ _ _ h _ => h)
    ⟨kA0, bw0⟩
    (fun x => { tmps := #[.slice ta ns tc, .int .i64 k, undef, undef, .int .i64 0, .pointer (some ⟨w.heap.size, 0, none⟩), .int .i64 (x : Int), .slice ta ns tc, .int .i64 k, .func (.func 126) #[] #[.pointer (some ⟨w.heap.size + 1 + 1, 0, none⟩), .pointer (some ⟨w.heap.size + 1 + 1 + 1, 0, none⟩), .pointer (some ⟨w.heap.size + 1, 0, none⟩)], .int .i64 (x : Int), undef, undef], defers := [] })
    ?assign ?body ?done ?stop
  case assign =>
    intro l x W K hK
    gi_wp2
    exact hK
  case body =>
    rintro l pre x W ⟨hc, hb⟩
    have c0 : W.cell? ⟨w.heap.size, 0, none⟩ = some (.int .i64 (lastOf pre)) := by rw [cell_of_row W _ 0 _ _ _ hc]; rfl
    have f0 : W.frozen? ⟨w.heap.size, 0, none⟩ = false := frozen_of_row _ _ _ _ _ hc
    gi_wp2
    refine ⟨(KeepsOthers.setCell _ _ _).from _, ⟨(Below.refl _ W).setCell (p := ⟨w.heap.size, 0, none⟩) (Nat.le_refl _) _, fun b cs t fr hb e => ?_⟩, ?_, hb.setCell (p := ⟨w.heap.size, 0, none⟩) (Nat.le_refl _) _⟩
    · rw [heap_setCell_other _ _ _ _ hb]; exact e
    · rw [lastOf_snoc]
      exact heap_setCell_same _ _ 0 #[.int .i64 (lastOf pre)] _ _ hc
  case done =>
    rintro xs W ⟨q, rfl, hq0, hq1, hq2⟩ ⟨hc, hb⟩ hK
    have c0 : W.cell? ⟨w.heap.size, 0, none⟩ = some (.int .i64 (lastOf (ups (anyOf f ns ss) 0 q))) := by rw [cell_of_row W _ 0 _ _ _ hc]; rfl
    gi_wp2
    refine ⟨by simp, .inl ⟨_, _, rfl, run_takeDeferred hK, ?_⟩⟩
    refine ⟨_, results_tmp rfl _ _ _, ⟨⟨_, rfl, ?_⟩, hb.trans ((below_put W0 W _ _ (Nat.le_refl _)).mono (by omega))⟩⟩
    have h := lastOf_ups (anyOf f ns ss) q
    by_cases e : (q : Int) = k
    · rw [← e]; exact h
    · have hq : q = 0 := by omega
      subst hq
      exact .inr ⟨by simp [ups, lastOf], fun i hi => by omega⟩
  case stop =>
    rintro c pre W _ h _
    exact h.elim

set_option maxRecDepth 100000 in
set_option maxHeartbeats 4000000 in
theorem nextHit_any (B lo : Nat) (tv mv : Value) (n : Nat) (f : Nat → M) (ns : Nat) (ss : Nat → Sp) (k : Int) (w : World) (ht : TestsAt B w tv mv ns n f ss) (h2 : MomsAt lo w mv n f) (hns : ns ≤ 50) (hn : n ≤ 1048576) (hk0 : -1 ≤ k) (hk1 : k ≤ n) :
    Calls Try.prog 95 #[tv, .int .i64 k, .int .i64 n] w fun e w' => (∃ z, e = .returned (.int .i64 z) ∧ NextIs n (anyOf f ns ss) k z) ∧ Below w.heap.size w w' := by
  have HT := hide ht
  have H2 := hide h2
  obtain ⟨ta, tc, rfl, -⟩ := ht.cells
  clear ht h2
  obtain ⟨p, hp⟩ : ∃ p : Nat, (p : Int) = k + 1 := ⟨(k + 1).toNat, by omega⟩
  obtain rfl : k = (p : Int) - 1 := by omega
  have wk : IntKind.i64.wrap ((p : Int) - 1 + 1) = (p : Int) := by rw [IntKind.wrap_i64]; omega
  clear hp
  refine (callsIn_wide (n := 6)).1 ?_
  refine callsIn_of_wp_marks Try.func95 rfl trivial ?_ rfl
  simp only [Try.ntmps95, List.size_toArray, List.length_cons, List.length_nil, Nat.reduceAdd, Nat.reduceSub, Array.replicate_succ, Array.replicate_zero, List.push_toArray, List.append_toArray, List.nil_append, List.cons_append]
  gi_wp2_with fail
  refine ⟨trivial, (hitsOf_in _ _ _ _ _ _).mono ?_⟩
  rintro e w' ⟨rfl, rfl⟩
  gi_wp2_with fail
  obtain ⟨WA, hWA⟩ : ∃ WA, WA = w.alloc (.cells #[.int .i64 0] 3) := ⟨_, rfl⟩
  have sA : WA.heap.size = w.heap.size + 1 := by rw [hWA]; simp
  have kA : WA.heap[w.heap.size]? = some (.cells #[.int .i64 0] 3 (0, 0)) := by rw [hWA]; exact heap_alloc_new w _
  have bA : Below w.heap.size w WA := by rw [hWA]; exact below_new _ _
  rw [← hWA]
  obtain ⟨W0, hW0, s0, k1, k2, k3, b0⟩ := three_boxes WA (.cells #[.slice ta ns tc] 133) (.cells #[.int .i64 (p : Int)] 3) (.cells #[.int .i64 (n : Int)] 3)
  rw [← hW0]
  rw [sA] at k1 k2 k3 s0
  have kA0 : W0.heap[w.heap.size]? = some (.cells #[.int .i64 0] 3 (0, 0)) := (b0.block _ (by omega)).trans kA
  have bw0 : Below w.heap.size w W0 := bA.trans (b0.mono (by omega))
  clear hWA hW0 kA bA b0
  have hseq : SeqOwn Fence.wide 5 Try.prog 126 #[.pointer (some ⟨w.heap.size + 1 + 1, 0, none⟩), .pointer (some ⟨w.heap.size + 1 + 1 + 1, 0, none⟩), .pointer (some ⟨w.heap.size + 1, 0, none⟩)] (fun x : Nat => #[.int .i64 (x : Int)]) (HKeep w.heap.size w.heap.size)
      (fun xs => ∃ q : Nat, xs = ups (anyOf f ns ss) p q ∧ p ≤ q ∧ (n : Int) ≤ (q : Int) ∧ (q = p ∨ (q : Int) ≤ (n : Int))) (fun pre => ∃ q : Nat, pre = ups (anyOf f ns ss) p q ++ [q] ∧ p ≤ q ∧ (q : Int) < (n : Int) ∧ anyOf f ns ss q = true) W0 := fun l J Jx W hW hJ _ hY h0 =>
    hits1_in 5 (by omega) l w.heap.size B lo (w.heap.size + 1 + 1) (w.heap.size + 1 + 1 + 1) (w.heap.size + 1) w (.slice ta ns tc) mv n f ns ss p (n : Int) (Int.le_refl _) hns hn (unhide HT) (unhide H2) J Jx W (bw0.trans (hW.mono bw0.size))
      ((hW.block _ (by omega)).trans k2) ((hW.block _ (by omega)).trans k3) ((hW.block _ (by omega)).trans k1) (by omega) (by omega) (by have := hW.size; omega) hJ hY h0
  refine wpIn_range_own rfl (by omega) (gf := 126) (lb := #[.pointer (some ⟨w.heap.size + 1 + 1, 0, none⟩), .pointer (some ⟨w.heap.size + 1 + 1 + 1, 0, none⟩), .pointer (some ⟨w.heap.size + 1, 0, none⟩)]) rfl trivial (enters_of Try.func126 (by kernel_rfl) rfl)
    hseq HKeep.t (HKeep.b (by omega)) (fun _ => rfl)
    (fun pre W => pre = [] ∧ W.heap[w.heap.size]? = some (.cells #[.int .i64 0] 3 (0, 0)) ∧ Below w.heap.size w W)
    (fun c pre W => c = .ret ∧ (∃ x : Nat, pre = [x] ∧ W.heap[w.heap.size]? = some (.cells #[.int .i64 (x : Int)] 3 (0, 0))) ∧ Below w.heap.size w W)
    (fun s A B h hb => ⟨h.1, (hb.block _ (by omega)).trans h.2.1, h.2.2.trans (hb.mono (by omega))⟩)
    (fun c s A B h hb => by
      obtain ⟨h1, ⟨x, h2, h3⟩, h4⟩ := h
      exact ⟨h1, ⟨x, h2, (hb.block _ (by omega)).trans h3⟩, h4.trans (hb.mono (by omega))⟩)
    ⟨rfl, kA0, bw0⟩
    (fun x => { tmps := #[.slice ta ns tc, .int .i64 ((p : Int) - 1), .int .i64 (n : Int), undef, undef, undef, .pointer (some ⟨w.heap.size, 0, none⟩), .int .i64 (x : Int), .slice ta ns tc, .int .i64 ((p : Int) - 1), .int .i64 (p : Int), .int .i64 (n : Int), .func (.func 126) #[] #[.pointer (some ⟨w.heap.size + 1 + 1, 0, none⟩), .pointer (some ⟨w.heap.size + 1 + 1 + 1, 0, none⟩), .pointer (some ⟨w.heap.size + 1, 0, none⟩)], .int .i64 (x : Int), undef, undef], defers := [] })
    ?assign ?body ?done ?stop
  case assign =>
    intro l x W K hK
    gi_wp2
    exact hK
  case body =>
    rintro l pre x W ⟨rfl, hc, hb⟩
    have c0 : W.cell? ⟨w.heap.size, 0, none⟩ = some (.int .i64 0) := by rw [cell_of_row W _ 0 _ _ _ hc]; rfl
    have f0 : W.frozen? ⟨w.heap.size, 0, none⟩ = false := frozen_of_row _ _ _ _ _ hc
    gi_wp2
    exact ⟨(KeepsOthers.setCell _ _ _).from _, rfl, ⟨x, rfl, heap_setCell_same _ _ 0 #[.int .i64 0] _ _ hc⟩, hb.setCell (p := ⟨w.heap.size, 0, none⟩) (Nat.le_refl _) _⟩
  case done =>
    rintro xs W ⟨q, hxs, hq0, hq1, hq2⟩ ⟨rfl, hc, hb⟩ hK
    have c0 : W.cell? ⟨w.heap.size, 0, none⟩ = some (.int .i64 0) := by rw [cell_of_row W _ 0 _ _ _ hc]; rfl
    have f0 : W.frozen? ⟨w.heap.size, 0, none⟩ = false := frozen_of_row _ _ _ _ _ hc
    gi_wp2
    have e1 : (W.setCell ⟨w.heap.size, 0, none⟩ (.int .i64 (n : Int))).heap[w.heap.size]? = some (.cells #[.int .i64 (n : Int)] 3 (0, 0)) := heap_setCell_same _ _ 0 #[.int .i64 0] _ _ hc
    have hK2 := (KeepsOthers.setCell W ⟨w.heap.size, 0, none⟩ (.int .i64 (n : Int))).same _ _ hK rfl
    have hb2 := hb.setCell (p := ⟨w.heap.size, 0, none⟩) (Nat.le_refl _) (.int .i64 (n : Int))
    generalize W.setCell ⟨w.heap.size, 0, none⟩ (.int .i64 (n : Int)) = W2 at e1 hK2 hb2 ⊢
    refine ⟨by simp, .inl ⟨_, _, rfl, run_takeDeferred hK2, ?_⟩⟩
    have e2 := ((below_put W0 W2 _ (.deferred none) (Nat.le_refl _)).block w.heap.size (by omega)).trans e1
    have r0 : (W2.putObj W0.heap.size (.deferred none)).cell? ⟨w.heap.size, 0, none⟩ = some (.int .i64 (n : Int)) := by rw [cell_of_row _ _ 0 _ _ _ e2]; rfl
    refine ⟨.int .i64 (n : Int), ?_, ⟨_, rfl, .inr ⟨rfl, fun i h1 h2 => ?_⟩⟩, hb2.trans ((below_put W0 W2 _ _ (Nat.le_refl _)).mono (by omega))⟩
    · simp [results, Try.results95, go_sem, r0]
    · cases hp : anyOf f ns ss i with
      | false => rfl
      | true =>
        have : i ∈ ups (anyOf f ns ss) p q := mem_ups.2 ⟨by omega, by omega, hp⟩
        rw [← hxs] at this
        cases this
  case stop =>
    rintro c pre W ⟨q, hpre, hq0, hq1, hq2⟩ ⟨rfl, ⟨x, rfl, hc⟩, hb⟩ hK
    have hx : ups (anyOf f ns ss) p q = [] ∧ x = q := by
      cases hu : ups (anyOf f ns ss) p q with
      | nil => rw [hu] at hpre; simp at hpre; exact ⟨rfl, hpre⟩
      | cons y ys => rw [hu] at hpre; simp at hpre
    obtain ⟨hu, rfl⟩ := hx
    gi_wp2
    refine ⟨by simp, .inl ⟨_, _, rfl, run_takeDeferred hK, ?_⟩⟩
    have e2 := ((below_put W0 W _ (.deferred none) (Nat.le_refl _)).block w.heap.size (by omega)).trans hc
    have r0 : (W.putObj W0.heap.size (.deferred none)).cell? ⟨w.heap.size, 0, none⟩ = some (.int .i64 (x : Int)) := by rw [cell_of_row _ _ 0 _ _ _ e2]; rfl
    refine ⟨.int .i64 (x : Int), ?_, ⟨_, rfl, .inl ⟨x, rfl, by omega, by omega, hq2, fun i h1 h2 => ?_⟩⟩, hb.trans ((below_put W0 W _ _ (Nat.le_refl _)).mono (by omega))⟩
    · simp [results, Try.results95, go_sem, r0]
    · cases hp : anyOf f ns ss i with
      | false => rfl
      | true =>
        have : i ∈ ups (anyOf f ns ss) p x := mem_ups.2 ⟨h2, by omega, hp⟩
        rw [hu] at this
        cases this
end Go.Proofs.Ytjhfdjdmiombpab
