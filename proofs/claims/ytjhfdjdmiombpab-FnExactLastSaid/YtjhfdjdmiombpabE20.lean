import Derived.Test.YtjhfdjdmiombpabE15
namespace Go.Proofs.Ytjhfdjdmiombpab
open Go.RowKit

set_option maxRecDepth 100000 in
set_option maxHeartbeats 4000000 in
theorem holds_any (lo kb : Nat) (v mv : Value) (n : Nat) (f : Nat → M) (s : Sp) (k : Nat) (w : World) (hk : k < n) (ht : TestAt w v mv n f s) (h2 : MomsAt lo w mv n f) (h3 : w.cell? ⟨kb, 0, none⟩ = some (.int .i64 k)) :
    Calls Try.prog 128 #[v, .pointer (some ⟨kb, 0, none⟩)] w fun e w' => e = .returned (.bool (hit f s k)) ∧ Below w.heap.size w w' := by
  have HM := hide h2
  clear h2
  rcases ht with ⟨e, mb, sb, rfl, p1, p2⟩ | ⟨e, mb, sb, rfl, p1, p2⟩ | ⟨e, ib, b, rfl, p1, p2⟩ | ⟨e, mb, rfl, p1⟩
  · have P1 := hide p1; have P2 := hide p2; have E1 := hide e
    clear p1 p2 e
    go_enter Try.func128, Try.ntmps128
    go_wp2_with fail
    refine (test1_any lo mb sb _ n f s k _ hk (unhide E1) (unhide P1) (unhide HM) (unhide P2)).mono ?_
    rintro e w3 ⟨rfl, hb3⟩
    have HB3 := hide hb3
    clear hb3
    go_wp2_with fail
    go_ret
    exact ⟨rfl, unhide HB3⟩
  · have P1 := hide p1; have P2 := hide p2; have E1 := hide e
    clear p1 p2 e
    go_enter Try.func128, Try.ntmps128
    go_wp2_with fail
    refine (test2_any lo mb sb _ n f s k _ hk (unhide E1) (unhide P1) (unhide HM) (unhide P2)).mono ?_
    rintro e w3 ⟨rfl, hb3⟩
    have HB3 := hide hb3
    clear hb3
    go_wp2_with fail
    go_ret
    exact ⟨rfl, unhide HB3⟩
  · have P1 := hide p1; have P2 := hide p2; have E1 := hide e
    clear p1 p2 e
    go_enter Try.func128, Try.ntmps128
    go_wp2_with fail
    refine (test3_any ib b n f s k _ hk (unhide E1) (unhide P1) (unhide P2)).mono ?_
    rintro e w3 ⟨rfl, hb3⟩
    have HB3 := hide hb3
    clear hb3
    go_wp2_with fail
    go_ret
    exact ⟨rfl, unhide HB3⟩
  · have P1 := hide p1; have E1 := hide e
    clear p1 e
    go_enter Try.func128, Try.ntmps128
    go_wp2_with fail
    refine (test4_any lo mb _ n f s k _ hk (unhide E1) (unhide P1) (unhide HM)).mono ?_
    rintro e w3 ⟨rfl, hb3⟩
    have HB3 := hide hb3
    clear hb3
    go_wp2_with fail
    go_ret
    exact ⟨rfl, unhide HB3⟩

theorem TestsAt.cells {B : Nat} {w : World} {tv mv : Value} {ns n : Nat} {f : Nat → M} {ss : Nat → Sp} (h : TestsAt B w tv mv ns n f ss) :
    ∃ a cap, tv = .slice a ns cap ∧ ∀ i, i < ns → ∃ g v, a = some ⟨g, 0, none⟩ ∧ w.cell? ⟨g, i, none⟩ = some v ∧ g < w.heap.size ∧ TestAt w v mv n f (ss i) := by
  obtain ⟨vs, h1, h2⟩ := h
  have h1' := h1
  rcases h1.2 with ⟨e, h0⟩ | ⟨g, cap, cur, e, -⟩
  · have hz : ns = 0 := h0
    subst hz
    exact ⟨none, 0, e, fun i hi => absurd hi (Nat.not_lt_zero _)⟩
  · subst e
    refine ⟨_, cap, rfl, fun i hi => ?_⟩
    have hc := (owns_cell h1' i (vs i) (by rw [List.getElem?_map, List.getElem?_range hi]; rfl)).1
    exact ⟨g, vs i, rfl, hc, cell_lt hc, h2 i hi⟩

set_option maxRecDepth 100000 in
set_option maxHeartbeats 4000000 in
theorem index_any (B lo kb : Nat) (tv mv : Value) (n : Nat) (f : Nat → M) (ns : Nat) (ss : Nat → Sp) (k : Nat) (w : World) (hk : k < n) (hns : ns ≤ 50) (ht : TestsAt B w tv mv ns n f ss) (h2 : MomsAt lo w mv n f) (h3 : w.cell? ⟨kb, 0, none⟩ = some (.int .i64 k)) :
    Calls Try.prog 153 #[tv, .func (.func 128) #[] #[.pointer (some ⟨kb, 0, none⟩)]] w fun e w' => (∃ z : Int, e = .returned (.int .i64 z) ∧ decide (0 ≤ z) = anyOf f ns ss k) ∧ Below w.heap.size w w' := by
  obtain ⟨a, cap, rfl, hc⟩ := ht.cells
  have HC := hide hc
  have H2 := hide h2
  have H3 := hide h3
  clear hc h2 h3 ht
  go_enter Try.func153, Try.ntmps153
  go_wp2_with fail
  go_loopg [5, 8] ns (fun gg _ i W => ∃ q : Nat, q + gg = ns ∧ i = .int .i64 q ∧ (∀ j, j < q → hit f (ss j) k = false) ∧ Below w.heap.size w W)
  case atStart => exact ⟨0, by omega, rfl, fun j hj => absurd hj (Nat.not_lt_zero _), Below.refl _ _⟩
  case round =>
    obtain ⟨q, hq, rfl, hst, hb⟩ := hrel
    have HST := hide hst
    have HB := hide hb
    clear hst hb
    by_cases hlt : q < ns
    · obtain ⟨g, v, rfl, c0, hg, htq⟩ := unhide HC q hlt
      have c1 : wr.cell? ⟨g, q, none⟩ = some v := cell_below (unhide HB) c0
      have HT := hide (htq.below (unhide HB))
      obtain ⟨fg, lb, rfl⟩ := htq.form
      have hkn : (q : Int) < (ns : Int) := by omega
      have hkz : (0 : Int) ≤ (q : Int) := by omega
      clear c0 hg htq
      go_wp2_with fail
      refine (holds_any lo kb _ mv n f (ss q) k _ hk (unhide HT) ((unhide H2).below (unhide HB)) (cell_below (unhide HB) (unhide H3))).mono ?_
      rintro e w3 ⟨rfl, hb3⟩
      have HB3 := hide ((unhide HB).trans (hb3.mono (unhide HB).size))
      clear hb3
      cases e : hit f (ss q) k with
      | true =>
        have HE := hide e
        clear e
        go_wp2_with fail
        go_ret
        exact ⟨⟨_, rfl, by rw [anyOf_yes hlt (unhide HE)]; simp⟩, unhide HB3⟩
      | false =>
        have HE := hide e
        clear e
        go_wp2_with fail
        go_roundg (ns - (q + 1))
        case measure => omega
        case rel =>
          have hst' : ∀ j, j < q + 1 → hit f (ss j) k = false := fun j hj => by
            by_cases e' : j = q
            · rw [e']; exact unhide HE
            · exact unhide HST j (by omega)
          exact ⟨q + 1, by omega, by go_num, hst', unhide HB3⟩
    · have e : ns = q := by omega
      subst e
      have hnk : ¬ ((ns : Int) < (ns : Int)) := by omega
      go_wp2_with fail
      go_ret
      exact ⟨⟨_, rfl, by rw [anyOf_no (unhide HST)]; rfl⟩, unhide HB⟩

set_option maxRecDepth 100000 in
set_option maxHeartbeats 4000000 in
theorem contains_any (B lo kb : Nat) (tv mv : Value) (n : Nat) (f : Nat → M) (ns : Nat) (ss : Nat → Sp) (k : Nat) (w : World) (hk : k < n) (hns : ns ≤ 50) (ht : TestsAt B w tv mv ns n f ss) (h2 : MomsAt lo w mv n f) (h3 : w.cell? ⟨kb, 0, none⟩ = some (.int .i64 k)) :
    Calls Try.prog 127 #[tv, .func (.func 128) #[] #[.pointer (some ⟨kb, 0, none⟩)]] w fun e w' => e = .returned (.bool (anyOf f ns ss k)) ∧ Below w.heap.size w w' := by
  have HT := hide ht
  have H2 := hide h2
  have H3 := hide h3
  obtain ⟨a, cap, rfl, -⟩ := ht.cells
  clear h2 h3 ht
  go_enter Try.func127, Try.ntmps127
  go_wp2_with fail
  refine (index_any B lo kb _ mv n f ns ss k _ hk hns (unhide HT) (unhide H2) (unhide H3)).mono ?_
  rintro e w3 ⟨⟨z, rfl, hz⟩, hb3⟩
  have HB3 := hide hb3
  have HZ := hide hz
  clear hb3 hz
  go_wp2_with fail
  go_ret
  exact ⟨by rw [← unhide HZ]; rfl, unhide HB3⟩
end Go.Proofs.Ytjhfdjdmiombpab
