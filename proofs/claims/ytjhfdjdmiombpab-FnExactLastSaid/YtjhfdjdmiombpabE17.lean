import Derived.Test.YtjhfdjdmiombpabE16
import Derived.Deep.RegionHeld3
namespace Go.Proofs.Ytjhfdjdmiombpab
open Go.RowKit Go.Lib

/-- The first moment behind place k, n when there is none. -/
def NextIs (n : Nat) (P : Nat → Bool) (k z : Int) : Prop := (∃ j : Nat, z = j ∧ k < (j : Int) ∧ j < n ∧ P j = true ∧ ∀ i : Nat, k < (i : Int) → i < j → P i = false) ∨ (z = n ∧ ∀ i : Nat, k < (i : Int) → i < n → P i = false)

theorem NextIs.uniq {n : Nat} {P : Nat → Bool} {k z z' : Int} (h : NextIs n P k z) (h' : NextIs n P k z') : z = z' := by
  rcases h with ⟨j, rfl, h1, h2, h3, h4⟩ | ⟨rfl, h4⟩ <;> rcases h' with ⟨j', rfl, h1', h2', h3', h4'⟩ | ⟨rfl, h4'⟩
  · rcases Nat.lt_trichotomy j j' with h | h | h
    · have := h4' j h1 h; rw [h3] at this; cases this
    · rw [h]
    · have := h4 j' h1' h; rw [h3'] at this; cases this
  · have := h4' j h1 h2; rw [h3] at this; cases this
  · have := h4 j' h1' h2'; rw [h3'] at this; cases this
  · rfl

/-- The last moment ahead of place k, -1 when there is none. -/
def LastIs (P : Nat → Bool) (k z : Int) : Prop := (∃ j : Nat, z = j ∧ (j : Int) < k ∧ P j = true ∧ ∀ i : Nat, j < i → (i : Int) < k → P i = false) ∨ (z = -1 ∧ ∀ i : Nat, (i : Int) < k → P i = false)

theorem LastIs.uniq {P : Nat → Bool} {k z z' : Int} (h : LastIs P k z) (h' : LastIs P k z') : z = z' := by
  rcases h with ⟨j, rfl, h1, h3, h4⟩ | ⟨rfl, h4⟩ <;> rcases h' with ⟨j', rfl, h1', h3', h4'⟩ | ⟨rfl, h4'⟩
  · rcases Nat.lt_trichotomy j j' with h | h | h
    · have := h4 j' h h1'; rw [h3'] at this; cases this
    · rw [h]
    · have := h4' j h h1; rw [h3] at this; cases this
  · have := h4' j h1; rw [h3] at this; cases this
  · have := h4 j' h1'; rw [h3'] at this; cases this
  · rfl

set_option maxRecDepth 100000 in
set_option maxHeartbeats 4000000 in
theorem l3next_any (B : Nat) (hv : Value) (n : Nat) (f : Nat → M) (ns : Nat) (ss : Nat → Sp) (k : Int) (w : World) (h : HitsAt B w hv ns n f ss) (hn : n ≤ 1048576) (hns : ns ≤ 50) (hk0 : -1 ≤ k) (hk1 : k ≤ n) :
    Calls Try.prog 92 #[hv, .int .i64 n, .int .i64 k] w fun e w' => (∃ z, e = .returned (.int .i64 z) ∧ NextIs n (anyOf f ns ss) k z) ∧ w' = w := by
  have H := hide h
  clear h
  obtain ⟨p, hp⟩ : ∃ p : Nat, (p : Int) = k + 1 := ⟨(k + 1).toNat, by omega⟩
  obtain rfl : k = (p : Int) - 1 := by omega
  have wk : IntKind.i64.wrap ((p : Int) - 1 + 1) = (p : Int) := by rw [IntKind.wrap_i64]; omega
  clear hp
  go_enter Try.func92, Try.ntmps92
  go_wp2_with fail
  go_loopg [7] (n + 1 - p) (fun gg i W => ∃ q : Nat, q + gg = n + 1 ∧ i = .int .i64 q ∧ p ≤ q ∧ (∀ j, p ≤ j → j < q → anyOf f ns ss j = false) ∧ W = w)
  case atStart => exact ⟨p, by omega, by simp, Nat.le_refl _, fun j h1 h2 => by omega, rfl⟩
  case round =>
    obtain ⟨q, hq, rfl, hpq, hst, rfl⟩ := hrel
    have HST := hide hst
    clear hst
    by_cases hlt : q < n
    · have hkn : (q : Int) < (n : Int) := by omega
      go_wp2_with fail
      refine (l3any_any B _ n f ns ss q _ (unhide H) hlt hns).mono ?_
      rintro e w2 ⟨rfl, rfl⟩
      cases e : anyOf f ns ss q with
      | true =>
        have HE := hide e
        clear e
        go_wp2_with fail
        go_ret
        exact ⟨⟨_, rfl, .inl ⟨q, rfl, by omega, hlt, unhide HE, fun i h1 h2 => unhide HST i (by omega) h2⟩⟩, rfl⟩
      | false =>
        have HE := hide e
        clear e
        go_wp2_with fail
        go_roundg (n + 1 - (q + 1))
        case measure => omega
        case rel =>
          have hst' : ∀ j, p ≤ j → j < q + 1 → anyOf f ns ss j = false := fun j h1 h2 => by
            by_cases e' : j = q
            · rw [e']; exact unhide HE
            · exact unhide HST j h1 (by omega)
          exact ⟨q + 1, by omega, by go_num, by omega, hst', rfl⟩
    · have hkn : ¬ (q : Int) < (n : Int) := by omega
      go_wp2_with fail
      go_ret
      exact ⟨⟨_, rfl, .inr ⟨rfl, fun i h1 h2 => unhide HST i (by omega) (by omega)⟩⟩, rfl⟩

set_option maxRecDepth 100000 in
set_option maxHeartbeats 4000000 in
theorem l3last_any (B : Nat) (hv : Value) (n : Nat) (f : Nat → M) (ns : Nat) (ss : Nat → Sp) (k : Int) (w : World) (h : HitsAt B w hv ns n f ss) (hn : n ≤ 1048576) (hns : ns ≤ 50) (hk0 : -1 ≤ k) (hk1 : k ≤ n) :
    Calls Try.prog 97 #[hv, .int .i64 k] w fun e w' => (∃ z, e = .returned (.int .i64 z) ∧ LastIs (anyOf f ns ss) k z) ∧ w' = w := by
  have H := hide h
  clear h
  have wk : IntKind.i64.wrap (k - 1) = k - 1 := by rw [IntKind.wrap_i64]; omega
  go_enter Try.func97, Try.ntmps97
  go_wp2_with fail
  go_loopg [5] (k + 1).toNat (fun gg i W => ∃ z : Int, i = .int .i64 z ∧ (z + 2).toNat = gg ∧ -2 ≤ z ∧ z < k ∧ (∀ j : Nat, z < (j : Int) → (j : Int) < k → anyOf f ns ss j = false) ∧ W = w)
  case atStart => exact ⟨k - 1, by simp, by omega, by omega, by omega, fun j h1 h2 => by omega, rfl⟩
  case round =>
    obtain ⟨z, rfl, hz, hz2, hzk, hst, rfl⟩ := hrel
    have HST := hide hst
    clear hst
    by_cases hlt : 0 ≤ z
    · obtain ⟨q, rfl⟩ := Int.eq_ofNat_of_zero_le hlt
      have hqn : q < n := by omega
      have wq : IntKind.i64.wrap ((q : Int) - 1) = (q : Int) - 1 := by rw [IntKind.wrap_i64]; omega
      go_wp2_with fail
      refine (l3any_any B _ n f ns ss q _ (unhide H) hqn hns).mono ?_
      rintro e w2 ⟨rfl, rfl⟩
      cases e : anyOf f ns ss q with
      | true =>
        have HE := hide e
        clear e
        go_wp2_with fail
        go_ret
        exact ⟨⟨_, rfl, .inl ⟨q, rfl, hzk, unhide HE, fun i h1 h2 => unhide HST i (by omega) h2⟩⟩, rfl⟩
      | false =>
        have HE := hide e
        clear e
        go_wp2_with fail
        go_roundg (((q : Int) - 1 + 2).toNat)
        case measure => omega
        case rel =>
          have hst' : ∀ j : Nat, (q : Int) - 1 < (j : Int) → (j : Int) < k → anyOf f ns ss j = false := fun j h1 h2 => by
            by_cases e' : j = q
            · rw [e']; exact unhide HE
            · exact unhide HST j (by omega) h2
          exact ⟨(q : Int) - 1, rfl, rfl, by omega, by omega, hst', rfl⟩
    · have hkn : ¬ (0 : Int) ≤ z := hlt
      go_wp2_with fail
      go_ret
      exact ⟨⟨_, rfl, .inr ⟨rfl, fun i h2 => unhide HST i (by omega) h2⟩⟩, rfl⟩
end Go.Proofs.Ytjhfdjdmiombpab
