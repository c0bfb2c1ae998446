import Derived.Test.YtoiacbdnkkolmaaGDcz
import Derived.Test.YtoiacbdnkkolmaaGFz
namespace Go.Proofs.Ytoiacbdnkkolmaa
open Go.RowKit

theorem BytesAt.below {w w' : World} {v : Value} {len : Nat} (h : BytesAt w v len) (hb : Below w.heap.size w w') : BytesAt w' v len := by
  obtain ⟨a, cap, hv, hc⟩ := h
  refine ⟨a, cap, hv, fun i hi => ?_⟩
  obtain ⟨b, o, x, ha, h1, h2⟩ := hc i hi
  exact ⟨b, o, x, ha, cell_below hb h1, h2⟩

set_option maxHeartbeats 1000000 in
theorem wByte_any (v : Value) (len i : Nat) (w : World) (h : BytesAt w v len) (hl : len ≤ 1048576) :
    Calls Try.prog 25 #[v, .int .i64 (i : Int)] w fun e w' => (∃ z : Nat, e = .returned (.int .i64 (z : Int)) ∧ z < 256) ∧ w' = w := by
  obtain ⟨a, cap, rfl, hc⟩ := h
  by_cases h0 : len = 0
  · subst h0
    go_enter Try.func25, Try.ntmps25
    go_wp2
    go_ret
    exact ⟨⟨0, rfl, by omega⟩, rfl⟩
  · have hlt : i % len < len := Nat.mod_lt _ (by omega)
    obtain ⟨b, o, x, rfl, c0, hx0, hx1⟩ := hc (i % len) hlt
    obtain ⟨z, rfl⟩ := Int.eq_ofNat_of_zero_le hx0
    have hne : ((len : Int) == 0) = false := by simpa using h0
    have hq0 : (0 : Int) ≤ ((i % len : Nat) : Int) := by omega
    have hq1 : ((i % len : Nat) : Int) < (len : Int) := by omega
    clear hc
    go_enter Try.func25, Try.ntmps25
    go_wp2
    go_ret
    exact ⟨⟨z, rfl, by omega⟩, rfl⟩
/-- The first moment behind place k and ahead of q at which P holds, n when there is none. -/
def NextTo (n : Nat) (P : Nat → Bool) (k : Int) (q : Nat) (z : Int) : Prop :=
  (∃ j : Nat, z = j ∧ k < (j : Int) ∧ j < q ∧ P j = true ∧ ∀ i : Nat, k < (i : Int) → i < j → P i = false) ∨ (z = n ∧ ∀ i : Nat, k < (i : Int) → i < q → P i = false)

theorem NextTo.start (n : Nat) (P : Nat → Bool) (k : Int) : NextTo n P k 0 n := .inr ⟨rfl, fun i _ h => by omega⟩

theorem NextTo.no {n : Nat} {P : Nat → Bool} {k : Int} {q : Nat} {z : Int} (h : NextTo n P k q z) (hq : (q : Int) ≤ k ∨ P q = false) : NextTo n P k (q + 1) z := by
  rcases h with ⟨j, e, h1, h2, h3, h4⟩ | ⟨e, h4⟩
  · exact .inl ⟨j, e, h1, by omega, h3, h4⟩
  · refine .inr ⟨e, fun i h1 h2 => ?_⟩
    by_cases e' : i = q
    · subst e'
      rcases hq with hq | hq
      · omega
      · exact hq
    · exact h4 i h1 (by omega)

theorem NextTo.hit {n : Nat} {P : Nat → Bool} {k : Int} {q : Nat} {z : Int} (h : NextTo n P k q z) (hz : z = n) (hqn : q < n) (hk : k < (q : Int)) (hp : P q = true) : NextTo n P k (q + 1) q := by
  rcases h with ⟨j, e, h1, h2, h3, h4⟩ | ⟨e, h4⟩
  · omega
  · exact .inl ⟨q, rfl, hk, by omega, hp, h4⟩

theorem NextTo.old {n : Nat} {P : Nat → Bool} {k : Int} {q : Nat} {z : Int} (h : NextTo n P k q z) (hz : z ≠ n) : NextTo n P k (q + 1) z := by
  rcases h with ⟨j, e, h1, h2, h3, h4⟩ | ⟨e, h4⟩
  · exact .inl ⟨j, e, h1, by omega, h3, h4⟩
  · exact absurd e hz

theorem NextTo.done {n : Nat} {P : Nat → Bool} {k : Int} {z : Int} (h : NextTo n P k n z) : FwdIs n P k z := h

/-- The last moment ahead of place k and of q, -1 when there is none. -/
def BackTo (P : Nat → Bool) (k : Int) (q : Nat) (z : Int) : Prop :=
  (∃ j : Nat, z = j ∧ (j : Int) < k ∧ j < q ∧ P j = true ∧ ∀ i : Nat, j < i → i < q → (i : Int) < k → P i = false) ∨ (z = -1 ∧ ∀ i : Nat, i < q → (i : Int) < k → P i = false)

theorem BackTo.start (P : Nat → Bool) (k : Int) : BackTo P k 0 (-1) := .inr ⟨rfl, fun i h _ => by omega⟩

theorem BackTo.no {P : Nat → Bool} {k : Int} {q : Nat} {z : Int} (h : BackTo P k q z) (hq : k ≤ (q : Int) ∨ P q = false) : BackTo P k (q + 1) z := by
  rcases h with ⟨j, e, h1, h2, h3, h4⟩ | ⟨e, h4⟩
  · refine .inl ⟨j, e, h1, by omega, h3, fun i h5 h6 h7 => ?_⟩
    by_cases e' : i = q
    · subst e'
      rcases hq with hq | hq
      · omega
      · exact hq
    · exact h4 i h5 (by omega) h7
  · refine .inr ⟨e, fun i h6 h7 => ?_⟩
    by_cases e' : i = q
    · subst e'
      rcases hq with hq | hq
      · omega
      · exact hq
    · exact h4 i (by omega) h7

theorem BackTo.hit {P : Nat → Bool} {k : Int} {q : Nat} {z : Int} (_ : BackTo P k q z) (hk : (q : Int) < k) (hp : P q = true) : BackTo P k (q + 1) q :=
  .inl ⟨q, rfl, hk, by omega, hp, fun i h1 h2 _ => by omega⟩

theorem BackTo.done {n : Nat} {P : Nat → Bool} {k : Int} {z : Int} (h : BackTo P k n z) (hk : k ≤ (n : Int)) : BackIs P k z := by
  rcases h with ⟨j, e, h1, h2, h3, h4⟩ | ⟨e, h4⟩
  · exact .inl ⟨j, e, h1, h3, fun i h5 h6 => h4 i h5 (by omega) h6⟩
  · exact .inr ⟨e, fun i h6 => h4 i (by omega) h6⟩
end Go.Proofs.Ytoiacbdnkkolmaa
