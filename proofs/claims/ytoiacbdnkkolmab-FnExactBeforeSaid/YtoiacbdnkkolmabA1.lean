import Derived.Test.YtoiacbdnkkolmabProg
import Derived.Test.YtoiacbdnkkolmabBase
import Derived.WalkLawsBesides
namespace Go.Proofs.Ytoiacbdnkkolmab
open Go.RowKit

set_option maxHeartbeats 400000 in
theorem szVar_any (nm tx : ByteArray) (left : Int) (w : World) (h1 : nm.size ≤ maxLen) (h2 : tx.size ≤ maxLen) (hl : 0 ≤ left) (hl2 : left ≤ 1048576) :
    Calls Try.prog 158 #[.agg #[.string nm, .string tx], .int .i64 left] w fun e w' => (∃ r : Int, e = .returned (.int .i64 r) ∧ r ≤ left) ∧ Below w.heap.size w w' := by
  unfold maxLen at h1 h2
  go_enter Try.func158, Try.ntmps158
  go_wp2
  all_goals
    go_ret
    exact ⟨⟨_, rfl, by omega⟩, (Below.refl _ _).alloc (Nat.le_refl _) _⟩

set_option maxHeartbeats 400000 in
theorem szStringS_any (lo : Nat) (v : Value) (n : Nat) (f : Nat → ByteArray) (left : Int) (w : World) (hv : StrsAt lo w v n f) (hl : 0 ≤ left) (hl2 : left ≤ 1048576) :
    Calls Try.prog 60 #[v, .int .i64 left] w fun e w' => (∃ r : Int, e = .returned (.int .i64 r) ∧ r ≤ left ∧ (0 ≤ r → (n : Int) ≤ 1048576)) ∧ w' = w := by
  obtain ⟨a, cap, rfl, hn, hv⟩ := hv
  unfold maxLen at hn hv
  have HV := hide hv; clear hv
  go_enter Try.func60, Try.ntmps60
  by_cases h0 : left - n < 0
  · go_wp2
    go_ret
    exact ⟨⟨_, rfl, by omega, by omega⟩, rfl⟩
  · go_wp2
    go_loop [1, 5] (fun l i => ∃ (k : Nat) (r : Int), k ≤ n ∧ i = .int .i64 k ∧ l = .int .i64 r ∧ 0 ≤ r ∧ r ≤ left - n) (fun _ i => n - (intOf i).toNat)
    case atStart => exact ⟨0, _, by omega, rfl, rfl, by omega, by omega⟩
    case round =>
      obtain ⟨k, r, hk, rfl, rfl, hr1, hr2⟩ := hrel
      by_cases hlt : k < n
      · obtain ⟨b, o, rfl, hc, hs, _⟩ := unhide HV k hlt
        go_wp2
        · go_ret
          exact ⟨⟨_, rfl, by omega, by omega⟩, rfl⟩
        · go_round
          case rel => exact ⟨k + 1, _, by omega, by go_num, rfl, by omega, by omega⟩
          case measure => simp [intOf]; omega
      · go_wp2
        go_ret
        exact ⟨⟨_, rfl, by omega, by omega⟩, rfl⟩
end Go.Proofs.Ytoiacbdnkkolmab
