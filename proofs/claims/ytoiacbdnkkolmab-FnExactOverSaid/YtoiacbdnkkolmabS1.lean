import Derived.Test.YtoiacbdnkkolmabProg
import Derived.Test.YtoiacbdnkkolmabMath
import Derived.WalkLawsBesides
import Derived.WalkSmall
namespace Go.Proofs.Ytoiacbdnkkolmab
open Go.RowKit

set_option maxHeartbeats 400000 in
theorem l1in_any (x a b : Int) (w : World) :
    Calls Try.prog 86 #[.int .i64 x, .int .i64 a, .int .i64 b] w fun e w' => e = .returned (.bool (decide (a ≤ x ∧ x ≤ b))) ∧ w' = w := by
  by_cases h1 : a ≤ x
  · by_cases h2 : x ≤ b
    · have e : decide (a ≤ x ∧ x ≤ b) = true := by simp [h1, h2]
      rw [e]; clear e
      go_enter Try.func86, Try.ntmps86
      go_wp2
      go_ret
      exact ⟨rfl, rfl⟩
    · have e : decide (a ≤ x ∧ x ≤ b) = false := by simp [h1, h2]
      rw [e]; clear e
      go_enter Try.func86, Try.ntmps86
      go_wp2
      go_ret
      exact ⟨rfl, rfl⟩
  · have e : decide (a ≤ x ∧ x ≤ b) = false := by simp [h1]
    rw [e]; clear e
    go_enter Try.func86, Try.ntmps86
    go_wp2
    go_ret
    exact ⟨rfl, rfl⟩

set_option maxHeartbeats 400000 in
theorem l1sizes_any (lo : Nat) (v1 v2 : Value) (nf : Nat) (fns : Nat → ByteArray) (n : Nat) (f : Nat → M) (w : World) (h1 : StrsAt lo w v1 nf fns) (h2 : MomsAt lo w v2 n f) :
    Calls Try.prog 134 #[.agg #[v1, v2]] w fun e w' => SaysB (SizesOk nf fns n) e ∧ Below w.heap.size w w' := by
  have H1 := hide h1
  obtain ⟨a1, cap1, rfl, hn1, -⟩ := h1
  obtain ⟨a2, cap2, rfl, hn2, -⟩ := h2
  unfold maxLen at hn1 hn2
  have B0 := hide ((Below.refl w.heap.size w).alloc (Nat.le_refl _) (.cells #[.slice a1 nf cap1, .slice a2 n cap2] 31))
  by_cases g1 : nf = 0
  · have d1 : ((nf : Int) == 0) = true := by rw [beq_iff_eq]; omega
    have G1 := hide g1; clear g1
    go_enter Try.func134, Try.ntmps134
    go_wp2
    go_ret
    exact ⟨SaysB.no (fun h => h.1 (unhide G1)), unhide B0⟩
  have d1 : ((nf : Int) == 0) = false := by rw [beq_eq_false_iff_ne]; omega
  by_cases g2 : nf ≤ 300
  · by_cases g3 : n ≤ 3000
    · have d2 : decide ((300 : Int) < (nf : Int)) = false := by simp; omega
      have d3 : decide ((3000 : Int) < (n : Int)) = false := by simp; omega
      go_enter Try.func134, Try.ntmps134
      go_wp2
      go_loop [4, 24] (fun _ i => ∃ (k : Nat), k ≤ nf ∧ i = .int .i64 k ∧ ∀ i, i < k → (fns i).size ≤ 40) (fun _ i => nf - (intOf i).toNat)
      case atStart => exact ⟨0, by omega, rfl, by omega⟩
      case round =>
        obtain ⟨k, hk, rfl, hq⟩ := hrel
        have HQ := hide hq; clear hq
        by_cases hlt : k < nf
        · obtain ⟨_, _, e, _, hv⟩ := (unhide H1).below (unhide B0)
          cases e
          obtain ⟨b, o, rfl, hc, hs, _⟩ := hv k hlt
          clear hv
          unfold maxLen at hs
          go_wp2
          · go_ret
            refine ⟨SaysB.no ?_, unhide B0⟩
            rintro ⟨_, _, _, h⟩
            have := h k hlt
            omega
          · go_round
            case rel =>
              refine ⟨k + 1, by omega, by go_num, fun i hi => ?_⟩
              by_cases hik : i < k
              · exact unhide HQ i hik
              · have e : i = k := by omega
                rw [e]; omega
            case measure => simp [intOf]; omega
        · go_wp2
          go_ret
          exact ⟨SaysB.yes ⟨g1, g2, g3, fun i hi => unhide HQ i (by omega)⟩, unhide B0⟩
    · go_enter Try.func134, Try.ntmps134
      have d2 : decide ((300 : Int) < (nf : Int)) = false := by simp; omega
      have d3 : decide ((3000 : Int) < (n : Int)) = true := by simp; omega
      go_wp2
      go_ret
      exact ⟨SaysB.no (fun h => g3 h.2.2.1), unhide B0⟩
  · go_enter Try.func134, Try.ntmps134
    have d2 : decide ((300 : Int) < (nf : Int)) = true := by simp; omega
    go_wp2
    go_ret
    exact ⟨SaysB.no (fun h => g2 h.2.1), unhide B0⟩
end Go.Proofs.Ytoiacbdnkkolmab
