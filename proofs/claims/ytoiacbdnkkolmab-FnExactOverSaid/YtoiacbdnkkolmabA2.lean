import Derived.Test.YtoiacbdnkkolmabA1
namespace Go.Proofs.Ytoiacbdnkkolmab
open Go.RowKit

set_option maxHeartbeats 400000 in
theorem szVarS_any (lo : Nat) (v : Value) (n : Nat) (f : Nat → V) (left : Int) (w : World) (hv : VarsAt lo w v n f) (hl : 0 ≤ left) (hl2 : left ≤ 1048576) :
    Calls Try.prog 133 #[v, .int .i64 left] w fun e w' => (∃ r : Int, e = .returned (.int .i64 r) ∧ r ≤ left ∧ (0 ≤ r → (n : Int) ≤ 1048576)) ∧ Below w.heap.size w w' := by
  have HV := hide hv
  obtain ⟨a, cap, rfl, hn, _⟩ := hv
  unfold maxLen at hn
  go_enter Try.func133, Try.ntmps133
  by_cases h0 : left - n < 0
  · go_wp2
    go_ret
    exact ⟨⟨_, rfl, by omega, by omega⟩, Below.refl _ _⟩
  · go_wp2
    go_loopw [1, 5] (fun l i w' => ∃ (k : Nat) (r : Int), k ≤ n ∧ i = .int .i64 k ∧ l = .int .i64 r ∧ 0 ≤ r ∧ r ≤ left - n ∧ Below w.heap.size w w') (fun _ i _ => n - (intOf i).toNat)
    case atStart => exact ⟨0, _, by omega, rfl, rfl, by omega, by omega, Below.refl _ _⟩
    case round =>
      obtain ⟨k, r, hk, rfl, rfl, hr1, hr2, hb⟩ := hrel
      by_cases hlt : k < n
      · obtain ⟨a', cap', e, _, hv⟩ := (unhide HV).below hb
        cases e
        obtain ⟨b, o, rfl, hc1, hc2, hs1, hs2, _⟩ := hv k hlt
        clear hv
        go_wp2_with (go_at_call 158; refine (szVar_any _ _ _ _ hs1 hs2 hr1 (by omega)).mono ?_; rintro e w1 ⟨⟨r1, rfl, hr3⟩, hb1⟩)
        · go_ret
          exact ⟨⟨_, rfl, by omega, by omega⟩, hb.trans (hb1.mono hb.size)⟩
        · go_roundw
          case rel => exact ⟨k + 1, _, by omega, by go_num, rfl, by omega, by omega, hb.trans (hb1.mono hb.size)⟩
          case measure => simp [intOf]; omega
      · go_wp2
        go_ret
        exact ⟨⟨_, rfl, by omega, by omega⟩, hb⟩

set_option maxHeartbeats 400000 in
theorem szMoment_any (lo : Nat) (k t fn l : Int) (tx : ByteArray) (v : Value) (n : Nat) (f : Nat → V) (left : Int) (w : World) (ht : tx.size ≤ maxLen) (hv : VarsAt lo w v n f) (hl : 0 ≤ left) (hl2 : left ≤ 1048576) :
    Calls Try.prog 104 #[.agg #[.int .i64 k, .int .i64 t, .int .i64 fn, .int .i64 l, .string tx, v], .int .i64 left] w fun e w' => (∃ r : Int, e = .returned (.int .i64 r) ∧ r ≤ left ∧ (0 ≤ r → (n : Int) ≤ 1048576)) ∧ Below w.heap.size w w' := by
  unfold maxLen at ht
  have HV := hide hv; clear hv
  go_enter Try.func104, Try.ntmps104
  go_wp2_with (go_at_call 133; refine (szVarS_any lo _ n f _ _ ((unhide HV).below ((Below.refl _ _).alloc (Nat.le_refl _) _)) (by omega) (by omega)).mono ?_; rintro e w1 ⟨⟨r1, rfl, hr3, hr4⟩, hb1⟩)
  · go_ret
    exact ⟨⟨_, rfl, by omega, by omega⟩, (Below.refl _ _).alloc (Nat.le_refl _) _⟩
  · go_ret
    exact ⟨⟨_, rfl, by omega, by omega⟩, ((Below.refl _ _).alloc (Nat.le_refl _) _).trans (hb1.mono (by simp))⟩
  · go_ret
    exact ⟨⟨_, rfl, by omega, by omega⟩, ((Below.refl _ _).alloc (Nat.le_refl _) _).trans (hb1.mono (by simp))⟩

set_option maxHeartbeats 400000 in
theorem szMomentS_any (lo : Nat) (v : Value) (n : Nat) (f : Nat → M) (left : Int) (w : World) (hv : MomsAt lo w v n f) (hl : 0 ≤ left) (hl2 : left ≤ 1048576) :
    Calls Try.prog 61 #[v, .int .i64 left] w fun e w' => (∃ r : Int, e = .returned (.int .i64 r) ∧ r ≤ left ∧ (0 ≤ r → (n : Int) ≤ 1048576 ∧ ∀ i, i < n → (f i).nv ≤ 1048576)) ∧ Below w.heap.size w w' := by
  have HV := hide hv
  obtain ⟨a, cap, rfl, hn, _⟩ := hv
  unfold maxLen at hn
  go_enter Try.func61, Try.ntmps61
  by_cases h0 : left - n < 0
  · go_wp2
    go_ret
    exact ⟨⟨_, rfl, by omega, by omega⟩, Below.refl _ _⟩
  · go_wp2
    go_loopw [1, 5] (fun l i w' => ∃ (k : Nat) (r : Int), k ≤ n ∧ i = .int .i64 k ∧ l = .int .i64 r ∧ 0 ≤ r ∧ r ≤ left - n ∧ (∀ i, i < k → (f i).nv ≤ 1048576) ∧ Below w.heap.size w w') (fun _ i _ => n - (intOf i).toNat)
    case atStart => exact ⟨0, _, by omega, rfl, rfl, by omega, by omega, by omega, Below.refl _ _⟩
    case round =>
      obtain ⟨k, r, hk, rfl, rfl, hr1, hr2, hq, hb⟩ := hrel
      have HQ := hide hq; clear hq
      by_cases hlt : k < n
      · obtain ⟨a', cap', e, _, hv⟩ := (unhide HV).below hb
        cases e
        obtain ⟨b, o, vv, rfl, hc0, hc1, hc2, hc3, hc4, hc5, hs1, hs2, _⟩ := hv k hlt
        clear hv
        have HS := hide hs2; clear hs2
        go_wp2_with (go_at_call 104; refine (szMoment_any lo _ _ _ _ _ _ _ _ _ _ hs1 (unhide HS) hr1 (by omega)).mono ?_; rintro e w1 ⟨⟨r1, rfl, hr3, hr4⟩, hb1⟩)
        · go_ret
          exact ⟨⟨_, rfl, by omega, by omega⟩, hb.trans (hb1.mono hb.size)⟩
        · go_roundw
          case rel =>
            refine ⟨k + 1, _, by omega, by go_num, rfl, by omega, by omega, fun i hi => ?_, hb.trans (hb1.mono hb.size)⟩
            by_cases hik : i < k
            · exact unhide HQ i hik
            · have e : i = k := by omega
              rw [e]; omega
          case measure => simp [intOf]; omega
      · go_wp2
        go_ret
        exact ⟨⟨_, rfl, by omega, fun _ => ⟨by omega, fun i hi => unhide HQ i (by omega)⟩⟩, hb⟩

set_option maxHeartbeats 400000 in
theorem szTrace_any (lo : Nat) (v1 v2 : Value) (nf : Nat) (fns : Nat → ByteArray) (n : Nat) (f : Nat → M) (left : Int) (w : World) (h1 : StrsAt lo w v1 nf fns) (h2 : MomsAt lo w v2 n f) (hl : 0 ≤ left) (hl2 : left ≤ 1048576) :
    Calls Try.prog 15 #[.agg #[v1, v2], .int .i64 left] w fun e w' => (∃ r : Int, e = .returned (.int .i64 r) ∧ r ≤ left ∧ (0 ≤ r → (nf : Int) ≤ 1048576 ∧ (n : Int) ≤ 1048576 ∧ ∀ i, i < n → (f i).nv ≤ 1048576)) ∧ Below w.heap.size w w' := by
  have H1 := hide h1; clear h1
  have H2 := hide h2; clear h2
  have B1 := (Below.refl w.heap.size w).alloc (Nat.le_refl _) (.cells #[v1, v2] 25)
  go_enter Try.func15, Try.ntmps15
  go_wp2_with (first
    | (go_at_call 60; refine (szStringS_any lo _ nf fns _ _ ((unhide H1).below B1) (by omega) (by omega)).mono ?_; rintro e w1 ⟨⟨r1, rfl, hr3, hr4⟩, rfl⟩)
    | (go_at_call 61; refine (szMomentS_any lo _ n f _ _ ((unhide H2).below B1) (by omega) (by omega)).mono ?_; rintro e w1 ⟨⟨r2, rfl, hr5, hr6⟩, hb1⟩))
  · go_ret
    exact ⟨⟨_, rfl, by omega, by omega⟩, B1⟩
  · go_ret
    exact ⟨⟨_, rfl, by omega, by omega⟩, B1.trans (hb1.mono (by simp))⟩
  · go_ret
    exact ⟨⟨_, rfl, by omega, fun h => ⟨hr4 ‹_›, hr6 h⟩⟩, B1.trans (hb1.mono (by simp))⟩
end Go.Proofs.Ytoiacbdnkkolmab
