import Derived.Test.YtoiacbdnkkolmabS2
namespace Go.Proofs.Ytoiacbdnkkolmab
open Go.RowKit

set_option maxHeartbeats 1000000 in
theorem varsOk_any (lo : Nat) (v : Value) (n : Nat) (f : Nat → V) (w : World) (hv : VarsAt lo w v n f) :
    Calls Try.prog 142 #[v] w fun e w' => SaysB (VarsOk n f) e ∧ Below w.heap.size w w' := by
  have HV := hide hv
  obtain ⟨a, cap, rfl, hn, -⟩ := hv
  unfold maxLen at hn
  by_cases c6 : (decide ((200 : Int) < (n : Int))) = true
  · go_enter Try.func142, Try.ntmps142
    go_wp2
    go_ret
    exact ⟨SaysB.no (fun h => by have := h.1; simp at c6; omega), Below.refl _ _⟩
  have c6 : (decide ((200 : Int) < (n : Int))) = false := by simpa using c6
  have HN : Hid (n ≤ 200) := by simp at c6; exact hide (by omega)
  go_enter Try.func142, Try.ntmps142
  go_wp2
  go_loopw [10] (fun i w' => ∃ (j : Nat), j ≤ n ∧ i = .int .i64 j ∧ (∀ i, i < j → (f i).name.size ≠ 0 ∧ (f i).name.size ≤ 40 ∧ (f i).text.size ≤ 4000) ∧ Below w.heap.size w w') (fun i _ => n - (intOf i).toNat)
  case atStart => exact ⟨0, by omega, rfl, by omega, Below.refl _ _⟩
  case round =>
    obtain ⟨j, hk, rfl, hq, hb⟩ := hrel
    have HQ := hide hq; clear hq
    by_cases hlt : j < n
    · obtain ⟨_, _, e, _, hv⟩ := (unhide HV).below hb
      cases e
      obtain ⟨b, o, rfl, hc1, hc2, hs1, hs2, -⟩ := hv j hlt
      clear hv
      have hb2 := hide (hb.alloc hb.size (.cells #[.string (f j).name, .string (f j).text] 196))
      unfold maxLen at hs1 hs2
      by_cases e1 : decide (((f j).name.size : Int) < 1) = true
      · go_wp2
        go_ret
        exact ⟨SaysB.no (fun h => (h.2 j hlt).1 (by simp at e1; omega)), unhide hb2⟩
      have e1 : decide (((f j).name.size : Int) < 1) = false := by simpa using e1
      by_cases e2 : decide ((40 : Int) < ((f j).name.size : Int)) = true
      · go_wp2
        go_ret
        exact ⟨SaysB.no (fun h => by have := (h.2 j hlt).2.1; simp at e2; omega), unhide hb2⟩
      have e2 : decide ((40 : Int) < ((f j).name.size : Int)) = false := by simpa using e2
      by_cases e3 : decide ((4000 : Int) < ((f j).text.size : Int)) = true
      · go_wp2
        go_ret
        exact ⟨SaysB.no (fun h => by have := (h.2 j hlt).2.2; simp at e3; omega), unhide hb2⟩
      have e3 : decide ((4000 : Int) < ((f j).text.size : Int)) = false := by simpa using e3
      go_wp2
      go_roundw
      case rel =>
        refine ⟨j + 1, by omega, by go_num, fun i hi => ?_, unhide hb2⟩
        by_cases hik : i < j
        · exact unhide HQ i hik
        · have e : i = j := by omega
          rw [e]
          refine ⟨fun h => ?_, ?_, ?_⟩
          · rw [h] at e1; simp at e1
          · simp at e2; omega
          · simp at e3; omega
      case measure => simp [intOf]; omega
    · go_wp2
      go_ret
      exact ⟨SaysB.yes ⟨unhide HN, fun i hi => unhide HQ i (by omega)⟩, hb⟩

set_option maxHeartbeats 1000000 in
theorem momentOk_any (lo nf : Nat) (k t fn l : Int) (tx : ByteArray) (v : Value) (n : Nat) (f : Nat → V) (w : World) (ht : tx.size ≤ maxLen) (hv : VarsAt lo w v n f) :
    Calls Try.prog 118 #[.agg #[.int .i64 k, .int .i64 t, .int .i64 fn, .int .i64 l, .string tx, v], .int .i64 nf] w fun e w' => SaysB (HeadOk nf k t fn l tx.size ∧ VarsOk n f) e ∧ Below w.heap.size w w' := by
  have HV := hide hv; clear hv
  unfold maxLen at ht
  have B0 := hide ((Below.refl w.heap.size w).alloc (Nat.le_refl _) (.cells #[.int .i64 k, .int .i64 t, .int .i64 fn, .int .i64 l, .string tx, v] 73))
  by_cases c1 : (decide (k < 1)) = true
  · go_enter Try.func118, Try.ntmps118
    go_wp2
    go_ret
    exact ⟨SaysB.no (fun h => by have := h.1; unfold HeadOk at this; simp at c1; omega), unhide B0⟩
  have c1 : (decide (k < 1)) = false := by simpa using c1
  by_cases c2 : (decide (7 < k)) = true
  · go_enter Try.func118, Try.ntmps118
    go_wp2
    go_ret
    exact ⟨SaysB.no (fun h => by have := h.1; unfold HeadOk at this; simp at c2; omega), unhide B0⟩
  have c2 : (decide (7 < k)) = false := by simpa using c2
  by_cases c3 : (decide (t < 0)) = true
  · go_enter Try.func118, Try.ntmps118
    go_wp2
    go_ret
    exact ⟨SaysB.no (fun h => by have := h.1; unfold HeadOk at this; simp at c3; omega), unhide B0⟩
  have c3 : (decide (t < 0)) = false := by simpa using c3
  by_cases c4 : (decide (101 ≤ t)) = true
  · go_enter Try.func118, Try.ntmps118
    go_wp2
    go_ret
    exact ⟨SaysB.no (fun h => by have := h.1; unfold HeadOk at this; simp at c4; omega), unhide B0⟩
  have c4 : (decide (101 ≤ t)) = false := by simpa using c4
  by_cases c5 : (decide (fn < 0)) = true
  · go_enter Try.func118, Try.ntmps118
    go_wp2
    go_ret
    exact ⟨SaysB.no (fun h => by have := h.1; unfold HeadOk at this; simp at c5; omega), unhide B0⟩
  have c5 : (decide (fn < 0)) = false := by simpa using c5
  by_cases c6 : (decide ((nf : Int) ≤ fn)) = true
  · go_enter Try.func118, Try.ntmps118
    go_wp2
    go_ret
    exact ⟨SaysB.no (fun h => by have := h.1; unfold HeadOk at this; simp at c6; omega), unhide B0⟩
  have c6 : (decide ((nf : Int) ≤ fn)) = false := by simpa using c6
  by_cases c7 : (decide (l < 0)) = true
  · go_enter Try.func118, Try.ntmps118
    go_wp2
    go_ret
    exact ⟨SaysB.no (fun h => by have := h.1; unfold HeadOk at this; simp at c7; omega), unhide B0⟩
  have c7 : (decide (l < 0)) = false := by simpa using c7
  by_cases c8 : (decide (100000 < l)) = true
  · go_enter Try.func118, Try.ntmps118
    go_wp2
    go_ret
    exact ⟨SaysB.no (fun h => by have := h.1; unfold HeadOk at this; simp at c8; omega), unhide B0⟩
  have c8 : (decide (100000 < l)) = false := by simpa using c8
  by_cases c9 : k = 1 ∧ l = 0
  · have d8 : (k == 1) = true := by simpa using c9.1
    have d9 : (l == 0) = true := by simpa using c9.2
    have C9 := hide c9; clear c9
    go_enter Try.func118, Try.ntmps118
    go_wp2
    go_ret
    exact ⟨SaysB.no (fun h => by have := h.1; unfold HeadOk at this; exact this.2.2.2.2.2.2.2.2.1 (unhide C9)), unhide B0⟩
  have C9 := hide c9
  have c9 : ((k == 1) = true ∧ (l == 0) = false) ∨ (k == 1) = false := by
    by_cases h : k = 1
    · left; exact ⟨by simpa using h, by simpa using fun h' => c9 ⟨h, h'⟩⟩
    · right; simpa using h
  by_cases c10 : decide ((tx.size : Int) ≤ 4000) = false
  · rcases c9 with ⟨c9, d9⟩ | c9
    all_goals
      go_enter Try.func118, Try.ntmps118
      go_wp2
      go_ret
      exact ⟨SaysB.no (fun h => by have := h.1; unfold HeadOk at this; simp at c10; omega), unhide B0⟩
  have c10 : decide ((tx.size : Int) ≤ 4000) = true := by simpa using c10
  have HO : Hid (HeadOk nf k t fn l tx.size) := by
    simp at c1 c2 c3 c4 c5 c6 c7 c8 c10
    exact ⟨by omega, by omega, by omega, by omega, by omega, by omega, by omega, by omega, unhide C9, by omega⟩
  rcases c9 with ⟨c9, d9⟩ | c9
  all_goals
    go_enter Try.func118, Try.ntmps118
    go_wp2_with fail
    refine (varsOk_any lo _ n f _ ((unhide HV).below (by exact unhide B0))).mono ?_
    rintro e w1 ⟨⟨b, rfl, hbv⟩, hb1⟩
    have B1 := hide ((unhide B0).trans (hb1.mono (unhide B0).size)); clear hb1
    have HBV := hide hbv; clear hbv
    go_wp2
    go_ret
    refine ⟨⟨b, rfl, ?_⟩, unhide B1⟩
    rw [unhide HBV]
    exact ⟨fun h => ⟨unhide HO, h⟩, fun h => h.2⟩
end Go.Proofs.Ytoiacbdnkkolmab
