import Derived.Test.YtoiacbdnkkolmabC1
import Derived.Test.YtoiacbdnkkolmabA4
import Derived.Deep.RegionHeld3
namespace Go.Proofs.Ytoiacbdnkkolmab
open Go.RowKit

set_option maxHeartbeats 400000 in
theorem eqFnCount_any (x0 x1 x2 x3 : Int) (w : World) :
    Calls Try.prog 79 #[.agg #[.int .i64 x0, .int .i64 x1, .int .i64 x2, .int .i64 x3], .agg #[.int .i64 x0, .int .i64 x1, .int .i64 x2, .int .i64 x3]] w fun e w' => e = .returned (.bool true) ∧ Below w.heap.size w w' := by
  go_enter Try.func79, Try.ntmps79
  go_wp2
  go_ret
  exact ⟨rfl, ((Below.refl _ _).alloc (Nat.le_refl _) _).alloc (by simp) _⟩

set_option maxHeartbeats 1000000 in
theorem eqFnCountS_any (lo lo' : Nat) (v v' : Value) (n : Nat) (F : Nat → Nat → Int) (w : World) (hv : RowsAt lo w v 4 n F) (hv' : RowsAt lo' w v' 4 n F) (hl : n ≤ 1048576) :
    Calls Try.prog 26 #[v, v'] w fun e w' => e = .returned (.bool true) ∧ Below w.heap.size w w' := by
  have HV := hide hv
  have HV' := hide hv'
  obtain ⟨a, cap, rfl⟩ := hv.shape
  obtain ⟨a', cap', rfl⟩ := hv'.shape
  clear hv hv'
  go_enter Try.func26, Try.ntmps26
  go_wp2
  go_loopw [5] (fun i w' => ∃ (k : Nat), k ≤ n ∧ i = .int .i64 k ∧ Below w.heap.size w w') (fun i _ => n - (intOf i).toNat)
  case atStart => exact ⟨0, by omega, rfl, Below.refl _ _⟩
  case round =>
    obtain ⟨k, hk, rfl, hb⟩ := hrel
    by_cases hlt : k < n
    · obtain ⟨g, rfl, -, hc⟩ := ((unhide HV).below hb).at_ k hlt
      obtain ⟨g', rfl, -, hd⟩ := ((unhide HV').below hb).at_ k hlt
      have c0 := (hc 0 (by omega)).1
      have d0 := (hd 0 (by omega)).1
      have c1 := (hc 1 (by omega)).1
      have d1 := (hd 1 (by omega)).1
      have c2 := (hc 2 (by omega)).1
      have d2 := (hd 2 (by omega)).1
      have c3 := (hc 3 (by omega)).1
      have d3 := (hd 3 (by omega)).1
      clear hc hd
      generalize F k 0 = x0 at c0 d0
      generalize F k 1 = x1 at c1 d1
      generalize F k 2 = x2 at c2 d2
      generalize F k 3 = x3 at c3 d3
      rw [Nat.add_zero] at c0 d0
      have hi1 : (0 : Int) ≤ (k : Int) := by omega
      have hi2 : (k : Int) < (n : Int) := by omega
      go_wp2
      go_region_held3 (fun w' => (w'.cell? ⟨g, k * 4, none⟩ = some (.int .i64 x0) ∧ w'.cell? ⟨g, k * 4 + 1, none⟩ = some (.int .i64 x1) ∧ w'.cell? ⟨g, k * 4 + 2, none⟩ = some (.int .i64 x2) ∧ w'.cell? ⟨g, k * 4 + 3, none⟩ = some (.int .i64 x3)) ∧ w'.cell? ⟨g', k * 4, none⟩ = some (.int .i64 x0) ∧ w'.cell? ⟨g', k * 4 + 1, none⟩ = some (.int .i64 x1) ∧ w'.cell? ⟨g', k * 4 + 2, none⟩ = some (.int .i64 x2) ∧ w'.cell? ⟨g', k * 4 + 3, none⟩ = some (.int .i64 x3))
        (first | (exact ⟨⟨c0, c1, c2, c3⟩, d0, d1, d2, d3⟩) | (exact ⟨⟨cell_below hb1 c0, cell_below hb1 c1, cell_below hb1 c2, cell_below hb1 c3⟩, cell_below hb1 d0, cell_below hb1 d1, cell_below hb1 d2, cell_below hb1 d3⟩))
        ((go_at_call 79; refine (eqFnCount_any _ _ _ _ _).mono ?_; rintro e w1 ⟨rfl, hb1⟩))
      go_wp2
      go_roundw
      case rel => exact ⟨k + 1, by omega, by go_num, hb.drew.trans (hb1.mono (by simpa using hb.size))⟩
      case measure => simp [intOf]; omega
    · go_wp2
      go_ret
      exact ⟨rfl, hb⟩

set_option maxHeartbeats 1000000 in
theorem markFnCountS_any (lo : Nat) (v : Value) (n : Nat) (F : Nat → Nat → Int) (w : World) (hv : RowsAt lo w v 4 n F) (hl : n ≤ 1048576) :
    Calls Try.prog 27 #[v, .int .i64 1] w fun e w' => (e = .returned (.int .i64 (1 + n * 4)) ∧ RowsAt lo w' v 4 n (fun i j => 1 + i * 4 + j)) ∧ Below lo w w' := by
  have HV := hide hv
  obtain ⟨a, cap, rfl⟩ := hv.shape
  clear hv
  go_enter Try.func27, Try.ntmps27
  go_wp2
  go_loopw [1, 5] (fun q i wr => ∃ (j : Nat) (G : Nat → Nat → Int), j ≤ n ∧ q = .int .i64 (1 + j * 4) ∧ i = .int .i64 j ∧ RowsAt lo wr (.slice a n cap) 4 n G ∧ (∀ i' j', i' < j → j' < 4 → G i' j' = 1 + i' * 4 + j') ∧ Below lo w wr) (fun _ i _ => n - (intOf i).toNat)
  case atStart => exact ⟨0, F, by omega, by simp, rfl, unhide HV, fun _ _ h => absurd h (Nat.not_lt_zero _), Below.refl _ _⟩
  case round =>
    obtain ⟨j, G, hj, rfl, rfl, hfr, hmk, hb⟩ := hrel
    have HF := hide hfr
    have HK := hide hmk
    have HB := hide hb
    clear hfr hmk hb
    by_cases hlt : j < n
    · obtain ⟨g, hga, hlo, hc⟩ := (unhide HF).at_ j hlt
      obtain ⟨c0, f0⟩ := hc 0 (by omega)
      obtain ⟨c1, f1⟩ := hc 1 (by omega)
      obtain ⟨c2, f2⟩ := hc 2 (by omega)
      obtain ⟨c3, f3⟩ := hc 3 (by omega)
      generalize G j 0 = x0 at c0
      generalize G j 1 = x1 at c1
      generalize G j 2 = x2 at c2
      generalize G j 3 = x3 at c3
      rw [Nat.add_zero] at c0 f0
      subst hga
      have hi1 : (0 : Int) ≤ (j : Int) := by omega
      have hi2 : (j : Int) < (n : Int) := by omega
      clear hc
      go_wp2
      go_roundw
      case rel =>
        refine ⟨j + 1, _, by omega, by go_num, by go_num, ((((unhide HF).set (i := j) rfl (show 0 < 4 by omega) (1 + j * 4)).set (i := j) rfl (show 1 < 4 by omega) (1 + j * 4 + 1)).set (i := j) rfl (show 2 < 4 by omega) (1 + j * 4 + 1 + 1)).set (i := j) rfl (show 3 < 4 by omega) (1 + j * 4 + 1 + 1 + 1), fun i' j' hi hj => ?_, ((((unhide HB).setCell hlo _).setCell hlo _).setCell hlo _).setCell hlo _⟩
        by_cases e : i' = j
        · subst e
          rcases (show j' = 0 ∨ j' = 1 ∨ j' = 2 ∨ j' = 3 by omega) with rfl | rfl | rfl | rfl
          all_goals (simp <;> omega)
        · simp only [e, false_and, if_false]
          exact unhide HK i' j' (by omega) hj
      case measure => simp [intOf]; omega
    · have e : j = n := by omega
      subst e
      go_wp2
      go_ret
      exact ⟨⟨rfl, (unhide HF).congr (fun i' j' hi hj => unhide HK i' j' hi hj)⟩, unhide HB⟩

set_option maxHeartbeats 1000000 in
theorem heldFnCountS_any (lo : Nat) (v : Value) (n : Nat) (w : World) (hv : RowsAt lo w v 4 n (fun i j => 1 + i * 4 + j)) (hl : n ≤ 1048576) :
    Calls Try.prog 28 #[v, .int .i64 1] w fun e w' => e = .returned (.int .i64 (1 + n * 4)) ∧ Below w.heap.size w w' := by
  have HV := hide hv
  obtain ⟨a, cap, rfl⟩ := hv.shape
  clear hv
  go_enter Try.func28, Try.ntmps28
  go_wp2
  go_loopw [1, 5] (fun q i wr => ∃ (j : Nat), j ≤ n ∧ q = .int .i64 (1 + j * 4) ∧ i = .int .i64 j ∧ Below w.heap.size w wr) (fun _ i _ => n - (intOf i).toNat)
  case atStart => exact ⟨0, by omega, by simp, rfl, Below.refl _ _⟩
  case round =>
    obtain ⟨j, hj, rfl, rfl, hb⟩ := hrel
    have HB := hide hb
    by_cases hlt : j < n
    · obtain ⟨g, rfl, -, hc⟩ := ((unhide HV).below hb).at_ j hlt
      have c0 : wr.cell? ⟨g, j * 4, none⟩ = some (.int .i64 (1 + (j : Int) * 4)) := by have := (hc 0 (by omega)).1; simpa [Int.add_assoc] using this
      have c1 : wr.cell? ⟨g, j * 4 + 1, none⟩ = some (.int .i64 (1 + (j : Int) * 4 + 1)) := by have := (hc 1 (by omega)).1; simpa [Int.add_assoc] using this
      have c2 : wr.cell? ⟨g, j * 4 + 2, none⟩ = some (.int .i64 (1 + (j : Int) * 4 + 1 + 1)) := by have := (hc 2 (by omega)).1; simpa [Int.add_assoc] using this
      have c3 : wr.cell? ⟨g, j * 4 + 3, none⟩ = some (.int .i64 (1 + (j : Int) * 4 + 1 + 1 + 1)) := by have := (hc 3 (by omega)).1; simpa [Int.add_assoc] using this
      have hi1 : (0 : Int) ≤ (j : Int) := by omega
      have hi2 : (j : Int) < (n : Int) := by omega
      clear hc hb
      go_wp2
      go_roundw
      case rel => exact ⟨j + 1, by omega, by go_num, by go_num, unhide HB⟩
      case measure => simp [intOf]; omega
    · have e : j = n := by omega
      subst e
      go_wp2
      go_ret
      exact ⟨rfl, unhide HB⟩

set_option maxHeartbeats 400000 in
theorem eqBranch_any (x0 x1 x2 x3 : Int) (w : World) :
    Calls Try.prog 85 #[.agg #[.int .i64 x0, .int .i64 x1, .int .i64 x2, .int .i64 x3], .agg #[.int .i64 x0, .int .i64 x1, .int .i64 x2, .int .i64 x3]] w fun e w' => e = .returned (.bool true) ∧ Below w.heap.size w w' := by
  go_enter Try.func85, Try.ntmps85
  go_wp2
  go_ret
  exact ⟨rfl, ((Below.refl _ _).alloc (Nat.le_refl _) _).alloc (by simp) _⟩

set_option maxHeartbeats 1000000 in
theorem eqBranchS_any (lo lo' : Nat) (v v' : Value) (n : Nat) (F : Nat → Nat → Int) (w : World) (hv : RowsAt lo w v 4 n F) (hv' : RowsAt lo' w v' 4 n F) (hl : n ≤ 1048576) :
    Calls Try.prog 31 #[v, v'] w fun e w' => e = .returned (.bool true) ∧ Below w.heap.size w w' := by
  have HV := hide hv
  have HV' := hide hv'
  obtain ⟨a, cap, rfl⟩ := hv.shape
  obtain ⟨a', cap', rfl⟩ := hv'.shape
  clear hv hv'
  go_enter Try.func31, Try.ntmps31
  go_wp2
  go_loopw [5] (fun i w' => ∃ (k : Nat), k ≤ n ∧ i = .int .i64 k ∧ Below w.heap.size w w') (fun i _ => n - (intOf i).toNat)
  case atStart => exact ⟨0, by omega, rfl, Below.refl _ _⟩
  case round =>
    obtain ⟨k, hk, rfl, hb⟩ := hrel
    by_cases hlt : k < n
    · obtain ⟨g, rfl, -, hc⟩ := ((unhide HV).below hb).at_ k hlt
      obtain ⟨g', rfl, -, hd⟩ := ((unhide HV').below hb).at_ k hlt
      have c0 := (hc 0 (by omega)).1
      have d0 := (hd 0 (by omega)).1
      have c1 := (hc 1 (by omega)).1
      have d1 := (hd 1 (by omega)).1
      have c2 := (hc 2 (by omega)).1
      have d2 := (hd 2 (by omega)).1
      have c3 := (hc 3 (by omega)).1
      have d3 := (hd 3 (by omega)).1
      clear hc hd
      generalize F k 0 = x0 at c0 d0
      generalize F k 1 = x1 at c1 d1
      generalize F k 2 = x2 at c2 d2
      generalize F k 3 = x3 at c3 d3
      rw [Nat.add_zero] at c0 d0
      have hi1 : (0 : Int) ≤ (k : Int) := by omega
      have hi2 : (k : Int) < (n : Int) := by omega
      go_wp2
      go_region_held3 (fun w' => (w'.cell? ⟨g, k * 4, none⟩ = some (.int .i64 x0) ∧ w'.cell? ⟨g, k * 4 + 1, none⟩ = some (.int .i64 x1) ∧ w'.cell? ⟨g, k * 4 + 2, none⟩ = some (.int .i64 x2) ∧ w'.cell? ⟨g, k * 4 + 3, none⟩ = some (.int .i64 x3)) ∧ w'.cell? ⟨g', k * 4, none⟩ = some (.int .i64 x0) ∧ w'.cell? ⟨g', k * 4 + 1, none⟩ = some (.int .i64 x1) ∧ w'.cell? ⟨g', k * 4 + 2, none⟩ = some (.int .i64 x2) ∧ w'.cell? ⟨g', k * 4 + 3, none⟩ = some (.int .i64 x3))
        (first | (exact ⟨⟨c0, c1, c2, c3⟩, d0, d1, d2, d3⟩) | (exact ⟨⟨cell_below hb1 c0, cell_below hb1 c1, cell_below hb1 c2, cell_below hb1 c3⟩, cell_below hb1 d0, cell_below hb1 d1, cell_below hb1 d2, cell_below hb1 d3⟩))
        ((go_at_call 85; refine (eqBranch_any _ _ _ _ _).mono ?_; rintro e w1 ⟨rfl, hb1⟩))
      go_wp2
      go_roundw
      case rel => exact ⟨k + 1, by omega, by go_num, hb.drew.trans (hb1.mono (by simpa using hb.size))⟩
      case measure => simp [intOf]; omega
    · go_wp2
      go_ret
      exact ⟨rfl, hb⟩

set_option maxHeartbeats 1000000 in
theorem markBranchS_any (lo : Nat) (v : Value) (n : Nat) (F : Nat → Nat → Int) (w : World) (hv : RowsAt lo w v 4 n F) (hl : n ≤ 1048576) :
    Calls Try.prog 32 #[v, .int .i64 1] w fun e w' => (e = .returned (.int .i64 (1 + n * 4)) ∧ RowsAt lo w' v 4 n (fun i j => 1 + i * 4 + j)) ∧ Below lo w w' := by
  have HV := hide hv
  obtain ⟨a, cap, rfl⟩ := hv.shape
  clear hv
  go_enter Try.func32, Try.ntmps32
  go_wp2
  go_loopw [1, 5] (fun q i wr => ∃ (j : Nat) (G : Nat → Nat → Int), j ≤ n ∧ q = .int .i64 (1 + j * 4) ∧ i = .int .i64 j ∧ RowsAt lo wr (.slice a n cap) 4 n G ∧ (∀ i' j', i' < j → j' < 4 → G i' j' = 1 + i' * 4 + j') ∧ Below lo w wr) (fun _ i _ => n - (intOf i).toNat)
  case atStart => exact ⟨0, F, by omega, by simp, rfl, unhide HV, fun _ _ h => absurd h (Nat.not_lt_zero _), Below.refl _ _⟩
  case round =>
    obtain ⟨j, G, hj, rfl, rfl, hfr, hmk, hb⟩ := hrel
    have HF := hide hfr
    have HK := hide hmk
    have HB := hide hb
    clear hfr hmk hb
    by_cases hlt : j < n
    · obtain ⟨g, hga, hlo, hc⟩ := (unhide HF).at_ j hlt
      obtain ⟨c0, f0⟩ := hc 0 (by omega)
      obtain ⟨c1, f1⟩ := hc 1 (by omega)
      obtain ⟨c2, f2⟩ := hc 2 (by omega)
      obtain ⟨c3, f3⟩ := hc 3 (by omega)
      generalize G j 0 = x0 at c0
      generalize G j 1 = x1 at c1
      generalize G j 2 = x2 at c2
      generalize G j 3 = x3 at c3
      rw [Nat.add_zero] at c0 f0
      subst hga
      have hi1 : (0 : Int) ≤ (j : Int) := by omega
      have hi2 : (j : Int) < (n : Int) := by omega
      clear hc
      go_wp2
      go_roundw
      case rel =>
        refine ⟨j + 1, _, by omega, by go_num, by go_num, ((((unhide HF).set (i := j) rfl (show 0 < 4 by omega) (1 + j * 4)).set (i := j) rfl (show 1 < 4 by omega) (1 + j * 4 + 1)).set (i := j) rfl (show 2 < 4 by omega) (1 + j * 4 + 1 + 1)).set (i := j) rfl (show 3 < 4 by omega) (1 + j * 4 + 1 + 1 + 1), fun i' j' hi hj => ?_, ((((unhide HB).setCell hlo _).setCell hlo _).setCell hlo _).setCell hlo _⟩
        by_cases e : i' = j
        · subst e
          rcases (show j' = 0 ∨ j' = 1 ∨ j' = 2 ∨ j' = 3 by omega) with rfl | rfl | rfl | rfl
          all_goals (simp <;> omega)
        · simp only [e, false_and, if_false]
          exact unhide HK i' j' (by omega) hj
      case measure => simp [intOf]; omega
    · have e : j = n := by omega
      subst e
      go_wp2
      go_ret
      exact ⟨⟨rfl, (unhide HF).congr (fun i' j' hi hj => unhide HK i' j' hi hj)⟩, unhide HB⟩

set_option maxHeartbeats 1000000 in
theorem heldBranchS_any (lo : Nat) (v : Value) (n : Nat) (w : World) (hv : RowsAt lo w v 4 n (fun i j => 1 + i * 4 + j)) (hl : n ≤ 1048576) :
    Calls Try.prog 33 #[v, .int .i64 1] w fun e w' => e = .returned (.int .i64 (1 + n * 4)) ∧ Below w.heap.size w w' := by
  have HV := hide hv
  obtain ⟨a, cap, rfl⟩ := hv.shape
  clear hv
  go_enter Try.func33, Try.ntmps33
  go_wp2
  go_loopw [1, 5] (fun q i wr => ∃ (j : Nat), j ≤ n ∧ q = .int .i64 (1 + j * 4) ∧ i = .int .i64 j ∧ Below w.heap.size w wr) (fun _ i _ => n - (intOf i).toNat)
  case atStart => exact ⟨0, by omega, by simp, rfl, Below.refl _ _⟩
  case round =>
    obtain ⟨j, hj, rfl, rfl, hb⟩ := hrel
    have HB := hide hb
    by_cases hlt : j < n
    · obtain ⟨g, rfl, -, hc⟩ := ((unhide HV).below hb).at_ j hlt
      have c0 : wr.cell? ⟨g, j * 4, none⟩ = some (.int .i64 (1 + (j : Int) * 4)) := by have := (hc 0 (by omega)).1; simpa [Int.add_assoc] using this
      have c1 : wr.cell? ⟨g, j * 4 + 1, none⟩ = some (.int .i64 (1 + (j : Int) * 4 + 1)) := by have := (hc 1 (by omega)).1; simpa [Int.add_assoc] using this
      have c2 : wr.cell? ⟨g, j * 4 + 2, none⟩ = some (.int .i64 (1 + (j : Int) * 4 + 1 + 1)) := by have := (hc 2 (by omega)).1; simpa [Int.add_assoc] using this
      have c3 : wr.cell? ⟨g, j * 4 + 3, none⟩ = some (.int .i64 (1 + (j : Int) * 4 + 1 + 1 + 1)) := by have := (hc 3 (by omega)).1; simpa [Int.add_assoc] using this
      have hi1 : (0 : Int) ≤ (j : Int) := by omega
      have hi2 : (j : Int) < (n : Int) := by omega
      clear hc hb
      go_wp2
      go_roundw
      case rel => exact ⟨j + 1, by omega, by go_num, by go_num, unhide HB⟩
      case measure => simp [intOf]; omega
    · have e : j = n := by omega
      subst e
      go_wp2
      go_ret
      exact ⟨rfl, unhide HB⟩

set_option maxHeartbeats 400000 in
theorem eqLineCount_any (x0 x1 x2 : Int) (w : World) :
    Calls Try.prog 69 #[.agg #[.int .i64 x0, .int .i64 x1, .int .i64 x2], .agg #[.int .i64 x0, .int .i64 x1, .int .i64 x2]] w fun e w' => e = .returned (.bool true) ∧ Below w.heap.size w w' := by
  go_enter Try.func69, Try.ntmps69
  go_wp2
  go_ret
  exact ⟨rfl, ((Below.refl _ _).alloc (Nat.le_refl _) _).alloc (by simp) _⟩

set_option maxHeartbeats 1000000 in
theorem eqLineCountS_any (lo lo' : Nat) (v v' : Value) (n : Nat) (F : Nat → Nat → Int) (w : World) (hv : RowsAt lo w v 3 n F) (hv' : RowsAt lo' w v' 3 n F) (hl : n ≤ 1048576) :
    Calls Try.prog 19 #[v, v'] w fun e w' => e = .returned (.bool true) ∧ Below w.heap.size w w' := by
  have HV := hide hv
  have HV' := hide hv'
  obtain ⟨a, cap, rfl⟩ := hv.shape
  obtain ⟨a', cap', rfl⟩ := hv'.shape
  clear hv hv'
  go_enter Try.func19, Try.ntmps19
  go_wp2
  go_loopw [5] (fun i w' => ∃ (k : Nat), k ≤ n ∧ i = .int .i64 k ∧ Below w.heap.size w w') (fun i _ => n - (intOf i).toNat)
  case atStart => exact ⟨0, by omega, rfl, Below.refl _ _⟩
  case round =>
    obtain ⟨k, hk, rfl, hb⟩ := hrel
    by_cases hlt : k < n
    · obtain ⟨g, rfl, -, hc⟩ := ((unhide HV).below hb).at_ k hlt
      obtain ⟨g', rfl, -, hd⟩ := ((unhide HV').below hb).at_ k hlt
      have c0 := (hc 0 (by omega)).1
      have d0 := (hd 0 (by omega)).1
      have c1 := (hc 1 (by omega)).1
      have d1 := (hd 1 (by omega)).1
      have c2 := (hc 2 (by omega)).1
      have d2 := (hd 2 (by omega)).1
      clear hc hd
      generalize F k 0 = x0 at c0 d0
      generalize F k 1 = x1 at c1 d1
      generalize F k 2 = x2 at c2 d2
      rw [Nat.add_zero] at c0 d0
      have hi1 : (0 : Int) ≤ (k : Int) := by omega
      have hi2 : (k : Int) < (n : Int) := by omega
      go_wp2
      go_region_held3 (fun w' => (w'.cell? ⟨g, k * 3, none⟩ = some (.int .i64 x0) ∧ w'.cell? ⟨g, k * 3 + 1, none⟩ = some (.int .i64 x1) ∧ w'.cell? ⟨g, k * 3 + 2, none⟩ = some (.int .i64 x2)) ∧ w'.cell? ⟨g', k * 3, none⟩ = some (.int .i64 x0) ∧ w'.cell? ⟨g', k * 3 + 1, none⟩ = some (.int .i64 x1) ∧ w'.cell? ⟨g', k * 3 + 2, none⟩ = some (.int .i64 x2))
        (first | (exact ⟨⟨c0, c1, c2⟩, d0, d1, d2⟩) | (exact ⟨⟨cell_below hb1 c0, cell_below hb1 c1, cell_below hb1 c2⟩, cell_below hb1 d0, cell_below hb1 d1, cell_below hb1 d2⟩))
        ((go_at_call 69; refine (eqLineCount_any _ _ _ _).mono ?_; rintro e w1 ⟨rfl, hb1⟩))
      go_wp2
      go_roundw
      case rel => exact ⟨k + 1, by omega, by go_num, hb.drew.trans (hb1.mono (by simpa using hb.size))⟩
      case measure => simp [intOf]; omega
    · go_wp2
      go_ret
      exact ⟨rfl, hb⟩

set_option maxHeartbeats 1000000 in
theorem markLineCountS_any (lo : Nat) (v : Value) (n : Nat) (F : Nat → Nat → Int) (w : World) (hv : RowsAt lo w v 3 n F) (hl : n ≤ 1048576) :
    Calls Try.prog 22 #[v, .int .i64 1] w fun e w' => (e = .returned (.int .i64 (1 + n * 3)) ∧ RowsAt lo w' v 3 n (fun i j => 1 + i * 3 + j)) ∧ Below lo w w' := by
  have HV := hide hv
  obtain ⟨a, cap, rfl⟩ := hv.shape
  clear hv
  go_enter Try.func22, Try.ntmps22
  go_wp2
  go_loopw [1, 5] (fun q i wr => ∃ (j : Nat) (G : Nat → Nat → Int), j ≤ n ∧ q = .int .i64 (1 + j * 3) ∧ i = .int .i64 j ∧ RowsAt lo wr (.slice a n cap) 3 n G ∧ (∀ i' j', i' < j → j' < 3 → G i' j' = 1 + i' * 3 + j') ∧ Below lo w wr) (fun _ i _ => n - (intOf i).toNat)
  case atStart => exact ⟨0, F, by omega, by simp, rfl, unhide HV, fun _ _ h => absurd h (Nat.not_lt_zero _), Below.refl _ _⟩
  case round =>
    obtain ⟨j, G, hj, rfl, rfl, hfr, hmk, hb⟩ := hrel
    have HF := hide hfr
    have HK := hide hmk
    have HB := hide hb
    clear hfr hmk hb
    by_cases hlt : j < n
    · obtain ⟨g, hga, hlo, hc⟩ := (unhide HF).at_ j hlt
      obtain ⟨c0, f0⟩ := hc 0 (by omega)
      obtain ⟨c1, f1⟩ := hc 1 (by omega)
      obtain ⟨c2, f2⟩ := hc 2 (by omega)
      generalize G j 0 = x0 at c0
      generalize G j 1 = x1 at c1
      generalize G j 2 = x2 at c2
      rw [Nat.add_zero] at c0 f0
      subst hga
      have hi1 : (0 : Int) ≤ (j : Int) := by omega
      have hi2 : (j : Int) < (n : Int) := by omega
      clear hc
      go_wp2
      go_roundw
      case rel =>
        refine ⟨j + 1, _, by omega, by go_num, by go_num, (((unhide HF).set (i := j) rfl (show 0 < 3 by omega) (1 + j * 3)).set (i := j) rfl (show 1 < 3 by omega) (1 + j * 3 + 1)).set (i := j) rfl (show 2 < 3 by omega) (1 + j * 3 + 1 + 1), fun i' j' hi hj => ?_, (((unhide HB).setCell hlo _).setCell hlo _).setCell hlo _⟩
        by_cases e : i' = j
        · subst e
          rcases (show j' = 0 ∨ j' = 1 ∨ j' = 2 by omega) with rfl | rfl | rfl
          all_goals (simp <;> omega)
        · simp only [e, false_and, if_false]
          exact unhide HK i' j' (by omega) hj
      case measure => simp [intOf]; omega
    · have e : j = n := by omega
      subst e
      go_wp2
      go_ret
      exact ⟨⟨rfl, (unhide HF).congr (fun i' j' hi hj => unhide HK i' j' hi hj)⟩, unhide HB⟩

set_option maxHeartbeats 1000000 in
theorem heldLineCountS_any (lo : Nat) (v : Value) (n : Nat) (w : World) (hv : RowsAt lo w v 3 n (fun i j => 1 + i * 3 + j)) (hl : n ≤ 1048576) :
    Calls Try.prog 23 #[v, .int .i64 1] w fun e w' => e = .returned (.int .i64 (1 + n * 3)) ∧ Below w.heap.size w w' := by
  have HV := hide hv
  obtain ⟨a, cap, rfl⟩ := hv.shape
  clear hv
  go_enter Try.func23, Try.ntmps23
  go_wp2
  go_loopw [1, 5] (fun q i wr => ∃ (j : Nat), j ≤ n ∧ q = .int .i64 (1 + j * 3) ∧ i = .int .i64 j ∧ Below w.heap.size w wr) (fun _ i _ => n - (intOf i).toNat)
  case atStart => exact ⟨0, by omega, by simp, rfl, Below.refl _ _⟩
  case round =>
    obtain ⟨j, hj, rfl, rfl, hb⟩ := hrel
    have HB := hide hb
    by_cases hlt : j < n
    · obtain ⟨g, rfl, -, hc⟩ := ((unhide HV).below hb).at_ j hlt
      have c0 : wr.cell? ⟨g, j * 3, none⟩ = some (.int .i64 (1 + (j : Int) * 3)) := by have := (hc 0 (by omega)).1; simpa [Int.add_assoc] using this
      have c1 : wr.cell? ⟨g, j * 3 + 1, none⟩ = some (.int .i64 (1 + (j : Int) * 3 + 1)) := by have := (hc 1 (by omega)).1; simpa [Int.add_assoc] using this
      have c2 : wr.cell? ⟨g, j * 3 + 2, none⟩ = some (.int .i64 (1 + (j : Int) * 3 + 1 + 1)) := by have := (hc 2 (by omega)).1; simpa [Int.add_assoc] using this
      have hi1 : (0 : Int) ≤ (j : Int) := by omega
      have hi2 : (j : Int) < (n : Int) := by omega
      clear hc hb
      go_wp2
      go_roundw
      case rel => exact ⟨j + 1, by omega, by go_num, by go_num, unhide HB⟩
      case measure => simp [intOf]; omega
    · have e : j = n := by omega
      subst e
      go_wp2
      go_ret
      exact ⟨rfl, unhide HB⟩
end Go.Proofs.Ytoiacbdnkkolmab
