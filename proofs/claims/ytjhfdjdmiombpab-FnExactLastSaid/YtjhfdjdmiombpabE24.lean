import Derived.Test.YtjhfdjdmiombpabE13
import Derived.Test.YtjhfdjdmiombpabA4
namespace Go.Proofs.Ytjhfdjdmiombpab
open Go.RowKit

theorem info_stop : (Try.prog.info? 50).map (fun i => (i.zero, i.size, i.bytes)) = some (some (.agg #[.int .i64 0, .int .i64 0, .int .i64 0, .string ByteArray.empty]), 4, 40) := by kernel_rfl

set_option maxHeartbeats 1000000 in
theorem szStopS_any (v : Value) (n : Nat) (f : Nat → Sp) (left : Int) (w : World) (hv : StopsIn w v n f) (hl : 0 ≤ left) (hl2 : left ≤ 1048576) :
    Calls Try.prog 45 #[v, .int .i64 left] w fun e w' => (∃ r : Int, e = .returned (.int .i64 r) ∧ r ≤ left ∧ (0 ≤ r → (n : Int) ≤ 1048576)) ∧ Below w.heap.size w w' := by
  have HV := hide hv
  obtain ⟨a, cap, rfl, hn, _⟩ := hv
  unfold maxLen at hn
  go_enter Try.func45, Try.ntmps45
  by_cases h0 : left - n < 0
  · go_wp2
    go_ret
    exact ⟨⟨_, rfl, by omega, by omega⟩, Below.refl _ _⟩
  · go_wp2
    go_loopw [1, 5] (fun l i w' => ∃ (k : Nat) (r : Int), k ≤ n ∧ i = .int .i64 k ∧ l = .int .i64 r ∧ 0 ≤ r ∧ r ≤ left - n ∧ Below w.heap.size w w') (fun _ i _ => n - (intOf i).toNat)
    case atStart => exact ⟨0, _, by omega, rfl, rfl, by omega, by omega, Below.refl _ _⟩
    case round =>
      obtain ⟨k, r, hk, rfl, rfl, hr1, hr2, hb⟩ := hrel
      by_cases hlt : k < n
      · obtain ⟨a', cap', e, _, hv⟩ := (unhide HV).below hb
        cases e
        obtain ⟨b, o, rfl, hc0, hc1, hc2, hc3, hs⟩ := hv k hlt
        clear hv
        have hi1 : (0 : Int) ≤ (k : Int) := by omega
        have hi2 : (k : Int) < (n : Int) := by omega
        go_wp2_with (go_at_call 34; refine (szStop_any _ _ _ _ _ _ hs hr1 (by omega)).mono ?_; rintro e w1 ⟨⟨r1, rfl, hr3⟩, hb1⟩)
        · go_ret
          exact ⟨⟨_, rfl, by omega, by omega⟩, hb.trans (hb1.mono hb.size)⟩
        · go_roundw
          case rel => exact ⟨k + 1, _, by omega, by go_num, rfl, by omega, by omega, hb.trans (hb1.mono hb.size)⟩
          case measure => simp [intOf]; omega
      · go_wp2
        go_ret
        exact ⟨⟨_, rfl, by omega, by omega⟩, hb⟩

set_option maxHeartbeats 1000000 in
theorem toStopS_any (v : Value) (n : Nat) (f : Nat → Sp) (w : World) (hv : StopsIn w v n f) (hn : n ≤ 1048576) :
    Calls Try.prog 47 #[v] w fun e w' => (∃ v', e = .returned v' ∧ StopsIn w' v' n f) ∧ Below w.heap.size w w' := by
  have HV := hide hv
  obtain ⟨a, cap, rfl, hn', _⟩ := hv
  clear hn'
  have hmk := run_make_many (P := Try.prog) 63 50 _ _ _ Try.underlying63 info_stop n (by omega) (by omega)
  obtain ⟨F0, hF0⟩ := row_made w #[.int .i64 0, .int .i64 0, .int .i64 0, .string ByteArray.empty] (n * 4) 50
  have HF0 := hide hF0; clear hF0
  go_enter Try.func47, Try.ntmps47
  go_wp2
  go_loopw [4] (fun i w' => ∃ (k : Nat) (F : Nat → Value), k ≤ n ∧ i = .int .i64 k ∧ w'.rowIs w.heap.size 50 (n * 4) F ∧ (∀ i, i < k → F (i * 4) = .int .i64 (f i).kind ∧ F (i * 4 + 1) = .int .i64 (f i).fn ∧ F (i * 4 + 2) = .int .i64 (f i).line ∧ F (i * 4 + 3) = .string (f i).name) ∧ Below w.heap.size w w') (fun i _ => n - (intOf i).toNat)
  case atStart => exact ⟨0, F0, by omega, rfl, by simpa using unhide HF0, by omega, (Below.refl _ _).alloc (Nat.le_refl _) _⟩
  case round =>
    obtain ⟨k, F, hk, rfl, hrow, hF, hb⟩ := hrel
    have HF := hide hF; clear hF
    have HR := hide hrow; clear hrow
    by_cases hlt : k < n
    · obtain ⟨a', cap', e, _, hv⟩ := (unhide HV).below hb
      cases e
      obtain ⟨b, o, rfl, hc0, hc1, hc2, hc3, hs⟩ := hv k hlt
      clear hv
      have hi1 : (0 : Int) ≤ (k : Int) := by omega
      have hi2 : (k : Int) < (n : Int) := by omega
      have hlt2 := (unhide HR).lt
      go_wp2_with fail
      refine (toStop_any _ _ _ _ _).mono ?_
      rintro e w1 ⟨rfl, hb1⟩
      have HR1 := hide ((unhide HR).of_block (hb1.block _ hlt2))
      have hz0 := (unhide HR1).frozen (k * 4)
      have hy0 := (unhide HR1).cell (i := k * 4) (by omega)
      have hz1 := (unhide HR1).frozen (k * 4 + 1)
      have hy1 := (unhide HR1).cell (i := k * 4 + 1) (by omega)
      have hz2 := (unhide HR1).frozen (k * 4 + 2)
      have hy2 := (unhide HR1).cell (i := k * 4 + 2) (by omega)
      have hz3 := (unhide HR1).frozen (k * 4 + 3)
      have hy3 := (unhide HR1).cell (i := k * 4 + 3) (by omega)
      go_wp2
      go_roundw
      case rel =>
        refine ⟨k + 1, _, by omega, by go_num, ((((unhide HR1).set (k * 4) _).set (k * 4 + 1) _).set (k * 4 + 2) _).set (k * 4 + 3) _, fun i hi => ?_, ((((hb.trans (hb1.mono hb.size)).setCell (Nat.le_refl _) _).setCell (Nat.le_refl _) _).setCell (Nat.le_refl _) _).setCell (Nat.le_refl _) _⟩
        by_cases hik : i = k
        · simp [hik]
        · have := unhide HF i (by omega)
          repeat rw [if_neg (by omega)]
          exact this
      case measure => simp [intOf]; omega
    · go_wp2
      go_ret
      refine ⟨⟨_, rfl, _, _, rfl, by unfold maxLen; omega, fun i hi => ?_⟩, hb⟩
      have hF := unhide HF i (by omega)
      obtain ⟨_, _, _, _, hv⟩ := unhide HV
      obtain ⟨_, _, _, _, _, _, _, hs⟩ := hv i hi
      refine ⟨_, _, rfl, ?_, ?_, ?_, ?_, hs⟩
      · rw [Nat.zero_add, (unhide HR).cell (by omega), hF.1]
      · rw [Nat.zero_add, (unhide HR).cell (by omega), hF.2.1]
      · rw [Nat.zero_add, (unhide HR).cell (by omega), hF.2.2.1]
      · rw [Nat.zero_add, (unhide HR).cell (by omega), hF.2.2.2]

set_option maxHeartbeats 1000000 in
theorem eqStop_any (s : Sp) (w : World) :
    Calls Try.prog 96 #[.agg #[.int .i64 s.kind, .int .i64 s.fn, .int .i64 s.line, .string s.name], .agg #[.int .i64 s.kind, .int .i64 s.fn, .int .i64 s.line, .string s.name]] w fun e w' => e = .returned (.bool true) ∧ Below w.heap.size w w' := by
  go_enter Try.func96, Try.ntmps96
  go_wp2
  go_ret
  exact ⟨rfl, ((Below.refl _ _).alloc (Nat.le_refl _) _).alloc (by simp) _⟩

set_option maxHeartbeats 1000000 in
theorem eqStopS_any (v v' : Value) (n : Nat) (f : Nat → Sp) (w : World) (hv : StopsIn w v n f) (hv' : StopsIn w v' n f) :
    Calls Try.prog 49 #[v, v'] w fun e w' => e = .returned (.bool true) ∧ Below w.heap.size w w' := by
  have HV := hide hv
  have HV' := hide hv'
  obtain ⟨a, cap, rfl, hn, _⟩ := hv
  obtain ⟨a', cap', rfl, _, _⟩ := hv'
  unfold maxLen at hn
  go_enter Try.func49, Try.ntmps49
  go_wp2
  go_loopw [5] (fun i w' => ∃ (k : Nat), k ≤ n ∧ i = .int .i64 k ∧ Below w.heap.size w w') (fun i _ => n - (intOf i).toNat)
  case atStart => exact ⟨0, by omega, rfl, Below.refl _ _⟩
  case round =>
    obtain ⟨k, hk, rfl, hb⟩ := hrel
    by_cases hlt : k < n
    · obtain ⟨_, _, e, _, h1⟩ := (unhide HV).below hb
      cases e
      obtain ⟨b, o, rfl, hc0, hc1, hc2, hc3, -⟩ := h1 k hlt
      obtain ⟨_, _, e, _, h2⟩ := (unhide HV').below hb
      cases e
      obtain ⟨b', o', rfl, hd0, hd1, hd2, hd3, -⟩ := h2 k hlt
      clear h1 h2
      have hi1 : (0 : Int) ≤ (k : Int) := by omega
      have hi2 : (k : Int) < (n : Int) := by omega
      go_wp2
      go_region_held3 (fun w' => w'.cell? ⟨b, o + k * 4, none⟩ = some (.int .i64 (f k).kind) ∧ w'.cell? ⟨b, o + k * 4 + 1, none⟩ = some (.int .i64 (f k).fn) ∧ w'.cell? ⟨b, o + k * 4 + 2, none⟩ = some (.int .i64 (f k).line) ∧ w'.cell? ⟨b, o + k * 4 + 3, none⟩ = some (.string (f k).name) ∧ w'.cell? ⟨b', o' + k * 4, none⟩ = some (.int .i64 (f k).kind) ∧ w'.cell? ⟨b', o' + k * 4 + 1, none⟩ = some (.int .i64 (f k).fn) ∧ w'.cell? ⟨b', o' + k * 4 + 2, none⟩ = some (.int .i64 (f k).line) ∧ w'.cell? ⟨b', o' + k * 4 + 3, none⟩ = some (.string (f k).name)) (first | go_keep | (refine ⟨cell_below hb1 ?_, cell_below hb1 ?_, cell_below hb1 ?_, cell_below hb1 ?_, cell_below hb1 ?_, cell_below hb1 ?_, cell_below hb1 ?_, cell_below hb1 ?_⟩ <;> simp [*]))
        ((go_at_call 96; refine (eqStop_any (f k) _).mono ?_; rintro e w1 ⟨rfl, hb1⟩))
      go_wp2
      go_roundw
      case rel => exact ⟨k + 1, by omega, by go_num, hb.drew.trans (hb1.mono (by simpa using hb.size))⟩
      case measure => simp [intOf]; omega
    · go_wp2
      go_ret
      exact ⟨rfl, hb⟩
end Go.Proofs.Ytjhfdjdmiombpab
