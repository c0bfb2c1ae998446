import Derived.Test.YtjhfdjdmiombpabE1
import Derived.Test.YtjhfdjdmiombpabE2
import Derived.Deep.LoopGhost
namespace Go.Proofs.Ytjhfdjdmiombpab
open Go.RowKit Go.Lib

/-- A text that is there, or none, as the two values that are handed back. -/
def textOr (o : Option ByteArray) : ByteArray := o.getD ByteArray.empty

theorem lastText_at {vars : Nat → V} {nm : ByteArray} {k : Nat} (h : (vars k).name = nm) : lastText vars nm (k + 1) = some (vars k).text := by
  unfold lastText; rw [if_pos h]

theorem lastText_no {vars : Nat → V} {nm : ByteArray} {k : Nat} (h : (vars k).name ≠ nm) : lastText vars nm (k + 1) = lastText vars nm k := by
  show (if (vars k).name = nm then _ else _) = _; rw [if_neg h]

theorem bytes_ne {a b : ByteArray} (h : a ≠ b) : (a.toList == b.toList) = false := by
  rw [beq_eq_false_iff_ne]
  intro e
  rw [ByteArray.toList_eq, ByteArray.toList_eq] at e
  apply h
  cases a; cases b
  congr
  exact Array.toList_inj.1 e

set_option maxRecDepth 100000 in
set_option maxHeartbeats 1000000 in
theorem l3value_any (lo : Nat) (v : Value) (n : Nat) (vs : Nat → V) (nm : ByteArray) (w : World) (h : VarsAt lo w v n vs) :
    Calls Try.prog 148 #[v, .string nm] w fun e w' => e = .returned (.tuple #[.string (textOr (lastText vs nm n)), .bool (lastText vs nm n).isSome]) ∧ Below w.heap.size w w' := by
  have H := hide h
  obtain ⟨a, cap, rfl, hn, -⟩ := h
  unfold maxLen at hn
  go_enter Try.func148, Try.ntmps148
  go_wp2_with fail
  go_loopw [6, 7, 12] (fun x y i wr => ∃ (k : Nat), k ≤ n ∧ i = .int .i64 k ∧ x = .string (textOr (lastText vs nm k)) ∧ y = .bool (lastText vs nm k).isSome ∧ Below w.heap.size w wr) (fun _ _ i _ => n - (intOf i).toNat)
  case atStart => exact ⟨0, by omega, rfl, rfl, rfl, Below.refl _ _⟩
  case round =>
    obtain ⟨k, hk, rfl, rfl, rfl, hb⟩ := hrel
    have HB := hide hb
    by_cases hlt : k < n
    · obtain ⟨_, _, e, _, hv⟩ := (unhide H).below hb
      cases e
      obtain ⟨b, o, rfl, c0, c1, -⟩ := hv k hlt
      clear hv hb
      have hk0 : (0 : Int) ≤ (k : Int) := by omega
      have hk1 : (k : Int) < (n : Int) := by omega
      have hws : w.heap.size ≤ wr.heap.size := (unhide HB).size
      by_cases he : (vs k).name = nm
      · have HE := hide he
        rw [he] at c0
        clear he
        go_wp2_with fail
        go_roundw
        case rel => exact ⟨k + 1, by omega, by go_num, by rw [lastText_at (unhide HE)]; rfl, by rw [lastText_at (unhide HE)]; rfl, (unhide HB).alloc hws _⟩
        case measure => simp [intOf]; omega
      · have HE := hide he
        have hbe := bytes_ne he
        clear he
        go_wp2_with fail
        go_roundw
        case rel => exact ⟨k + 1, by omega, by go_num, by rw [lastText_no (unhide HE)], by rw [lastText_no (unhide HE)], (unhide HB).alloc hws _⟩
        case measure => simp [intOf]; omega
    · have e : k = n := by omega
      subst e
      have hnk : ¬ ((k : Int) < (k : Int)) := by omega
      clear hb
      go_wp2_with fail
      go_ret2
      exact ⟨rfl, unhide HB⟩
end Go.Proofs.Ytjhfdjdmiombpab
