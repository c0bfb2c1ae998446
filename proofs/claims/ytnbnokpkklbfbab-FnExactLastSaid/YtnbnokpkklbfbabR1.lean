import Derived.Test.YtnbnokpkklbfbabS11
namespace Go.Proofs.Ytnbnokpkklbfbab
open Go.RowKit

def Sound (nf : Nat) (fns : Nat → ByteArray) (n : Nat) (f : Nat → M) : Prop := SizesOk nf fns n ∧ (∀ j, j < n → MomentOk nf (f j)) ∧ ∀ j, j < n → codeAt f j = 0

theorem Ans.zero {nf : Nat} {fns : Nat → ByteArray} {n : Nat} {f : Nat → M} {c m : Int} (h : Ans nf fns n f c m) : (c = 0 ↔ Sound nf fns n f) ∧ (c = 0 → m = 0) := by
  rcases h with ⟨a, rfl, rfl⟩ | ⟨a, i, hi, b, d, rfl, rfl⟩ | ⟨a, b, i, hi, d, e, rfl, rfl⟩ | ⟨a, b, d, rfl, rfl⟩
  · exact ⟨⟨fun h => by omega, fun h => absurd h.1 a⟩, fun h => by omega⟩
  · exact ⟨⟨fun h => by omega, fun h => absurd (h.2.1 i hi) b⟩, fun h => by omega⟩
  · exact ⟨⟨fun h => absurd h d, fun h => h.2.2 i hi⟩, fun h => absurd h d⟩
  · exact ⟨⟨fun _ => ⟨a, b, d⟩, fun _ => rfl⟩, fun _ => rfl⟩

/-- A trace's box stands as it was laid. -/
def TrBox (w : World) (v1 v2 : Value) (w' : World) : Prop := Below (w.heap.size + 1) (w.alloc (.cells #[v1, v2] 31)) w'

theorem TrBox.below {w w' : World} {v1 v2 : Value} (h : TrBox w v1 v2 w') : Below w.heap.size w w' := ((Below.refl _ _).alloc (Nat.le_refl _) _).trans (Below.mono h (by omega))
theorem TrBox.size {w w' : World} {v1 v2 : Value} (h : TrBox w v1 v2 w') : w.heap.size + 1 ≤ w'.heap.size := by
  have := Below.size h; simpa using this
theorem TrBox.go {w w' w'' : World} {v1 v2 : Value} (h : TrBox w v1 v2 w') (hb : Below w'.heap.size w' w'') : TrBox w v1 v2 w'' := Below.trans h (hb.mono h.size)
theorem TrBox.b0 {w w' : World} {v1 v2 : Value} (h : TrBox w v1 v2 w') : w'.cell? ⟨w.heap.size, 0, none⟩ = some v1 := by
  rw [Below.cell h (by simp), cell_alloc_at _ _ _ _ _ rfl]; rfl
theorem TrBox.b1 {w w' : World} {v1 v2 : Value} (h : TrBox w v1 v2 w') : w'.cell? ⟨w.heap.size, 1, none⟩ = some v2 := by
  rw [Below.cell h (by simp), cell_alloc_at _ _ _ _ _ rfl]; rfl
theorem TrBox.new (w : World) (v1 v2 : Value) : TrBox w v1 v2 (w.alloc (.cells #[v1, v2] 31)) := Below.refl _ _

theorem below_new (w : World) (o : Obj) : Below w.heap.size w (w.alloc o) := (Below.refl _ _).alloc (Nat.le_refl _) o

set_option maxHeartbeats 1000000 in
theorem l1ok_any (lo : Nat) (v1 v2 : Value) (nf : Nat) (fns : Nat → ByteArray) (n : Nat) (f : Nat → M) (w : World) (h1 : StrsAt lo w v1 nf fns) (h2 : MomsAt lo w v2 n f) :
    Calls Try.prog 50 #[.agg #[v1, v2]] w fun e w' => SaysB (Sound nf fns n f) e ∧ Below w.heap.size w w' := by
  have H1 := hide h1; clear h1
  have H2 := hide h2; clear h2
  have T0 := hide (TrBox.new w v1 v2)
  go_enter Try.func50, Try.ntmps50
  go_wp2_with fail
  refine (specTraceOk_any lo _ _ nf fns n f _ ((unhide H1).below (unhide T0).below) ((unhide H2).below (unhide T0).below)).mono ?_
  rintro e w1 ⟨⟨c, m, rfl, ha⟩, hb1⟩
  have T1 := hide (((unhide T0).go hb1).go (below_new w1 (.cells #[.int .i64 c, .int .i64 m] 78)))
  clear hb1
  by_cases hc : c = 0
  · have HS := hide (ha.zero.1.1 hc)
    have hcb : (c == 0) = true := by simpa using hc
    clear ha hc
    go_wp2
    go_ret
    exact ⟨SaysB.yes (unhide HS), (unhide T1).below⟩
  · have HS : Hid (¬ Sound nf fns n f) := hide (fun h => hc (ha.zero.1.2 h))
    have hcb : (c == 0) = false := by simpa using hc
    clear ha hc
    go_wp2
    go_ret
    exact ⟨SaysB.no (unhide HS), (unhide T1).below⟩

set_option maxHeartbeats 1000000 in
theorem l1place_any (lo : Nat) (v1 v2 : Value) (n : Nat) (f : Nat → M) (k : Int) (w : World) (h2 : MomsAt lo w v2 n f) :
    Calls Try.prog 112 #[.agg #[v1, v2], .int .i64 k] w fun e w' => e = .returned (.bool (decide (-1 ≤ k ∧ k ≤ (n : Int)))) ∧ Below w.heap.size w w' := by
  obtain ⟨a2, cap2, rfl, hn2, -⟩ := h2
  unfold maxLen at hn2
  go_enter Try.func112, Try.ntmps112
  go_wp2_with fail
  refine (l1in_any _ _ _ _).mono ?_
  rintro e w1 ⟨rfl, rfl⟩
  go_wp2
  go_ret
  exact ⟨by simp, below_new _ _⟩

/-- So many moments lie behind a place. -/
def upto (n : Nat) (k : Int) : Nat := min (k + 1).toNat n

end Go.Proofs.Ytnbnokpkklbfbab
