import Derived.Test.YtoiacbdnkkolmabR1
namespace Go.Proofs.Ytoiacbdnkkolmab
open Go.RowKit

/-- The first moment behind place k at which P holds, n when there is none. -/
def FwdIs (n : Nat) (P : Nat → Bool) (k z : Int) : Prop := (∃ j : Nat, z = j ∧ k < (j : Int) ∧ j < n ∧ P j = true ∧ ∀ i : Nat, k < (i : Int) → i < j → P i = false) ∨ (z = n ∧ ∀ i : Nat, k < (i : Int) → i < n → P i = false)

theorem FwdIs.uniq {n : Nat} {P : Nat → Bool} {k z z' : Int} (h : FwdIs n P k z) (h' : FwdIs n P k z') : z = z' := by
  rcases h with ⟨j, rfl, h1, h2, h3, h4⟩ | ⟨rfl, h4⟩ <;> rcases h' with ⟨j', rfl, h1', h2', h3', h4'⟩ | ⟨rfl, h4'⟩
  · rcases Nat.lt_trichotomy j j' with h | h | h
    · have := h4' j h1 h; rw [h3] at this; cases this
    · rw [h]
    · have := h4 j' h1' h; rw [h3'] at this; cases this
  · have := h4' j h1 h2; rw [h3] at this; cases this
  · have := h4 j' h1' h2'; rw [h3'] at this; cases this
  · rfl

/-- The last moment (of n) ahead of place k, -1 when there is none. -/
def BackIs (P : Nat → Bool) (k z : Int) : Prop := (∃ j : Nat, z = j ∧ (j : Int) < k ∧ P j = true ∧ ∀ i : Nat, j < i → (i : Int) < k → P i = false) ∨ (z = -1 ∧ ∀ i : Nat, (i : Int) < k → P i = false)

theorem BackIs.uniq {P : Nat → Bool} {k z z' : Int} (h : BackIs P k z) (h' : BackIs P k z') : z = z' := by
  rcases h with ⟨j, rfl, h1, h3, h4⟩ | ⟨rfl, h4⟩ <;> rcases h' with ⟨j', rfl, h1', h3', h4'⟩ | ⟨rfl, h4'⟩
  · rcases Nat.lt_trichotomy j j' with h | h | h
    · have := h4 j' h h1'; rw [h3'] at this; cases this
    · rw [h]
    · have := h4' j h h1; rw [h3] at this; cases this
  · have := h4' j h1; rw [h3] at this; cases this
  · have := h4 j' h1'; rw [h3'] at this; cases this
  · rfl

/-- How many calls of task t are open behind moment i. -/
def deepAt (f : Nat → M) (t i : Nat) : Nat := ((St.after f (i + 1)).tasks t).length

/-- At which moments, of those of task t, a step of a kind may end (0 Into, 1 Over, 2 Out, 3 Before), where d calls are open at its begin. -/
def mayEnd (f : Nat → M) (t d kind i : Nat) : Bool :=
  match kind with
  | 1 => ((f i).kind == 1) && decide (deepAt f t i ≤ d)
  | 2 => ((f i).kind == 3) && decide (deepAt f t i < d)
  | _ => ((f i).kind == 1)

def stepHit (f : Nat → M) (t d kind i : Nat) : Bool := ((f i).task == (t : Int)) && mayEnd f t d kind i

/-- What a step answers: from the task that runs at place k, with the calls of it that are open there. -/
def StepIs (n : Nat) (f : Nat → M) (k : Int) (kind : Nat) (z : Int) : Prop :=
  (kind ≠ 3 ∧ FwdIs n (stepHit f (St.after f (upto n k)).cur ((St.after f (upto n k)).tasks (St.after f (upto n k)).cur).length kind) k z) ∨
  (kind = 3 ∧ BackIs (stepHit f (St.after f (upto n k)).cur ((St.after f (upto n k)).tasks (St.after f (upto n k)).cur).length kind) k z)

def StepSay (nf : Nat) (fns : Nat → ByteArray) (n : Nat) (f : Nat → M) (k : Int) (kind : Nat) (e : Ending) : Prop :=
  ((Sound nf fns n f ∧ (-1 ≤ k ∧ k ≤ n)) ∧ ∃ z, e = .returned (.int .i64 z) ∧ StepIs n f k kind z) ∨ (¬ (Sound nf fns n f ∧ (-1 ≤ k ∧ k ≤ n)) ∧ e = .returned (.int .i64 (-2)))

theorem StepIs.uniq {n : Nat} {f : Nat → M} {k : Int} {kind : Nat} {z z' : Int} (h : StepIs n f k kind z) (h' : StepIs n f k kind z') : z = z' := by
  rcases h with ⟨a, h⟩ | ⟨a, h⟩ <;> rcases h' with ⟨a', h'⟩ | ⟨a', h'⟩
  · exact h.uniq h'
  · exact absurd a' a
  · exact absurd a a'
  · exact h.uniq h'

theorem StepSay.uniq {nf : Nat} {fns : Nat → ByteArray} {n : Nat} {f : Nat → M} {k : Int} {kind : Nat} {e e' : Ending} (h : StepSay nf fns n f k kind e) (h' : StepSay nf fns n f k kind e') : ∃ z, e = .returned (.int .i64 z) ∧ e' = .returned (.int .i64 z) := by
  rcases h with ⟨a, z, rfl, b⟩ | ⟨a, rfl⟩ <;> rcases h' with ⟨a', z', rfl, b'⟩ | ⟨a', rfl⟩
  · exact ⟨z, rfl, by rw [b.uniq b']⟩
  · exact absurd a a'
  · exact absurd a' a
  · exact ⟨_, rfl, rfl⟩

/-- Behind a moment that is no turn the task runs whose moment it is. -/
theorem cur_behind {nf : Nat} {fns : Nat → ByteArray} {n : Nat} {f : Nat → M} (hs : Sound nf fns n f) {q : Nat} (hq : q < n) (hk : (f q).kind ≠ 7) : ((St.after f (q + 1)).cur : Int) = (f q).task := by
  have h := hs.2.2 q hq
  unfold codeAt code at h
  rw [if_neg hk] at h
  have ht : (f q).task = ((St.after f q).cur : Int) := by
    refine Classical.byContradiction fun e => ?_
    rw [if_pos e] at h
    omega
  rw [ht]
  show (((St.after f q).step _ _ _ _ _).cur : Int) = _
  unfold St.step
  rw [if_neg hk]
  repeat (first | rfl | split)
end Go.Proofs.Ytoiacbdnkkolmab
