import Derived.Test.YtmnmeaeicjhkhaaGreatDoorGEaz
import Derived.Deep.LoopGhost
import Derived.Deep.DeepCutAuto
namespace Go.Proofs.YtmnmeaeicjhkhaaGreatDoor
open Go.RowKit

theorem after_len (f : Nat → M) : ∀ k t, ((St.after f k).tasks t).length ≤ k + 1
  | 0, t => by
    simp only [St.after, St.init]
    split <;> simp
  | k + 1, t => by
    have ih := after_len f k
    have hput : ∀ l : List Fr, l.length ≤ k + 2 → (((St.after f k).put l).tasks t).length ≤ k + 2 := by
      intro l hl
      simp only [St.put]
      split
      · exact hl
      · have := ih t; omega
    show (((St.after f k).step _ _ _ _ _).tasks t).length ≤ k + 2
    have hc := ih (St.after f k).cur
    unfold St.step
    split
    · have := ih t
      show ((St.after f k).tasks t).length ≤ _
      omega
    · split
      · exact hput _ (by simp; omega)
      · split
        · refine hput _ ?_
          cases h : (St.after f k).tasks (St.after f k).cur with
          | nil => simp [setLine]
          | cons a r => rw [h] at hc; simp [setLine] at hc ⊢; omega
        · split
          · exact hput _ (by simp; omega)
          · have := ih t; omega

theorem brMake_small {T : Tree} {k : Nat} (h : TreeOk T k) (par fn : Int) : ∀ b, b ∈ brMake T.bs par fn → 0 ≤ b.calls ∧ b.calls ≤ k + 1 := by
  intro b hb
  unfold brMake at hb
  split at hb
  · have := h.small b hb; omega
  · rcases List.mem_append.1 hb with hb | hb
    · have := h.small b hb; omega
    · rw [List.mem_singleton.1 hb]
      exact ⟨Int.le_refl 0, by show (0 : Int) ≤ _; omega⟩

end Go.Proofs.YtmnmeaeicjhkhaaGreatDoor
