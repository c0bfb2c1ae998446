import Derived.Test.YtmnmeaeicjhkhaaGreatDoorGCaz
import Derived.Test.YtmnmeaeicjhkhaaGreatDoorGScz
import Derived.Deep.LoopGhost
import Derived.Deep.DeepCutAuto
namespace Go.Proofs.YtmnmeaeicjhkhaaGreatDoor
open Go.RowKit

theorem info_Ints : (Tryz.prog.info? 80).map (fun i => (i.zero, i.size, i.bytes)) = some (some (.slice none 0 0), 1, 24) := by kernel_rfl
theorem info_i64' : (Tryz.prog.info? 3).map (fun i => (i.zero, i.size, i.bytes)) = some (some (.int .i64 0), 1, 8) := by kernel_rfl

theorem atL_zero (f : Nat → M) (t : Nat) : atL f 0 t = if t = 0 then [0] else [] := by
  unfold atL
  show (St.init.tasks t).map _ = _
  simp only [St.init]
  split <;> rfl

theorem SpT.begin (w : World) (mc : Array Value) (f : Nat → M) (hs : mc.size = 101) (hm : ∀ i, i < 101 → mc[i]? = some (.slice none 0 0)) :
    SpT w.heap.size (((w.alloc (.cells #[.int .i64 0, .int .i64 (-1), .int .i64 1, .int .i64 0] 203)).alloc (.cells (mc.setIfInBounds 0 (.slice (some ⟨w.heap.size + 1 + 1, 0, none⟩) 1 1)) 80)).alloc (.cells #[.int .i64 0] 3)) (w.heap.size + 1)
      (fun t => if t = 0 then .slice (some ⟨w.heap.size + 1 + 1, 0, none⟩) 1 1 else .slice none 0 0) (atL f 0) (.slice (some ⟨w.heap.size, 0, none⟩) 1 1) (treeAt f 0).bs := by
  obtain ⟨A, hA⟩ : ∃ A, A = w.alloc (.cells #[.int .i64 0, .int .i64 (-1), .int .i64 1, .int .i64 0] 203) := ⟨_, rfl⟩
  have sA : A.heap.size = w.heap.size + 1 := by rw [hA]; simp
  obtain ⟨C, hC⟩ : ∃ C, C = A.alloc (.cells (mc.setIfInBounds 0 (.slice (some ⟨w.heap.size + 1 + 1, 0, none⟩) 1 1)) 80) := ⟨_, rfl⟩
  have sC : C.heap.size = w.heap.size + 1 + 1 := by rw [hC]; simp [sA]
  rw [← hA, ← hC]
  have k0 : (C.alloc (.cells #[.int .i64 0] 3)).heap[w.heap.size]? = some (.cells #[.int .i64 0, .int .i64 (-1), .int .i64 1, .int .i64 0] 203 (0, 0)) := by
    rw [Below.heap_alloc _ _ _ (by omega), hC, Below.heap_alloc _ _ _ (by omega), hA]
    exact heap_alloc_new w _
  have k1 : (C.alloc (.cells #[.int .i64 0] 3)).heap[w.heap.size + 1]? = some (.cells (mc.setIfInBounds 0 (.slice (some ⟨w.heap.size + 1 + 1, 0, none⟩) 1 1)) 80 (0, 0)) := by
    rw [Below.heap_alloc _ _ _ (by omega), hC, ← sA]
    exact heap_alloc_new A _
  have k2 : (C.alloc (.cells #[.int .i64 0] 3)).heap[w.heap.size + 1 + 1]? = some (.cells #[.int .i64 0] 3 (0, 0)) := by
    rw [← sC]
    exact heap_alloc_new C _
  refine ⟨by omega, ⟨_, k1, by simp [hs], fun i hi => ?_⟩, fun t ht => ?_, fun t t' _ _ hne => ?_, ?_⟩
  · dsimp only
    by_cases e : i = 0
    · subst e; simp [hs]
    · rw [if_neg e, Array.getElem?_setIfInBounds_ne (by omega)]; exact hm i hi
  · rw [atL_zero]
    by_cases e : t = 0
    · rw [if_pos e, if_pos e]
      exact ⟨rfl, .inr ⟨w.heap.size + 1 + 1, 1, #[.int .i64 0], rfl, by omega, k2, Nat.le_refl _, by unfold maxLen; omega, rfl, rfl⟩⟩
    · rw [if_neg e, if_neg e]
      exact World.ownsRow_nil _ _ _ _
  · by_cases e : t = 0
    · by_cases e' : t' = 0
      · omega
      · right; rw [if_pos e, if_neg e']; intro h; cases h
    · left; rw [if_neg e]; rfl
  · exact ⟨rfl, .inr ⟨w.heap.size, 1, #[.int .i64 0, .int .i64 (-1), .int .i64 1, .int .i64 0], rfl, Nat.le_refl _, k0, Nat.le_refl _, by unfold maxLen; omega, rfl, rfl⟩⟩

theorem after_cur101 {nf : Nat} {fns : Nat → ByteArray} {n : Nat} {f : Nat → M} (h : Sound nf fns n f) : ∀ k, k ≤ n → (St.after f k).cur < 101
  | 0, _ => (by decide : (0 : Nat) < 101)
  | k + 1, hk => by
    have ih := after_cur101 h k (by omega)
    have hm := (h.2.1 k (by omega)).1
    unfold HeadOk at hm
    show ((St.after f k).step _ _ _ _ _).cur < 101
    unfold St.step
    split
    · show (f k).task.toNat < 101; omega
    · repeat' split
      all_goals exact ih

theorem cur_turn {f : Nat → M} {k : Nat} (h : (f k).kind = 7) : (St.after f (k + 1)).cur = (f k).task.toNat := by
  show ((St.after f k).step _ _ _ _ _).cur = _
  unfold St.step
  rw [if_pos h]

/-- The branches as they are read. -/
theorem br_rows {B : Nat} {w : World} {v : Value} {bs : List Br} (h : w.ownsRow B 203 4 v bs.length (brCells bs)) : RowsAt B w v 4 bs.length (fun i j => if hi : i < bs.length then brCell bs[i] j else 0) := by
  refine RowsAt.of_owns h (fun i j hi hj => ?_)
  obtain ⟨e0, e1, e2, e3⟩ := brCells_get bs i hi
  rw [dif_pos hi]
  rcases (show j = 0 ∨ j = 1 ∨ j = 2 ∨ j = 3 by omega) with rfl | rfl | rfl | rfl
  · exact e0
  · exact e1
  · exact e2
  · exact e3

theorem atL_ne {nf : Nat} {fns : Nat → ByteArray} {n : Nat} {f : Nat → M} (h : Sound nf fns n f) (k : Nat) (hk : k < n) (h1 : (f k).kind = 1 ∨ (f k).kind = 3) : atL f k (St.after f k).cur ≠ [] := by
  have hc := h.2.2 k hk
  unfold codeAt code at hc
  rw [if_neg (by omega)] at hc
  have ht : (f k).task = (St.after f k).cur := by
    by_cases e : (f k).task = (St.after f k).cur
    · exact e
    · rw [if_pos e] at hc; omega
  rw [if_neg (by omega), if_neg (by omega)] at hc
  intro e
  have e' : (St.after f k).tasks (St.after f k).cur = [] := by unfold atL at e; simpa using e
  by_cases hf : (f k).fn = topFn ((St.after f k).tasks (St.after f k).cur)
  · rw [if_neg (by simpa using hf), e'] at hc
    rcases h1 with h1 | h1
    · rw [if_pos h1] at hc; simp at hc
    · rw [if_neg (by omega), if_pos h1] at hc; simp [topFrom] at hc
  · rw [if_pos hf] at hc; omega
end Go.Proofs.YtmnmeaeicjhkhaaGreatDoor
