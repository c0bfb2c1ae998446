/-
  Sorted integers, each told once: plain; and what the library's sort and compact leave in memory.
-/
import Derived.Test.YtoiacbdnkkolmabC3
import Derived.Lib.SlicesCompact
import Derived.Sort.Row
import Derived.Sort.Grow
namespace Go.Proofs.Ytoiacbdnkkolmab
open Go.RowKit Go.Lib

theorem compact_inv (d : Array Int) (hs : ∀ i j, i ≤ j → j < d.size → d[i]! ≤ d[j]!) : ∀ m, m ≤ d.size → (compactUpTo d m).Pairwise (· < ·) ∧ (∀ x, x ∈ compactUpTo d m → ∃ j, j < m ∧ x = d[j]!) ∧ ∀ j, j < m → d[j]! ∈ compactUpTo d m
  | 0, _ => ⟨List.Pairwise.nil, fun x hx => (by cases hx), fun j hj => absurd hj (Nat.not_lt_zero _)⟩
  | m + 1, hm => by
    obtain ⟨h1, h2, h3⟩ := compact_inv d hs m (by omega)
    rw [compactUpTo_succ]
    cases hk : keeps d m with
    | true =>
      have hlt : ∀ x, x ∈ compactUpTo d m → x < d[m]! := by
        intro x hx
        obtain ⟨j, hj, rfl⟩ := h2 x hx
        have a1 := hs j (m - 1) (by omega) (by omega)
        have a2 := hs (m - 1) m (by omega) (by omega)
        have a3 : d[m]! ≠ d[m - 1]! := by
          simp only [keeps] at hk
          rcases Nat.eq_zero_or_pos m with e | e
          · omega
          · simpa [Nat.ne_of_gt e] using hk
        omega
      rw [if_pos rfl]
      refine ⟨List.pairwise_append.2 ⟨h1, List.pairwise_singleton _ _, fun x hx y hy => by rw [List.mem_singleton.1 hy]; exact hlt x hx⟩, fun x hx => ?_, fun j hj => ?_⟩
      · rcases List.mem_append.1 hx with hx | hx
        · obtain ⟨j, hj, e⟩ := h2 x hx
          exact ⟨j, by omega, e⟩
        · exact ⟨m, by omega, List.mem_singleton.1 hx⟩
      · by_cases e : j = m
        · rw [e]; exact List.mem_append_right _ (List.mem_singleton.2 rfl)
        · exact List.mem_append_left _ (h3 j (by omega))
    | false =>
      rw [if_neg (by simp), List.append_nil]
      refine ⟨h1, fun x hx => ?_, fun j hj => ?_⟩
      · obtain ⟨j, hj, e⟩ := h2 x hx
        exact ⟨j, by omega, e⟩
      · by_cases e : j = m
        · have hm0 : m ≠ 0 := fun e0 => by rw [e0] at hk; simp [keeps] at hk
          have : d[m]! = d[m - 1]! := by simpa [keeps, hm0] using hk
          rw [e, this]
          exact h3 (m - 1) (by omega)
        · exact h3 j (by omega)

theorem sorted_at (xs : List Int) : ∀ i j, i ≤ j → j < (xs.mergeSort fun x y => decide (x ≤ y)).toArray.size → (xs.mergeSort fun x y => decide (x ≤ y)).toArray[i]! ≤ (xs.mergeSort fun x y => decide (x ≤ y)).toArray[j]! := by
  intro i j hij hj
  have hp : (xs.mergeSort fun x y => decide (x ≤ y)).Pairwise (fun a b => decide (a ≤ b) = true) := List.pairwise_mergeSort (fun a b c h1 h2 => by simp at *; omega) (fun a b => by simp; omega) xs
  have hj' : j < (xs.mergeSort fun x y => decide (x ≤ y)).length := by simpa using hj
  rw [getElem!_pos _ i (by omega), getElem!_pos _ j hj]
  by_cases e : i = j
  · subst e; exact Int.le_refl _
  · have := List.pairwise_iff_getElem.1 hp i j (by omega) hj' (by omega)
    simpa using this

/-- Each of the integers once. -/
theorem once_each (xs : List Int) : (compact (xs.mergeSort fun x y => decide (x ≤ y))).Pairwise (· < ·) ∧ ∀ x, x ∈ compact (xs.mergeSort fun x y => decide (x ≤ y)) ↔ x ∈ xs := by
  obtain ⟨h1, h2, h3⟩ := compact_inv _ (sorted_at xs) _ (Nat.le_refl _)
  have e : compact (xs.mergeSort fun x y => decide (x ≤ y)) = compactUpTo (xs.mergeSort fun x y => decide (x ≤ y)).toArray (xs.mergeSort fun x y => decide (x ≤ y)).toArray.size := by simp [compact]
  rw [e]
  refine ⟨h1, fun x => ⟨fun hx => ?_, fun hx => ?_⟩⟩
  · obtain ⟨j, hj, rfl⟩ := h2 x hx
    rw [getElem!_pos _ j hj, ← List.mem_mergeSort (le := fun x y => decide (x ≤ y))]
    simp
  · rw [← List.mem_mergeSort (le := fun x y => decide (x ≤ y))] at hx
    obtain ⟨j, hj, e⟩ := List.getElem_of_mem hx
    have := h3 j (by simpa using hj)
    rw [getElem!_pos _ j (by simpa using hj)] at this
    simpa [e] using this

/-- What slices.Sort and slices.Compact do to integers. -/
def SortsInts : Prop := ∀ (blk off cap : Nat) (zs : List Int) (w : World), Sort.Holds (Value.int .i64) w blk off zs.toArray → blk < w.heap.size → zs.length < 4611686018427387904 →
    Calls Try.prog 120 #[.slice (some ⟨blk, off, none⟩) zs.length cap] w fun e w' =>
      e = .returned (.tuple #[]) ∧ ∃ n os, w' = Sort.grow (Sort.putRow (Value.int .i64) (Sort.ahead w n) blk off (zs.mergeSort fun x y => decide (x ≤ y)).toArray) os

def CompactsInts : Prop := ∀ (blk off cap : Nat) (zs : List Int) (w : World), Sort.Holds (Value.int .i64) w blk off zs.toArray → zs.length ≤ 9223372036854775807 → zs.length ≤ cap →
    Calls Try.prog 121 #[.slice (some ⟨blk, off, none⟩) zs.length cap] w fun e w' =>
      e = .returned (.slice (some ⟨blk, off, none⟩) (compact zs).length cap) ∧ ∃ q, w' = Sort.putRow (Value.int .i64) (Sort.ahead w q) blk off (compact zs ++ List.replicate (zs.length - (compact zs).length) 0).toArray

theorem below_putRow {B : Nat} {w : World} {blk off n : Nat} {d : Array Int} (hB : B ≤ blk) : Below B w (Sort.putRow (Value.int .i64) (Sort.ahead w n) blk off d) := by
  refine ⟨rfl, rfl, rfl, by simp [Sort.ahead], fun b hb => ?_⟩
  show (w.heap.modify blk _)[b]? = _
  rw [Array.getElem?_modify, if_neg (by omega)]

theorem below_grow {B : Nat} {w : World} {os : Array Obj} (hB : B ≤ w.heap.size) : Below B w (Sort.grow w os) := by
  refine ⟨rfl, rfl, rfl, by simp [Sort.grow], fun b hb => ?_⟩
  show (w.heap ++ os)[b]? = _
  rw [Array.getElem?_append_left (by omega)]
end Go.Proofs.Ytoiacbdnkkolmab
