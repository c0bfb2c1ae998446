import Derived.Test.YtoiacbdnkkolmaaH1z
import Derived.Test.YtoiacbdnkkolmaaGDbz
import Derived.Test.YtoiacbdnkkolmaaGAz
namespace Go.Proofs.Ytoiacbdnkkolmaa
open Go.RowKit

def deepMs (n k : Nat) : List Mo := (List.range k).map (deepMo n)

theorem deepMs_len (n k : Nat) : (deepMs n k).length = k := by simp [deepMs]

theorem deepMs_succ (n k : Nat) : deepMs n (k + 1) = deepMs n k ++ [deepMo n k] := by simp [deepMs, List.range_succ]

theorem deepMs_pair {n i : Nat} (h : i < n) : deepMs n (2 * i + 2) = deepMs n (2 * i) ++ [cMo, lMo] := by
  rw [show 2 * i + 2 = (2 * i + 1) + 1 from rfl, deepMs_succ, deepMs_succ, List.append_assoc]
  have e1 : deepMo n (2 * i) = cMo := by unfold deepMo; rw [if_pos (by omega), if_pos (by omega)]
  have e2 : deepMo n (2 * i + 1) = lMo := by unfold deepMo; rw [if_pos (by omega), if_neg (by omega)]
  rw [e1, e2]; rfl

theorem deepMs_back {n j : Nat} (h : j < n) : deepMs n (2 * n + j + 1) = deepMs n (2 * n + j) ++ [bMo] := by
  rw [deepMs_succ]
  have e1 : deepMo n (2 * n + j) = bMo := by unfold deepMo; rw [if_neg (by omega), if_pos (by omega)]
  rw [e1]

theorem deepMs_get (n k i : Nat) (h : i < k) : momOf (deepMs n k) i = deepM n i := by
  unfold momOf deepM deepMs
  rw [List.getD_eq_getElem?_getD, List.getElem?_map, List.getElem?_range h]
  rfl

theorem deepMo_plain (n i : Nat) : (deepMo n i).vv = .slice none 0 0 ∧ (deepMo n i).l = [] ∧ (deepMo n i).text.size = 0 := by
  unfold deepMo
  repeat' split
  all_goals exact ⟨rfl, rfl, rfl⟩

theorem deepMs_moms {B : Nat} {w : World} {v : Value} {n k : Nat} (h : w.ownsRow B 30 6 v k (momCells (deepMs n k))) (hl : k ≤ 1000) : MomsAt B w v k (deepM n) := by
  obtain ⟨a, cap, rfl⟩ := owns_slice h
  refine ⟨a, cap, rfl, by unfold maxLen; omega, fun i hi => ?_⟩
  obtain ⟨g, cap', e, hB⟩ := owns_at h (by omega)
  cases e
  have hi' : i < (deepMs n k).length := by rw [deepMs_len]; exact hi
  obtain ⟨e0, e1, e2, e3, e4, e5⟩ := momCells_get (deepMs n k) i hi'
  obtain ⟨c0, f0⟩ := owns_cell h _ _ e0
  obtain ⟨c1, f1⟩ := owns_cell h _ _ e1
  obtain ⟨c2, f2⟩ := owns_cell h _ _ e2
  obtain ⟨c3, f3⟩ := owns_cell h _ _ e3
  obtain ⟨c4, f4⟩ := owns_cell h _ _ e4
  obtain ⟨c5, f5⟩ := owns_cell h _ _ e5
  have ei : (deepMs n k)[i] = deepMo n i := by simp [deepMs]
  rw [ei] at c0 c1 c2 c3 c4 c5
  obtain ⟨p1, p2, p3⟩ := deepMo_plain n i
  have hnv : (deepM n i).nv = 0 := by show (deepMo n i).l.length = 0; rw [p2]; rfl
  refine ⟨g, 0, (deepMo n i).vv, rfl, ?_, ?_, ?_, ?_, ?_, ?_, ?_, ?_, fun j hj => ⟨hB, fun _ => ?_⟩⟩
  · rw [Nat.zero_add]; exact c0
  · rw [Nat.zero_add]; exact c1
  · rw [Nat.zero_add]; exact c2
  · rw [Nat.zero_add]; exact c3
  · rw [Nat.zero_add]; exact c4
  · rw [Nat.zero_add]; exact c5
  · show (deepMo n i).text.size ≤ maxLen
    rw [p3]; exact Nat.zero_le _
  · rw [hnv, p1]
    exact ⟨none, 0, rfl, Nat.zero_le _, fun i hi => absurd hi (Nat.not_lt_zero _)⟩
  · rw [Nat.zero_add]
    rcases (show j = 0 ∨ j = 1 ∨ j = 2 ∨ j = 3 ∨ j = 4 ∨ j = 5 by omega) with rfl | rfl | rfl | rfl | rfl | rfl
    · exact f0
    · exact f1
    · exact f2
    · exact f3
    · exact f4
    · exact f5

abbrev deepFv (w : World) : Value := .slice (some ⟨w.heap.size, 0, none⟩) 2 2

/-- The trace that is being built: its box behind its fns' row, its moments behind both. -/
structure DT (w : World) (n k : Nat) (mv : Value) (W : World) : Prop where
  fs : W.heap[w.heap.size]? = some (.cells #[.string ⟨#[109, 97, 105, 110]⟩, .string ⟨#[102]⟩] 9 (0, 0))
  tr : W.heap[w.heap.size + 1]? = some (.cells #[deepFv w, mv] 26 (0, 0))
  row : W.ownsRow (w.heap.size + 2) 30 6 mv k (momCells (deepMs n k))
  below : Below w.heap.size w W

section
variable {w W W' : World} {n k : Nat} {mv : Value} (h : DT w n k mv W)
include h
theorem DT.size : w.heap.size + 2 ≤ W.heap.size := heap_lt h.tr
theorem DT.t0 : W.cell? ⟨w.heap.size + 1, 0, none⟩ = some (deepFv w) := by rw [cell_of_row W _ 0 _ _ _ h.tr]; rfl
theorem DT.t1 : W.cell? ⟨w.heap.size + 1, 1, none⟩ = some mv := by rw [cell_of_row W _ 1 _ _ _ h.tr]; rfl
theorem DT.z1 : W.frozen? ⟨w.heap.size + 1, 1, none⟩ = false := frozen_of_row _ _ _ _ _ h.tr
theorem DT.go (hb : Below W.heap.size W W') : DT w n k mv W' :=
  ⟨(hb.block _ (heap_lt h.fs)).trans h.fs, (hb.block _ (heap_lt h.tr)).trans h.tr, owns_below h.row hb, h.below.trans (hb.mono h.below.size)⟩
theorem DT.strs : StrsAt 0 W (deepFv w) 2 deepFns := by
  refine ⟨_, _, rfl, by unfold maxLen; omega, fun i hi => ⟨w.heap.size, 0, rfl, ?_, ?_, Nat.zero_le _, fun e => absurd rfl e⟩⟩
  · rcases (show i = 0 ∨ i = 1 by omega) with rfl | rfl
    · rw [cell_of_row W _ _ _ _ _ h.fs]; rfl
    · rw [cell_of_row W _ _ _ _ _ h.fs]; rfl
  · rcases (show i = 0 ∨ i = 1 by omega) with rfl | rfl <;> (unfold maxLen; decide)
theorem DT.moms (hk : k ≤ 1000) : MomsAt 0 W mv k (deepM n) := (deepMs_moms (B := w.heap.size + 2) h.row hk).low (Nat.zero_le _)
/-- The moments are grown and put back. -/
theorem DT.put {mv' : Value} {k' : Nat} {o : Obj} (hg : (W.alloc o).grownBy W' mv.ownBlock) (ho : W'.ownsRow (w.heap.size + 2) 30 6 mv' k' (momCells (deepMs n k'))) :
    W'.heap[w.heap.size + 1]? = some (.cells #[deepFv w, mv] 26 (0, 0)) ∧ DT w n k' mv' (W'.setCell ⟨w.heap.size + 1, 1, none⟩ mv') := by
  have hne : ∀ b, b < w.heap.size + 2 → some b ≠ mv.ownBlock := fun b hb e => by
    have := (owns_kind h.row b e.symm).1
    omega
  have hne' : ∀ b, b < w.heap.size + 2 → mv'.ownBlock ≠ some b := fun b hb e => by
    have := (owns_kind ho b e).1
    omega
  have hs := h.size
  have t1 : W'.heap[w.heap.size + 1]? = some (.cells #[deepFv w, mv] 26 (0, 0)) := by
    rw [hg.block _ (by simp; omega) (hne _ (by omega)), Below.heap_alloc _ _ _ (by omega)]; exact h.tr
  have t0 : W'.heap[w.heap.size]? = some (.cells #[.string ⟨#[109, 97, 105, 110]⟩, .string ⟨#[102]⟩] 9 (0, 0)) := by
    rw [hg.block _ (by simp; omega) (hne _ (by omega)), Below.heap_alloc _ _ _ (by omega)]; exact h.fs
  refine ⟨t1, ⟨?_, setCells_two _ _ _ _ _ _ t1, owns_setCell ho (hne' _ (by show w.heap.size + 1 < _; omega)), ?_⟩⟩
  · rw [heap_setCell_other _ _ _ _ (by show w.heap.size ≠ w.heap.size + 1; omega)]; exact t0
  · exact (Below.grown (h.below.alloc h.below.size o) hg (by simp; omega) (fun b e => by have := (owns_kind h.row b e).1; omega)).setCell (p := ⟨w.heap.size + 1, 1, none⟩) (by show w.heap.size ≤ w.heap.size + 1; omega) _
end
end Go.Proofs.Ytoiacbdnkkolmaa
