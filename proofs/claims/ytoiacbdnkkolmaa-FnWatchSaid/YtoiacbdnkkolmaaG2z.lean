import Derived.Test.YtoiacbdnkkolmaaGEfz
import Derived.Test.YtoiacbdnkkolmaaF5z
namespace Go.Proofs.Ytoiacbdnkkolmaa
open Go.RowKit

theorem ups_split (P : Nat → Bool) (q : Nat) : ∀ d, ups P 0 (q + d) = ups P 0 q ++ ups P q (q + d)
  | 0 => by rw [Nat.add_zero, ups_self, List.append_nil]
  | d + 1 => by
    rw [show q + (d + 1) = (q + d) + 1 from rfl]
    cases h : P (q + d) with
    | true => rw [ups_yes (Nat.zero_le _) h, ups_yes (by omega) h, ups_split P q d, List.append_assoc]
    | false => rw [ups_no h, ups_no h, ups_split P q d]

theorem ups_from_yes {P : Nat → Bool} {q : Nat} (h : P q = true) : ∀ d, ∃ r, ups P q (q + 1 + d) = q :: r
  | 0 => ⟨[], by rw [Nat.add_zero, ups_yes (Nat.le_refl _) h, ups_self]; rfl⟩
  | d + 1 => by
    obtain ⟨r, hr⟩ := ups_from_yes h d
    rw [show q + 1 + (d + 1) = (q + 1 + d) + 1 from rfl]
    cases h' : P (q + 1 + d) with
    | true => exact ⟨r ++ [q + 1 + d], by rw [ups_yes (by omega) h', hr]; rfl⟩
    | false => exact ⟨r, by rw [ups_no h', hr]⟩

/-- The moment q, where P holds there, lies at its place in the list. -/
theorem upsAt_yes {P : Nat → Bool} {q n : Nat} (h : P q = true) (hq : q < n) : (ups P 0 q).length < (ups P 0 n).length ∧ (ups P 0 n).getD (ups P 0 q).length 0 = q := by
  obtain ⟨d, rfl⟩ : ∃ d, n = q + 1 + d := ⟨n - (q + 1), by omega⟩
  obtain ⟨r, hr⟩ := ups_from_yes h d
  have e := ups_split P q (1 + d)
  rw [show q + (1 + d) = q + 1 + d by omega, hr] at e
  rw [e]
  refine ⟨by simp, ?_⟩
  simp [List.getD_eq_getElem?_getD]

theorem upsAt_no {P : Nat → Bool} {q n : Nat} (h : P q = false) (hj : (ups P 0 q).length < (ups P 0 n).length) : (ups P 0 n).getD (ups P 0 q).length 0 ≠ q := by
  intro e
  have hm : (ups P 0 n).getD (ups P 0 q).length 0 ∈ ups P 0 n := by
    rw [List.getD_eq_getElem?_getD, List.getElem?_eq_getElem hj]
    exact List.getElem_mem hj
  rw [e] at hm
  have := (mem_ups.1 hm).2.2
  rw [h] at this
  cases this

theorem IntsOwn.len {B : Nat} {w : World} {a : Option Addr} {m c : Nat} {l : List Nat} (h : IntsOwn B w (.slice a m c) l) : m = l.length := by
  rcases h.2 with ⟨hv, h0⟩ | ⟨g, cap, cur, hv, _⟩
  · cases hv; exact h0.symm
  · cases hv; rfl

theorem IntsOwn.cell {B : Nat} {w : World} {a : Option Addr} {m c : Nat} {l : List Nat} (h : IntsOwn B w (.slice a m c) l) {j : Nat} (hj : j < l.length) : ∃ g, a = some ⟨g, 0, none⟩ ∧ w.cell? ⟨g, j, none⟩ = some (.int .i64 ((l.getD j 0 : Nat) : Int)) := by
  have hh := h
  rcases h.2 with ⟨hv, h0⟩ | ⟨g, cap, cur, hv, _⟩
  · omega
  · cases hv
    refine ⟨g, rfl, (owns_cell hh j _ ?_).1⟩
    rw [List.getElem?_map, List.getElem?_eq_getElem hj, List.getD_eq_getElem?_getD, List.getElem?_eq_getElem hj]
    rfl

/-- The boxes of a law that has drawn a trace and a stop. -/
structure FSB (wd : World) (v1 v2 : Value) (s : Sp) (tb sb : Nat) (W : World) : Prop where
  below : Below wd.heap.size wd W
  ht : W.heap[tb]? = some (.cells #[v1, v2] 26 (0, 0))
  hs : W.heap[sb]? = some (.cells #[.int .i64 s.kind, .int .i64 s.fn, .int .i64 s.line, .string s.name] 52 (0, 0))

section
variable {wd W W' : World} {v1 v2 : Value} {s : Sp} {tb sb : Nat} (h : FSB wd v1 v2 s tb sb W)
include h
theorem FSB.go (hb : Below W.heap.size W W') : FSB wd v1 v2 s tb sb W' := ⟨h.below.trans (hb.mono h.below.size), (hb.block _ (heap_in h.ht)).trans h.ht, (hb.block _ (heap_in h.hs)).trans h.hs⟩
theorem FSB.t0 : W.cell? ⟨tb, 0, none⟩ = some v1 := by rw [cell_of_row W _ 0 _ _ _ h.ht]; rfl
theorem FSB.t1 : W.cell? ⟨tb, 1, none⟩ = some v2 := by rw [cell_of_row W _ 1 _ _ _ h.ht]; rfl
theorem FSB.s0 : W.cell? ⟨sb, 0, none⟩ = some (.int .i64 s.kind) := by rw [cell_of_row W _ 0 _ _ _ h.hs]; rfl
theorem FSB.s1 : W.cell? ⟨sb, 1, none⟩ = some (.int .i64 s.fn) := by rw [cell_of_row W _ 1 _ _ _ h.hs]; rfl
theorem FSB.s2 : W.cell? ⟨sb, 2, none⟩ = some (.int .i64 s.line) := by rw [cell_of_row W _ 2 _ _ _ h.hs]; rfl
theorem FSB.s3 : W.cell? ⟨sb, 3, none⟩ = some (.string s.name) := by rw [cell_of_row W _ 3 _ _ _ h.hs]; rfl
theorem FSB.stop : W.cell? ⟨sb, 0, none⟩ = some (.int .i64 s.kind) ∧ W.cell? ⟨sb, 1, none⟩ = some (.int .i64 s.fn) ∧ W.cell? ⟨sb, 2, none⟩ = some (.int .i64 s.line) ∧ W.cell? ⟨sb, 3, none⟩ = some (.string s.name) := ⟨h.s0, h.s1, h.s2, h.s3⟩
theorem FSB.cells : W.cell? ⟨tb, 0, none⟩ = some v1 ∧ W.cell? ⟨tb, 1, none⟩ = some v2 ∧ W.cell? ⟨sb, 0, none⟩ = some (.int .i64 s.kind) ∧ W.cell? ⟨sb, 1, none⟩ = some (.int .i64 s.fn) ∧ W.cell? ⟨sb, 2, none⟩ = some (.int .i64 s.line) ∧ W.cell? ⟨sb, 3, none⟩ = some (.string s.name) := ⟨h.t0, h.t1, h.s0, h.s1, h.s2, h.s3⟩
end
end Go.Proofs.Ytoiacbdnkkolmaa
