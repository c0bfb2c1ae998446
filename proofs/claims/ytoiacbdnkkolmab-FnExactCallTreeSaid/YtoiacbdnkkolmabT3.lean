import Derived.Test.YtoiacbdnkkolmabT2
namespace Go.Proofs.Ytoiacbdnkkolmab
open Go.RowKit

theorem FrsAt.cells {lo : Nat} {w : World} {a : Option Addr} {cap : Nat} {l : List Fr} (h : FrsAt lo w (.slice a l.length cap) l) (i : Nat) (hi : i < l.length) :
    ∃ g, a = some ⟨g, 0, none⟩ ∧ lo ≤ g ∧ g < w.heap.size ∧ w.cell? ⟨g, i * 3, none⟩ = some (.int .i64 l[i].fn) ∧ w.cell? ⟨g, i * 3 + 1, none⟩ = some (.int .i64 l[i].line) ∧ w.cell? ⟨g, i * 3 + 2, none⟩ = some (.int .i64 l[i].frm) := by
  obtain ⟨e0, e1, e2⟩ := frCells_get l i hi
  have h' := h
  rcases h.2 with ⟨_, h0⟩ | ⟨g, cap', cur, hv, hB, hg, _⟩
  · omega
  · cases hv
    exact ⟨g, rfl, hB, (Array.getElem?_eq_some_iff.1 hg).1, (owns_cell h' _ _ e0).1, (owns_cell h' _ _ e1).1, (owns_cell h' _ _ e2).1⟩

end Go.Proofs.Ytoiacbdnkkolmab
