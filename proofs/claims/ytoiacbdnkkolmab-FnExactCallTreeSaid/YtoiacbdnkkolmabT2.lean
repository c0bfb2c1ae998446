import Derived.Test.YtoiacbdnkkolmabT1
namespace Go.Proofs.Ytoiacbdnkkolmab
open Go.RowKit

/-- The answer of StackAt. -/
def IsStack (nf : Nat) (fns : Nat → ByteArray) (n : Nat) (f : Nat → M) (k t : Int) (l : List Fr) : Prop :=
  (Sound nf fns n f ∧ (-1 ≤ k ∧ k ≤ n) ∧ (0 ≤ t ∧ t ≤ 100) ∧ l = (St.after f (upto n k)).tasks t.toNat) ∨ (¬ (Sound nf fns n f ∧ (-1 ≤ k ∧ k ≤ n) ∧ (0 ≤ t ∧ t ≤ 100)) ∧ l = [])

theorem IsStack.unique {nf : Nat} {fns : Nat → ByteArray} {n : Nat} {f : Nat → M} {k t : Int} {l l' : List Fr} (h : IsStack nf fns n f k t l) (h' : IsStack nf fns n f k t l') : l = l' := by
  rcases h with ⟨a, b, c, rfl⟩ | ⟨a, rfl⟩ <;> rcases h' with ⟨a', b', c', rfl⟩ | ⟨a', rfl⟩
  · rfl
  · exact absurd ⟨a, b, c⟩ a'
  · exact absurd ⟨a', b', c'⟩ a
  · rfl

theorem FrsAt_nil (lo : Nat) (w : World) : FrsAt lo w (.slice none 0 0) [] := World.ownsRow_nil _ _ _ _

theorem frCells_get : ∀ (l : List Fr) (i : Nat) (h : i < l.length), (frCells l)[i * 3]? = some (.int .i64 l[i].fn) ∧ (frCells l)[i * 3 + 1]? = some (.int .i64 l[i].line) ∧ (frCells l)[i * 3 + 2]? = some (.int .i64 l[i].frm)
  | f :: r, 0, _ => ⟨rfl, rfl, rfl⟩
  | f :: r, i + 1, h => by
    have ih := frCells_get r i (by simpa using h)
    have e : frCells (f :: r) = [.int .i64 f.fn, .int .i64 f.line, .int .i64 f.frm] ++ frCells r := rfl
    rw [e, show (i + 1) * 3 = 3 + i * 3 by omega]
    refine ⟨?_, ?_, ?_⟩
    · rw [List.getElem?_append_right (by simp)]; simpa using ih.1
    · rw [List.getElem?_append_right (by simp; omega), show 3 + i * 3 + 1 - [(Value.int .i64 f.fn), .int .i64 f.line, .int .i64 f.frm].length = i * 3 + 1 by simp; omega]; simpa using ih.2.1
    · rw [List.getElem?_append_right (by simp; omega), show 3 + i * 3 + 2 - [(Value.int .i64 f.fn), .int .i64 f.line, .int .i64 f.frm].length = i * 3 + 2 by simp; omega]; simpa using ih.2.2

end Go.Proofs.Ytoiacbdnkkolmab
