import Derived.Test.YtoiacbdnkkolmaaD3
import Derived.Test.YtoiacbdnkkolmaaD4
namespace Go.Proofs.Ytoiacbdnkkolmaa
open Go.RowKit

def momCells (ms : List Mo) : List Value := ms.flatMap fun x => [.int .i64 x.kind, .int .i64 x.task, .int .i64 x.fn, .int .i64 x.line, .string x.text, x.vv]

theorem momCells_app (a b : List Mo) : momCells (a ++ b) = momCells a ++ momCells b := List.flatMap_append ..

theorem momCells_get : ∀ (l : List Mo) (i : Nat) (h : i < l.length), (momCells l)[i * 6]? = some (.int .i64 l[i].kind) ∧ (momCells l)[i * 6 + 1]? = some (.int .i64 l[i].task) ∧ (momCells l)[i * 6 + 2]? = some (.int .i64 l[i].fn) ∧
    (momCells l)[i * 6 + 3]? = some (.int .i64 l[i].line) ∧ (momCells l)[i * 6 + 4]? = some (.string l[i].text) ∧ (momCells l)[i * 6 + 5]? = some l[i].vv
  | x :: r, 0, _ => ⟨rfl, rfl, rfl, rfl, rfl, rfl⟩
  | x :: r, i + 1, h => by
    have ih := momCells_get r i (by simpa using h)
    have e : momCells (x :: r) = .int .i64 x.kind :: .int .i64 x.task :: .int .i64 x.fn :: .int .i64 x.line :: .string x.text :: x.vv :: momCells r := rfl
    rw [e, show (i + 1) * 6 = i * 6 + 1 + 1 + 1 + 1 + 1 + 1 by omega]
    simpa only [List.getElem?_cons_succ, List.getElem_cons_succ] using ih

theorem varCells_get : ∀ (l : List V) (i : Nat) (h : i < l.length), (varCells l)[i * 2]? = some (.string l[i].name) ∧ (varCells l)[i * 2 + 1]? = some (.string l[i].text)
  | x :: r, 0, _ => ⟨rfl, rfl⟩
  | x :: r, i + 1, h => by
    have ih := varCells_get r i (by simpa using h)
    have e : varCells (x :: r) = .string x.name :: .string x.text :: varCells r := rfl
    rw [e, show (i + 1) * 2 = i * 2 + 1 + 1 by omega]
    simpa only [List.getElem?_cons_succ, List.getElem_cons_succ] using ih

theorem owns_at {w : World} {B : Nat} {e : TypeId} {z : Nat} {v : Value} {n : Nat} {xs : List Value} (h : w.ownsRow B e z v n xs) (hn : n ≠ 0) : ∃ g cap, v = .slice (some ⟨g, 0, none⟩) n cap ∧ B ≤ g := by
  rcases h.2 with ⟨_, h0⟩ | ⟨g, cap, cur, hv, hB, _⟩
  · exact absurd h0 hn
  · exact ⟨g, cap, hv, hB⟩

theorem getD_at {α : Type} (l : List α) (i : Nat) (d : α) (h : i < l.length) : l.getD i d = l[i] := by
  rw [List.getD_eq_getElem?_getD, List.getElem?_eq_getElem h]; rfl

theorem OwnV.varsAt {B : Nat} {w : World} {v : Value} {l : List V} (h : OwnV B w v l) (hl : l.length ≤ 3) : VarsAt B w v l.length (fun i => l.getD i V.nul) := by
  obtain ⟨a, cap, rfl⟩ := owns_slice h.1
  refine ⟨a, cap, rfl, by unfold maxLen; omega, fun i hi => ?_⟩
  obtain ⟨g, cap', e, hB⟩ := owns_at h.1 (by omega)
  cases e
  obtain ⟨e0, e1⟩ := varCells_get l i hi
  obtain ⟨c0, f0⟩ := owns_cell h.1 _ _ e0
  obtain ⟨c1, f1⟩ := owns_cell h.1 _ _ e1
  obtain ⟨z0, z1⟩ := h.2 l[i] (List.getElem_mem hi)
  refine ⟨g, 0, rfl, ?_, ?_, ?_, ?_, ⟨hB, fun _ => ?_⟩, ⟨hB, fun _ => ?_⟩⟩
  · dsimp only; rw [Nat.zero_add, getD_at _ _ _ hi]; exact c0
  · dsimp only; rw [Nat.zero_add, getD_at _ _ _ hi]; exact c1
  · dsimp only; rw [getD_at _ _ _ hi, z0]; unfold maxLen; omega
  · dsimp only; rw [getD_at _ _ _ hi, z1]; unfold maxLen; omega
  · rw [Nat.zero_add]; exact f0
  · rw [Nat.zero_add]; exact f1

/-- The drawn moments in memory. -/
structure OwnM (B : Nat) (w : World) (v : Value) (ms : List Mo) : Prop where
  row : w.ownsRow B 30 6 v ms.length (momCells ms)
  vars : ∀ x, x ∈ ms → OwnV B w x.vv x.l ∧ x.l.length ≤ 3 ∧ x.text.size ≤ 1

theorem OwnM.momsAt {B : Nat} {w : World} {v : Value} {ms : List Mo} (h : OwnM B w v ms) (hl : ms.length ≤ 100) : MomsAt B w v ms.length (momOf ms) := by
  obtain ⟨a, cap, rfl⟩ := owns_slice h.row
  refine ⟨a, cap, rfl, by unfold maxLen; omega, fun i hi => ?_⟩
  obtain ⟨g, cap', e, hB⟩ := owns_at h.row (by omega)
  cases e
  obtain ⟨e0, e1, e2, e3, e4, e5⟩ := momCells_get ms i hi
  obtain ⟨c0, f0⟩ := owns_cell h.row _ _ e0
  obtain ⟨c1, f1⟩ := owns_cell h.row _ _ e1
  obtain ⟨c2, f2⟩ := owns_cell h.row _ _ e2
  obtain ⟨c3, f3⟩ := owns_cell h.row _ _ e3
  obtain ⟨c4, f4⟩ := owns_cell h.row _ _ e4
  obtain ⟨c5, f5⟩ := owns_cell h.row _ _ e5
  obtain ⟨hv, hv3, htx⟩ := h.vars ms[i] (List.getElem_mem hi)
  have em : momOf ms i = ms[i].m := by unfold momOf; rw [getD_at _ _ _ hi]
  rw [em]
  refine ⟨g, 0, ms[i].vv, rfl, ?_, ?_, ?_, ?_, ?_, ?_, ?_, hv.varsAt hv3, fun j hj => ⟨hB, fun _ => ?_⟩⟩
  · rw [Nat.zero_add]; exact c0
  · rw [Nat.zero_add]; exact c1
  · rw [Nat.zero_add]; exact c2
  · rw [Nat.zero_add]; exact c3
  · rw [Nat.zero_add]; exact c4
  · rw [Nat.zero_add]; exact c5
  · show ms[i].text.size ≤ maxLen
    unfold maxLen; omega
  · rw [Nat.zero_add]
    rcases (show j = 0 ∨ j = 1 ∨ j = 2 ∨ j = 3 ∨ j = 4 ∨ j = 5 by omega) with rfl | rfl | rfl | rfl | rfl | rfl
    · exact f0
    · exact f1
    · exact f2
    · exact f3
    · exact f4
    · exact f5

/-- A row outside spec's open calls stands behind a move. -/
theorem owns_keeps {w w' : World} {B ps : Nat} {e : TypeId} {z : Nat} {v : Value} {n : Nat} {xs : List Value} (h : w.ownsRow B e z v n xs) (hk : Keeps ps w w') (hp : ps < B) (h1 : e ≠ 48) (h2 : e ≠ 45) : w'.ownsRow B e z v n xs := by
  refine ⟨h.1, ?_⟩
  rcases h.2 with hn | ⟨g, cap, cur, hv, hB, hg, rest⟩
  · exact .inl hn
  · exact .inr ⟨g, cap, cur, hv, hB, by rw [hk g cur e _ hg (by omega) h1 h2]; exact hg, rest⟩

theorem OwnV.keeps {B ps : Nat} {w w' : World} {v : Value} {l : List V} (h : OwnV B w v l) (hk : Keeps ps w w') (hp : ps < B) : OwnV B w' v l := ⟨owns_keeps h.1 hk hp (by decide) (by decide), h.2⟩

theorem OwnM.keeps {B ps : Nat} {w w' : World} {v : Value} {ms : List Mo} (h : OwnM B w v ms) (hk : Keeps ps w w') (hp : ps < B) : OwnM B w' v ms :=
  ⟨owns_keeps h.row hk hp (by decide) (by decide), fun x hx => ⟨(h.vars x hx).1.keeps hk hp, (h.vars x hx).2⟩⟩

theorem OwnV.betw {lo hi B : Nat} {w w' : World} {v : Value} {l : List V} (h : OwnV B w v l) (hb : Betw lo hi w w') (hB : hi ≤ B) : OwnV B w' v l := ⟨owns_betw h.1 hb hB, h.2⟩

theorem OwnM.betw {lo hi B : Nat} {w w' : World} {v : Value} {ms : List Mo} (h : OwnM B w v ms) (hb : Betw lo hi w w') (hB : hi ≤ B) : OwnM B w' v ms :=
  ⟨owns_betw h.row hb hB, fun x hx => ⟨(h.vars x hx).1.betw hb hB, (h.vars x hx).2⟩⟩

theorem OwnM.below {B : Nat} {w w' : World} {v : Value} {ms : List Mo} (h : OwnM B w v ms) (hb : Below w.heap.size w w') : OwnM B w' v ms :=
  ⟨owns_below h.row hb, fun x hx => ⟨⟨owns_below (h.vars x hx).1.1 hb, (h.vars x hx).1.2⟩, (h.vars x hx).2⟩⟩
end Go.Proofs.Ytoiacbdnkkolmaa
