import Derived.Test.YtoiacbdnkkolmabC11
namespace Go.Proofs.Ytoiacbdnkkolmab
open Go.RowKit

/-- For each task the branches of its open calls, the innermost first. -/
def atL (f : Nat → M) (k t : Nat) : List Nat := ((St.after f k).tasks t).map fun fr => (treeAt f k).br fr.frm

theorem map_same {T : Tree} {l : List Fr} {k : Nat} {i : Nat} (h : ∀ fr, fr ∈ l → fr.frm < (k : Int)) : l.map (fun fr => if fr.frm = (k : Int) then i else T.br fr.frm) = l.map fun fr => T.br fr.frm :=
  List.map_congr_left fun fr hf => by rw [if_neg (by have := h fr hf; omega)]

theorem tree_kind {f : Nat → M} {k : Nat} (h2 : (f k).kind ≠ 2) (h1 : (f k).kind ≠ 1) : treeAt f (k + 1) = treeAt f k := by
  show (treeAt f k).step _ _ _ = _
  unfold Tree.step
  rw [if_neg h2, if_neg h1]

theorem tree_line {f : Nat → M} {k : Nat} (h1 : (f k).kind = 1) : treeAt f (k + 1) = (treeAt f k).line (topFrom ((St.after f k).tasks (St.after f k).cur)) := by
  show (treeAt f k).step _ _ _ = _
  unfold Tree.step
  rw [if_neg (by omega), if_pos h1]

theorem tree_call {f : Nat → M} {k : Nat} (h2 : (f k).kind = 2) : treeAt f (k + 1) = (treeAt f k).call ((treeAt f k).parOf ((St.after f k).tasks (St.after f k).cur)) (f k).fn k := by
  show (treeAt f k).step _ _ _ = _
  unfold Tree.step
  rw [if_pos h2]

theorem atL_turn {f : Nat → M} {k : Nat} (h : (f k).kind = 7) (t : Nat) : atL f (k + 1) t = atL f k t := by
  unfold atL
  rw [tree_kind (by omega) (by omega)]
  show (((St.after f k).step _ _ _ _ _).tasks t).map _ = _
  unfold St.step
  rw [if_pos h]

theorem atL_other {f : Nat → M} {k : Nat} (h7 : (f k).kind ≠ 7) (h2 : (f k).kind ≠ 2) (h1 : (f k).kind ≠ 1) (h3 : (f k).kind ≠ 3) (t : Nat) : atL f (k + 1) t = atL f k t ∧ (St.after f (k + 1)).cur = (St.after f k).cur := by
  have e : St.after f (k + 1) = St.after f k := by
    show (St.after f k).step _ _ _ _ _ = _
    unfold St.step
    rw [if_neg h7, if_neg h2, if_neg h1, if_neg h3]
  unfold atL
  rw [tree_kind h2 h1, e]
  exact ⟨rfl, rfl⟩

theorem atL_line {f : Nat → M} {k : Nat} (h1 : (f k).kind = 1) (t : Nat) : atL f (k + 1) t = atL f k t ∧ (St.after f (k + 1)).cur = (St.after f k).cur := by
  have e : St.after f (k + 1) = (St.after f k).put (setLine (f k).line ((St.after f k).tasks (St.after f k).cur)) := by
    show (St.after f k).step _ _ _ _ _ = _
    unfold St.step
    rw [if_neg (by omega), if_neg (by omega), if_pos h1]
  refine ⟨?_, by rw [e]; rfl⟩
  unfold atL
  rw [tree_line h1, e]
  show ((St.put _ _).tasks t).map (fun fr => (treeAt f k).br fr.frm) = _
  simp only [St.put]
  by_cases et : t = (St.after f k).cur
  · rw [if_pos et, et]
    cases (St.after f k).tasks (St.after f k).cur with
    | nil => rfl
    | cons a r => rfl
  · rw [if_neg et]

theorem atL_back {f : Nat → M} {k : Nat} (h3 : (f k).kind = 3) (t : Nat) : atL f (k + 1) t = (if t = (St.after f k).cur then (atL f k t).tail else atL f k t) ∧ (St.after f (k + 1)).cur = (St.after f k).cur := by
  have e : St.after f (k + 1) = (St.after f k).put ((St.after f k).tasks (St.after f k).cur).tail := by
    show (St.after f k).step _ _ _ _ _ = _
    unfold St.step
    rw [if_neg (by omega), if_neg (by omega), if_neg (by omega), if_pos h3]
  refine ⟨?_, by rw [e]; rfl⟩
  unfold atL
  rw [tree_kind (by omega) (by omega), e]
  simp only [St.put]
  by_cases et : t = (St.after f k).cur
  · rw [if_pos et, if_pos et, et, List.map_tail]
  · rw [if_neg et, if_neg et]

theorem atL_call {f : Nat → M} {k : Nat} (h2 : (f k).kind = 2) (t : Nat) : atL f (k + 1) t = (if t = (St.after f k).cur then brFind (treeAt f k).bs ((treeAt f k).parOf ((St.after f k).tasks (St.after f k).cur)) (f k).fn :: atL f k t else atL f k t) ∧ (St.after f (k + 1)).cur = (St.after f k).cur := by
  have e : St.after f (k + 1) = (St.after f k).put (⟨(f k).fn, 0, k⟩ :: (St.after f k).tasks (St.after f k).cur) := by
    show (St.after f k).step _ _ _ _ _ = _
    unfold St.step
    rw [if_neg (by omega), if_pos h2]
  refine ⟨?_, by rw [e]; rfl⟩
  unfold atL
  rw [tree_call h2, e]
  show ((St.put _ _).tasks t).map (fun fr => if fr.frm = (k : Int) then _ else (treeAt f k).br fr.frm) = _
  simp only [St.put]
  by_cases et : t = (St.after f k).cur
  · rw [if_pos et, if_pos et, List.map_cons, if_pos rfl, map_same (fun fr hf => after_frms f k _ fr hf), et]
  · rw [if_neg et, if_neg et, map_same (fun fr hf => after_frms f k _ fr hf)]

/-- The parent of what is called: the head of the running task's branches. -/
theorem par_head (f : Nat → M) (k : Nat) : (treeAt f k).parOf ((St.after f k).tasks (St.after f k).cur) = match atL f k (St.after f k).cur with | [] => -1 | i :: _ => ((i : Nat) : Int) := by
  unfold atL
  cases (St.after f k).tasks (St.after f k).cur with
  | nil => rfl
  | cons a r => rfl

theorem top_head {f : Nat → M} {k i : Nat} {r : List Nat} (h : atL f k (St.after f k).cur = i :: r) : (treeAt f k).br (topFrom ((St.after f k).tasks (St.after f k).cur)) = i := by
  unfold atL at h
  cases e : (St.after f k).tasks (St.after f k).cur with
  | nil => rw [e] at h; cases h
  | cons a r' => rw [e] at h; injection h

theorem brCells_set : ∀ (l : List Br) (i : Nat) (h : i < l.length), (brCells l).set (i * 4 + 2) (.int .i64 (l[i].calls + 1)) = brCells (l.modify i Br.called) ∧ (brCells l).set (i * 4 + 3) (.int .i64 (l[i].self + 1)) = brCells (l.modify i Br.lined)
  | x :: r, 0, _ => ⟨rfl, rfl⟩
  | x :: r, i + 1, h => by
    obtain ⟨h1, h2⟩ := brCells_set r i (by simpa using h)
    have e : ∀ (x : Br) (r : List Br), brCells (x :: r) = .int .i64 x.fn :: .int .i64 x.par :: .int .i64 x.calls :: .int .i64 x.self :: brCells r := fun _ _ => rfl
    rw [List.modify_succ_cons, List.modify_succ_cons, e, e, e, ← h1, ← h2]
    rw [show (i + 1) * 4 + 2 = i * 4 + 2 + 1 + 1 + 1 + 1 by omega, show (i + 1) * 4 + 3 = i * 4 + 3 + 1 + 1 + 1 + 1 by omega]
    simp only [List.set_cons_succ, List.getElem_cons_succ]
    exact ⟨trivial, trivial⟩
end Go.Proofs.Ytoiacbdnkkolmab
