/-
  Chapter 2's counts by fn as plain functions.
-/
import Derived.Test.YtoiacbdnkkolmabR1
import Derived.Test.YtoiacbdnkkolmabC1
namespace Go.Proofs.Ytoiacbdnkkolmab
open Go.RowKit

def hasFn (l : List Fr) (i : Nat) : Bool := l.any fun fr => decide (fr.fn = (i : Int))

/-- What a moment adds to cell j of fn i's row; l: the running task's open calls behind it. -/
def fcAdd (m : M) (l : List Fr) (i j : Nat) : Int :=
  if m.kind = 2 then (if j = 1 ∧ (i : Int) = m.fn then 1 else 0)
  else if m.kind = 1 then (if j = 2 ∧ (i : Int) = m.fn then 1 else if j = 3 ∧ hasFn l i = true then 1 else 0)
  else 0

def runs (f : Nat → M) (k : Nat) : List Fr := (St.after f k).tasks (St.after f k).cur

/-- Cell j of fn i's row behind k moments: its number, Calls, Self, Total. -/
def fcRow (f : Nat → M) : Nat → Nat → Nat → Int
  | 0, i, j => if j = 0 then (i : Int) else if j = 1 ∧ i = 0 then 1 else 0
  | k + 1, i, j => fcRow f k i j + fcAdd (f k) (runs f (k + 1)) i j

def FcAns (nf : Nat) (fns : Nat → ByteArray) (n : Nat) (f : Nat → M) (n' : Nat) (F : Nat → Nat → Int) : Prop :=
  (Sound nf fns n f ∧ n' = nf ∧ ∀ i j, i < nf → j < 4 → F i j = fcRow f n i j) ∨ (¬ Sound nf fns n f ∧ n' = 0)

theorem FcAns.unique {nf : Nat} {fns : Nat → ByteArray} {n : Nat} {f : Nat → M} {n1 n2 : Nat} {F1 F2 : Nat → Nat → Int} (h1 : FcAns nf fns n f n1 F1) (h2 : FcAns nf fns n f n2 F2) : n1 = n2 ∧ ∀ i j, i < n1 → j < 4 → F1 i j = F2 i j := by
  rcases h1 with ⟨a1, b1, c1⟩ | ⟨a1, b1⟩ <;> rcases h2 with ⟨a2, b2, c2⟩ | ⟨a2, b2⟩
  · exact ⟨by omega, fun i j hi hj => by rw [c1 i j (by omega) hj, c2 i j (by omega) hj]⟩
  · exact absurd a1 a2
  · exact absurd a2 a1
  · exact ⟨by omega, fun i j hi _ => by omega⟩

theorem FcAns.bound {nf : Nat} {fns : Nat → ByteArray} {n : Nat} {f : Nat → M} {n' : Nat} {F : Nat → Nat → Int} (h : FcAns nf fns n f n' F) (hnf : nf ≤ 1048576) (_ : n ≤ 1048576) : n' ≤ 1048576 := by
  rcases h with ⟨_, e, _⟩ | ⟨_, e⟩ <;> omega

theorem hasFn_app (a b : List Fr) (i : Nat) : hasFn (a ++ b) i = (hasFn a i || hasFn b i) := List.any_append ..

theorem hasFn_one (fr : Fr) (i : Nat) : hasFn [fr] i = decide (fr.fn = (i : Int)) := by simp [hasFn]

theorem hasFn_rev (l : List Fr) (i : Nat) : hasFn l.reverse i = hasFn l i := by simp [hasFn]

theorem fns_step {nf : Nat} {s : St} {m : M} {k : Int} (h : ∀ t fr, fr ∈ s.tasks t → 0 ≤ fr.fn ∧ fr.fn < nf) (hm : 0 ≤ m.fn ∧ m.fn < nf) : ∀ t fr, fr ∈ (s.step m.kind m.task m.fn m.line k).tasks t → 0 ≤ fr.fn ∧ fr.fn < nf := by
  have hput : ∀ l : List Fr, (∀ fr, fr ∈ l → 0 ≤ fr.fn ∧ fr.fn < nf) → ∀ t fr, fr ∈ (s.put l).tasks t → 0 ≤ fr.fn ∧ fr.fn < nf := by
    intro l hl t fr hf
    simp only [St.put] at hf
    split at hf
    · exact hl fr hf
    · exact h t fr hf
  unfold St.step
  split
  · exact h
  · split
    · refine hput _ (fun fr hf => ?_)
      rcases List.mem_cons.1 hf with e | e
      · rw [e]; exact hm
      · exact h _ _ e
    · split
      · refine hput _ (fun fr hf => ?_)
        cases e2 : s.tasks s.cur with
        | nil => rw [e2] at hf; cases hf
        | cons f0 r =>
          rw [e2] at hf
          rcases List.mem_cons.1 hf with e | e
          · rw [e]; exact h s.cur f0 (by rw [e2]; exact List.mem_cons_self ..)
          · exact h s.cur fr (by rw [e2]; exact List.mem_cons_of_mem _ e)
      · split
        · exact hput _ (fun fr hf => h _ _ (List.mem_of_mem_tail hf))
        · exact h

theorem after_fns {nf : Nat} {fns : Nat → ByteArray} {n : Nat} {f : Nat → M} (h : Sound nf fns n f) : ∀ k, k ≤ n → ∀ t fr, fr ∈ (St.after f k).tasks t → 0 ≤ fr.fn ∧ fr.fn < nf
  | 0, _ => by
    intro t fr hf
    simp only [St.after, St.init] at hf
    have := h.1.1
    split at hf
    · rw [List.mem_singleton.1 hf]
      exact ⟨by decide, by show (0 : Int) < nf; omega⟩
    · cases hf
  | k + 1, hk => by
    have hm := (h.2.1 k (by omega)).1
    unfold HeadOk at hm
    exact fns_step (after_fns h k (by omega)) ⟨hm.2.2.2.2.1, hm.2.2.2.2.2.1⟩

/-- Rows of integers in one block. -/
structure Rows (e : TypeId) (b : Nat) (w : World) (z n : Nat) (F : Nat → Nat → Int) : Prop where
  ty : ∃ cs fr, w.heap[b]? = some (.cells cs e fr)
  cell : ∀ i j, i < n → j < z → w.cell? ⟨b, i * z + j, none⟩ = some (.int .i64 (F i j)) ∧ w.frozen? ⟨b, i * z + j, none⟩ = false

theorem Rows.lt {e : TypeId} {b : Nat} {w : World} {z n : Nat} {F : Nat → Nat → Int} (h : Rows e b w z n F) : b < w.heap.size := by
  obtain ⟨cs, fr, h1⟩ := h.ty
  exact (Array.getElem?_eq_some_iff.1 h1).1

theorem Rows.of_block {e : TypeId} {b : Nat} {w w' : World} {z n : Nat} {F : Nat → Nat → Int} (h : Rows e b w z n F) (hb : w'.heap[b]? = w.heap[b]?) : Rows e b w' z n F :=
  ⟨by rw [hb]; exact h.ty, fun i j hi hj => by rw [World.cell?_of_block hb, World.frozen?_of_block hb]; exact h.cell i j hi hj⟩

theorem Rows.below {e : TypeId} {b : Nat} {w w' : World} {z n : Nat} {F : Nat → Nat → Int} (h : Rows e b w z n F) (hb : Below w.heap.size w w') : Rows e b w' z n F := h.of_block (hb.block b h.lt)

theorem Rows.other {e : TypeId} {b b' o : Nat} {w : World} {z n : Nat} {F : Nat → Nat → Int} {u : Value} (h : Rows e b w z n F) (hb : b ≠ b') : Rows e b (w.setCell ⟨b', o, none⟩ u) z n F := h.of_block (Below.heap_setCell _ _ _ _ hb)

theorem Rows.set {e : TypeId} {b : Nat} {w : World} {z n : Nat} {F : Nat → Nat → Int} (h : Rows e b w z n F) (i j : Nat) (hj : j < z) (x : Int) : Rows e b (w.setCell ⟨b, i * z + j, none⟩ (.int .i64 x)) z n (fun i' j' => if i' = i ∧ j' = j then x else F i' j') := by
  refine ⟨?_, fun i' j' hi' hj' => ⟨?_, by rw [World.frozen?_setCell]; exact (h.cell i' j' hi' hj').2⟩⟩
  · obtain ⟨cs, fr, h1⟩ := h.ty
    exact ⟨cs.setIfInBounds (i * z + j) (.int .i64 x), fr, by simp [World.setCell, Array.getElem?_modify, h1]⟩
  · by_cases e : i' = i ∧ j' = j
    · obtain ⟨rfl, rfl⟩ := e
      rw [if_pos ⟨rfl, rfl⟩]
      exact World.cell?_setCell_same _ _ _ (h.cell i' j' hi' hj').1
    · rw [if_neg e, World.cell?_setCell_other _ _ _ _ (fun h => e (place_inj hj' hj (by simpa using (congrArg Addr.off h).symm)))]
      exact (h.cell i' j' hi' hj').1

theorem Rows.congr {e : TypeId} {b : Nat} {w : World} {z n : Nat} {F G : Nat → Nat → Int} (h : Rows e b w z n F) (hg : ∀ i j, i < n → j < z → F i j = G i j) : Rows e b w z n G :=
  ⟨h.ty, fun i j hi hj => by rw [← hg i j hi hj]; exact h.cell i j hi hj⟩

theorem Rows.rowsAt {e : TypeId} {b lo cap : Nat} {w : World} {z n : Nat} {F : Nat → Nat → Int} (h : Rows e b w z n F) (hl : lo ≤ b) : RowsAt lo w (.slice (some ⟨b, 0, none⟩) n cap) z n F :=
  ⟨_, _, rfl, fun i hi => ⟨b, rfl, hl, fun j hj => h.cell i j hi hj⟩⟩
end Go.Proofs.Ytoiacbdnkkolmab
