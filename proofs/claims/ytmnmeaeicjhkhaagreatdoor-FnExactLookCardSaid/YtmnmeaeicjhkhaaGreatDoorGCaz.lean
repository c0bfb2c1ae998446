import Derived.Test.YtmnmeaeicjhkhaaGreatDoorGBz
import Derived.Test.YtmnmeaeicjhkhaaGreatDoorGScz
import Derived.Test.YtmnmeaeicjhkhaaGreatDoorGIdz
import Derived.Deep.AppendLies
/-
  Slices of structs of integers, read by index: no dump is named here.
-/
namespace Go.Proofs.YtmnmeaeicjhkhaaGreatDoor
open Go.RowKit

/-- A slice of n structs of z integers. -/
def RowsAt (lo : Nat) (w : World) (v : Value) (z n : Nat) (F : Nat → Nat → Int) : Prop :=
  ∃ a cap, v = .slice a n cap ∧ ∀ i, i < n → ∃ b, a = some ⟨b, 0, none⟩ ∧ lo ≤ b ∧ ∀ j, j < z → w.cell? ⟨b, i * z + j, none⟩ = some (.int .i64 (F i j)) ∧ w.frozen? ⟨b, i * z + j, none⟩ = false

theorem RowsAt.below {lo : Nat} {w w' : World} {v : Value} {z n : Nat} {F : Nat → Nat → Int} (h : RowsAt lo w v z n F) (hb : Below w.heap.size w w') : RowsAt lo w' v z n F := by
  obtain ⟨a, cap, hv, h⟩ := h
  refine ⟨a, cap, hv, fun i hi => ?_⟩
  obtain ⟨b, ha, hl, hc⟩ := h i hi
  exact ⟨b, ha, hl, fun j hj => ⟨cell_below hb (hc j hj).1, by rw [hb.frozen (cell_lt (hc j hj).1)]; exact (hc j hj).2⟩⟩

/-- What is written below or beside it leaves it as it is. -/
theorem RowsAt.keep {lo B : Nat} {w w' : World} {v : Value} {z n : Nat} {F : Nat → Nat → Int} (h : RowsAt lo w v z n F) (hb : Below B w w') (hB : w.heap.size ≤ B) : RowsAt lo w' v z n F := h.below (hb.mono hB)

theorem RowsAt.low {lo lo' : Nat} {w : World} {v : Value} {z n : Nat} {F : Nat → Nat → Int} (h : RowsAt lo w v z n F) (hl : lo' ≤ lo) : RowsAt lo' w v z n F := by
  obtain ⟨a, cap, hv, h⟩ := h
  refine ⟨a, cap, hv, fun i hi => ?_⟩
  obtain ⟨b, ha, h1, hc⟩ := h i hi
  exact ⟨b, ha, by omega, hc⟩

theorem RowsAt.congr {lo : Nat} {w : World} {v : Value} {z n : Nat} {F G : Nat → Nat → Int} (h : RowsAt lo w v z n F) (e : ∀ i j, i < n → j < z → F i j = G i j) : RowsAt lo w v z n G := by
  obtain ⟨a, cap, hv, h⟩ := h
  refine ⟨a, cap, hv, fun i hi => ?_⟩
  obtain ⟨b, ha, h1, hc⟩ := h i hi
  exact ⟨b, ha, h1, fun j hj => by rw [← e i j hi hj]; exact hc j hj⟩

theorem RowsAt.nil (lo : Nat) (w : World) (z : Nat) (F : Nat → Nat → Int) : RowsAt lo w (.slice none 0 0) z 0 F := ⟨none, 0, rfl, fun _ hi => absurd hi (Nat.not_lt_zero _)⟩

theorem place_inj {z i j i' j' : Nat} (hj : j < z) (hj' : j' < z) (h : i * z + j = i' * z + j') : i = i' ∧ j = j' := by
  have h1 : (i * z + j) / z = i := by rw [Nat.add_comm, Nat.add_mul_div_right _ _ (by omega), Nat.div_eq_of_lt hj]; omega
  have h2 : (i' * z + j') / z = i' := by rw [Nat.add_comm, Nat.add_mul_div_right _ _ (by omega), Nat.div_eq_of_lt hj']; omega
  have : i = i' := by rw [← h1, ← h2, h]
  subst this
  exact ⟨rfl, by omega⟩

/-- One cell is written. -/
theorem RowsAt.set {lo : Nat} {w : World} {a : Option Addr} {cap z n b i j : Nat} {F : Nat → Nat → Int} (h : RowsAt lo w (.slice a n cap) z n F) (ha : a = some ⟨b, 0, none⟩) (hj : j < z) (x : Int) :
    RowsAt lo (w.setCell ⟨b, i * z + j, none⟩ (.int .i64 x)) (.slice a n cap) z n (fun i' j' => if i' = i ∧ j' = j then x else F i' j') := by
  obtain ⟨a', cap', hv, h⟩ := h
  cases hv
  refine ⟨a, cap, rfl, fun i' hi' => ?_⟩
  obtain ⟨b', ha', hl, hc⟩ := h i' hi'
  rw [ha] at ha'
  cases ha'
  refine ⟨b, ha, hl, fun j' hj' => ⟨?_, by rw [World.frozen?_setCell]; exact (hc j' hj').2⟩⟩
  dsimp only
  by_cases e : i' = i ∧ j' = j
  · obtain ⟨rfl, rfl⟩ := e
    rw [if_pos ⟨rfl, rfl⟩]
    exact World.cell?_setCell_same _ _ _ (hc j' hj').1
  · rw [if_neg e, World.cell?_setCell_other _ _ _ _ (fun h => e (place_inj hj' hj (by simpa using (congrArg Addr.off h).symm)))]
    exact (hc j' hj').1

theorem RowsAt.at_ {lo : Nat} {w : World} {a : Option Addr} {cap z n : Nat} {F : Nat → Nat → Int} (h : RowsAt lo w (.slice a n cap) z n F) (i : Nat) (hi : i < n) :
    ∃ b, a = some ⟨b, 0, none⟩ ∧ lo ≤ b ∧ ∀ j, j < z → w.cell? ⟨b, i * z + j, none⟩ = some (.int .i64 (F i j)) ∧ w.frozen? ⟨b, i * z + j, none⟩ = false := by
  obtain ⟨a', cap', hv, h⟩ := h
  cases hv
  exact h i hi

theorem RowsAt.shape {lo : Nat} {w : World} {v : Value} {z n : Nat} {F : Nat → Nat → Int} (h : RowsAt lo w v z n F) : ∃ a cap, v = .slice a n cap := by
  obtain ⟨a, cap, hv, _⟩ := h
  exact ⟨a, cap, hv⟩

/-- What an owned row of integers reads as. -/
theorem RowsAt.of_owns {B : Nat} {w : World} {e : TypeId} {z n : Nat} {v : Value} {xs : List Value} {F : Nat → Nat → Int} (h : w.ownsRow B e z v n xs) (hx : ∀ i j, i < n → j < z → xs[i * z + j]? = some (.int .i64 (F i j))) : RowsAt B w v z n F := by
  obtain ⟨a, cap, rfl⟩ := owns_slice h
  refine ⟨a, cap, rfl, fun i hi => ?_⟩
  rcases h.2 with ⟨_, h0⟩ | ⟨g, cap', cur, hv, hB, _⟩
  · omega
  · cases hv
    exact ⟨g, rfl, hB, fun j hj => owns_cell h _ _ (hx i j hi hj)⟩
end Go.Proofs.YtmnmeaeicjhkhaaGreatDoor

/-
  Chapter 2's counts by fn as plain functions.
-/
namespace Go.Proofs.YtmnmeaeicjhkhaaGreatDoor
open Go.RowKit

def hasFn (l : List Fr) (i : Nat) : Bool := l.any fun fr => decide (fr.fn = (i : Int))

/-- What a moment adds to cell j of fn i's row; l: the running task's open calls behind it. -/
def fcAdd (m : M) (l : List Fr) (i j : Nat) : Int :=
  if m.kind = 2 then (if j = 1 ∧ (i : Int) = m.fn then 1 else 0)
  else if m.kind = 1 then (if j = 2 ∧ (i : Int) = m.fn then 1 else if j = 3 ∧ hasFn l i = true then 1 else 0)
  else 0

def runs (f : Nat → M) (k : Nat) : List Fr := (St.after f k).tasks (St.after f k).cur

/-- Cell j of fn i's row behind k moments: its number, Calls, Self, Total. -/
def fcRow (f : Nat → M) : Nat → Nat → Nat → Int
  | 0, i, j => if j = 0 then (i : Int) else if j = 1 ∧ i = 0 then 1 else 0
  | k + 1, i, j => fcRow f k i j + fcAdd (f k) (runs f (k + 1)) i j

def FcAns (nf : Nat) (fns : Nat → ByteArray) (n : Nat) (f : Nat → M) (n' : Nat) (F : Nat → Nat → Int) : Prop :=
  (Sound nf fns n f ∧ n' = nf ∧ ∀ i j, i < nf → j < 4 → F i j = fcRow f n i j) ∨ (¬ Sound nf fns n f ∧ n' = 0)

theorem FcAns.unique {nf : Nat} {fns : Nat → ByteArray} {n : Nat} {f : Nat → M} {n1 n2 : Nat} {F1 F2 : Nat → Nat → Int} (h1 : FcAns nf fns n f n1 F1) (h2 : FcAns nf fns n f n2 F2) : n1 = n2 ∧ ∀ i j, i < n1 → j < 4 → F1 i j = F2 i j := by
  rcases h1 with ⟨a1, b1, c1⟩ | ⟨a1, b1⟩ <;> rcases h2 with ⟨a2, b2, c2⟩ | ⟨a2, b2⟩
  · exact ⟨by omega, fun i j hi hj => by rw [c1 i j (by omega) hj, c2 i j (by omega) hj]⟩
  · exact absurd a1 a2
  · exact absurd a2 a1
  · exact ⟨by omega, fun i j hi _ => by omega⟩

theorem FcAns.bound {nf : Nat} {fns : Nat → ByteArray} {n : Nat} {f : Nat → M} {n' : Nat} {F : Nat → Nat → Int} (h : FcAns nf fns n f n' F) (hnf : nf ≤ 1048576) (_ : n ≤ 1048576) : n' ≤ 1048576 := by
  rcases h with ⟨_, e, _⟩ | ⟨_, e⟩ <;> omega

theorem hasFn_app (a b : List Fr) (i : Nat) : hasFn (a ++ b) i = (hasFn a i || hasFn b i) := List.any_append ..

theorem hasFn_one (fr : Fr) (i : Nat) : hasFn [fr] i = decide (fr.fn = (i : Int)) := by simp [hasFn]

theorem hasFn_rev (l : List Fr) (i : Nat) : hasFn l.reverse i = hasFn l i := by simp [hasFn]

theorem fns_step {nf : Nat} {s : St} {m : M} {k : Int} (h : ∀ t fr, fr ∈ s.tasks t → 0 ≤ fr.fn ∧ fr.fn < nf) (hm : 0 ≤ m.fn ∧ m.fn < nf) : ∀ t fr, fr ∈ (s.step m.kind m.task m.fn m.line k).tasks t → 0 ≤ fr.fn ∧ fr.fn < nf := by
  have hput : ∀ l : List Fr, (∀ fr, fr ∈ l → 0 ≤ fr.fn ∧ fr.fn < nf) → ∀ t fr, fr ∈ (s.put l).tasks t → 0 ≤ fr.fn ∧ fr.fn < nf := by
    intro l hl t fr hf
    simp only [St.put] at hf
    split at hf
    · exact hl fr hf
    · exact h t fr hf
  unfold St.step
  split
  · exact h
  · split
    · refine hput _ (fun fr hf => ?_)
      rcases List.mem_cons.1 hf with e | e
      · rw [e]; exact hm
      · exact h _ _ e
    · split
      · refine hput _ (fun fr hf => ?_)
        cases e2 : s.tasks s.cur with
        | nil => rw [e2] at hf; cases hf
        | cons f0 r =>
          rw [e2] at hf
          rcases List.mem_cons.1 hf with e | e
          · rw [e]; exact h s.cur f0 (by rw [e2]; exact List.mem_cons_self ..)
          · exact h s.cur fr (by rw [e2]; exact List.mem_cons_of_mem _ e)
      · split
        · exact hput _ (fun fr hf => h _ _ (List.mem_of_mem_tail hf))
        · exact h

theorem after_fns {nf : Nat} {fns : Nat → ByteArray} {n : Nat} {f : Nat → M} (h : Sound nf fns n f) : ∀ k, k ≤ n → ∀ t fr, fr ∈ (St.after f k).tasks t → 0 ≤ fr.fn ∧ fr.fn < nf
  | 0, _ => by
    intro t fr hf
    simp only [St.after, St.init] at hf
    have := h.1.1
    split at hf
    · rw [List.mem_singleton.1 hf]
      exact ⟨by decide, by show (0 : Int) < nf; omega⟩
    · cases hf
  | k + 1, hk => by
    have hm := (h.2.1 k (by omega)).1
    unfold HeadOk at hm
    exact fns_step (after_fns h k (by omega)) ⟨hm.2.2.2.2.1, hm.2.2.2.2.2.1⟩

/-- Rows of integers in one block. -/
structure Rows (e : TypeId) (b : Nat) (w : World) (z n : Nat) (F : Nat → Nat → Int) : Prop where
  ty : ∃ cs fr, w.heap[b]? = some (.cells cs e fr)
  cell : ∀ i j, i < n → j < z → w.cell? ⟨b, i * z + j, none⟩ = some (.int .i64 (F i j)) ∧ w.frozen? ⟨b, i * z + j, none⟩ = false

theorem Rows.lt {e : TypeId} {b : Nat} {w : World} {z n : Nat} {F : Nat → Nat → Int} (h : Rows e b w z n F) : b < w.heap.size := by
  obtain ⟨cs, fr, h1⟩ := h.ty
  exact (Array.getElem?_eq_some_iff.1 h1).1

theorem Rows.of_block {e : TypeId} {b : Nat} {w w' : World} {z n : Nat} {F : Nat → Nat → Int} (h : Rows e b w z n F) (hb : w'.heap[b]? = w.heap[b]?) : Rows e b w' z n F :=
  ⟨by rw [hb]; exact h.ty, fun i j hi hj => by rw [World.cell?_of_block hb, World.frozen?_of_block hb]; exact h.cell i j hi hj⟩

theorem Rows.below {e : TypeId} {b : Nat} {w w' : World} {z n : Nat} {F : Nat → Nat → Int} (h : Rows e b w z n F) (hb : Below w.heap.size w w') : Rows e b w' z n F := h.of_block (hb.block b h.lt)

theorem Rows.other {e : TypeId} {b b' o : Nat} {w : World} {z n : Nat} {F : Nat → Nat → Int} {u : Value} (h : Rows e b w z n F) (hb : b ≠ b') : Rows e b (w.setCell ⟨b', o, none⟩ u) z n F := h.of_block (Below.heap_setCell _ _ _ _ hb)

theorem Rows.set {e : TypeId} {b : Nat} {w : World} {z n : Nat} {F : Nat → Nat → Int} (h : Rows e b w z n F) (i j : Nat) (hj : j < z) (x : Int) : Rows e b (w.setCell ⟨b, i * z + j, none⟩ (.int .i64 x)) z n (fun i' j' => if i' = i ∧ j' = j then x else F i' j') := by
  refine ⟨?_, fun i' j' hi' hj' => ⟨?_, by rw [World.frozen?_setCell]; exact (h.cell i' j' hi' hj').2⟩⟩
  · obtain ⟨cs, fr, h1⟩ := h.ty
    exact ⟨cs.setIfInBounds (i * z + j) (.int .i64 x), fr, by simp [World.setCell, Array.getElem?_modify, h1]⟩
  · by_cases e : i' = i ∧ j' = j
    · obtain ⟨rfl, rfl⟩ := e
      rw [if_pos ⟨rfl, rfl⟩]
      exact World.cell?_setCell_same _ _ _ (h.cell i' j' hi' hj').1
    · rw [if_neg e, World.cell?_setCell_other _ _ _ _ (fun h => e (place_inj hj' hj (by simpa using (congrArg Addr.off h).symm)))]
      exact (h.cell i' j' hi' hj').1

theorem Rows.congr {e : TypeId} {b : Nat} {w : World} {z n : Nat} {F G : Nat → Nat → Int} (h : Rows e b w z n F) (hg : ∀ i j, i < n → j < z → F i j = G i j) : Rows e b w z n G :=
  ⟨h.ty, fun i j hi hj => by rw [← hg i j hi hj]; exact h.cell i j hi hj⟩

theorem Rows.rowsAt {e : TypeId} {b lo cap : Nat} {w : World} {z n : Nat} {F : Nat → Nat → Int} (h : Rows e b w z n F) (hl : lo ≤ b) : RowsAt lo w (.slice (some ⟨b, 0, none⟩) n cap) z n F :=
  ⟨_, _, rfl, fun i hi => ⟨b, rfl, hl, fun j hj => h.cell i j hi hj⟩⟩
end Go.Proofs.YtmnmeaeicjhkhaaGreatDoor

/-
  Chapter 2's call tree as plain functions.
-/
namespace Go.Proofs.YtmnmeaeicjhkhaaGreatDoor
open Go.RowKit

structure Br where
  fn : Int
  par : Int
  calls : Int
  self : Int

/-- The branches in the order in which they are met, and the branch of each call by its From. -/
structure Tree where
  bs : List Br
  br : Int → Nat

def isBr (par fn : Int) (b : Br) : Bool := decide (b.par = par ∧ b.fn = fn)

/-- The place of a branch; the number of branches where there is none such. -/
def brFind (bs : List Br) (par fn : Int) : Nat := bs.findIdx (isBr par fn)

/-- The branches with that one among them. -/
def brMake (bs : List Br) (par fn : Int) : List Br := if brFind bs par fn < bs.length then bs else bs ++ [⟨fn, par, 0, 0⟩]

def Br.called (b : Br) : Br := ⟨b.fn, b.par, b.calls + 1, b.self⟩
def Br.lined (b : Br) : Br := ⟨b.fn, b.par, b.calls, b.self + 1⟩

def Tree.call (T : Tree) (par fn k : Int) : Tree :=
  ⟨(brMake T.bs par fn).modify (brFind T.bs par fn) Br.called, fun x => if x = k then brFind T.bs par fn else T.br x⟩

def Tree.line (T : Tree) (frm : Int) : Tree := ⟨T.bs.modify (T.br frm) Br.lined, T.br⟩

def Tree.parOf (T : Tree) : List Fr → Int
  | [] => -1
  | fr :: _ => T.br fr.frm

def Tree.init : Tree := ⟨[⟨0, -1, 1, 0⟩], fun _ => 0⟩

def Tree.step (T : Tree) (s : St) (m : M) (k : Int) : Tree :=
  if m.kind = 2 then T.call (T.parOf (s.tasks s.cur)) m.fn k
  else if m.kind = 1 then T.line (topFrom (s.tasks s.cur))
  else T

def treeAt (f : Nat → M) : Nat → Tree
  | 0 => Tree.init
  | k + 1 => (treeAt f k).step (St.after f k) (f k) k

def brCell (b : Br) : Nat → Int
  | 0 => b.fn
  | 1 => b.par
  | 2 => b.calls
  | _ => b.self

def TrAns (nf : Nat) (fns : Nat → ByteArray) (n : Nat) (f : Nat → M) (n' : Nat) (F : Nat → Nat → Int) : Prop :=
  (Sound nf fns n f ∧ n' = (treeAt f n).bs.length ∧ ∀ i j (h : i < (treeAt f n).bs.length), j < 4 → F i j = brCell (treeAt f n).bs[i] j) ∨ (¬ Sound nf fns n f ∧ n' = 0)

theorem TrAns.unique {nf : Nat} {fns : Nat → ByteArray} {n : Nat} {f : Nat → M} {n1 n2 : Nat} {F1 F2 : Nat → Nat → Int} (h1 : TrAns nf fns n f n1 F1) (h2 : TrAns nf fns n f n2 F2) : n1 = n2 ∧ ∀ i j, i < n1 → j < 4 → F1 i j = F2 i j := by
  rcases h1 with ⟨a1, b1, c1⟩ | ⟨a1, b1⟩ <;> rcases h2 with ⟨a2, b2, c2⟩ | ⟨a2, b2⟩
  · exact ⟨by omega, fun i j hi hj => by rw [c1 i j (by omega) hj, c2 i j (by omega) hj]⟩
  · exact absurd a1 a2
  · exact absurd a2 a1
  · exact ⟨by omega, fun i j hi _ => by omega⟩

theorem brFind_le (bs : List Br) (par fn : Int) : brFind bs par fn ≤ bs.length := List.findIdx_le_length

theorem brMake_len (bs : List Br) (par fn : Int) : bs.length ≤ (brMake bs par fn).length ∧ (brMake bs par fn).length ≤ bs.length + 1 ∧ brFind bs par fn < (brMake bs par fn).length := by
  have h := brFind_le bs par fn
  unfold brMake
  split
  · omega
  · rw [List.length_append, List.length_singleton]; omega

/-- What stands of the tree behind k moments. -/
structure TreeOk (T : Tree) (k : Nat) : Prop where
  pos : 1 ≤ T.bs.length
  len : T.bs.length ≤ k + 1
  br : ∀ x, T.br x < T.bs.length
  small : ∀ b, b ∈ T.bs → 0 ≤ b.calls ∧ b.calls ≤ k + 1 ∧ 0 ≤ b.self ∧ b.self ≤ k

theorem mem_modify {α : Type} {g : α → α} {x : α} : ∀ (l : List α) (i : Nat), x ∈ l.modify i g → x ∈ l ∨ ∃ y, y ∈ l ∧ x = g y
  | [], i, h => by simp at h
  | a :: r, 0, h => by
    rw [List.modify_zero_cons] at h
    rcases List.mem_cons.1 h with e | e
    · exact .inr ⟨a, List.mem_cons_self .., e⟩
    · exact .inl (List.mem_cons_of_mem _ e)
  | a :: r, i + 1, h => by
    rw [List.modify_succ_cons] at h
    rcases List.mem_cons.1 h with e | e
    · exact .inl (by rw [e]; exact List.mem_cons_self ..)
    · rcases mem_modify r i e with h1 | ⟨y, h1, h2⟩
      · exact .inl (List.mem_cons_of_mem _ h1)
      · exact .inr ⟨y, List.mem_cons_of_mem _ h1, h2⟩

theorem TreeOk.init : TreeOk Tree.init 0 := by
  refine ⟨by decide, by decide, fun _ => Nat.zero_lt_one, fun b hb => ?_⟩
  rw [show Tree.init.bs = [⟨0, -1, 1, 0⟩] from rfl] at hb
  rw [List.mem_singleton.1 hb]
  decide

theorem TreeOk.step {T : Tree} {k : Nat} (h : TreeOk T k) (s : St) (m : M) (x : Int) : TreeOk (T.step s m x) (k + 1) := by
  unfold Tree.step
  split
  · obtain ⟨l1, l2, l3⟩ := brMake_len T.bs (T.parOf (s.tasks s.cur)) m.fn
    have := h.pos
    have := h.len
    refine ⟨?_, ?_, fun y => ?_, fun b hb => ?_⟩
    · show 1 ≤ (List.modify _ _ _).length; rw [List.length_modify]; omega
    · show (List.modify _ _ _).length ≤ _; rw [List.length_modify]; omega
    · show (if y = x then _ else T.br y) < (List.modify _ _ _).length
      rw [List.length_modify]
      have := h.br y
      split <;> omega
    · have hmk : ∀ b, b ∈ brMake T.bs (T.parOf (s.tasks s.cur)) m.fn → 0 ≤ b.calls ∧ b.calls ≤ k + 1 ∧ 0 ≤ b.self ∧ b.self ≤ k := by
        intro b hb
        unfold brMake at hb
        split at hb
        · exact h.small b hb
        · rcases List.mem_append.1 hb with hb | hb
          · exact h.small b hb
          · rw [List.mem_singleton.1 hb]
            refine ⟨Int.le_refl 0, ?_, Int.le_refl 0, ?_⟩
            · show (0 : Int) ≤ _; omega
            · show (0 : Int) ≤ _; omega
      rcases mem_modify _ _ hb with h1 | ⟨y, h1, rfl⟩
      · have := hmk b h1; omega
      · have := hmk y h1
        simp only [Br.called]
        omega
  · split
    · refine ⟨?_, ?_, fun y => ?_, fun b hb => ?_⟩
      · show 1 ≤ (List.modify _ _ _).length; rw [List.length_modify]; exact h.pos
      · show (List.modify _ _ _).length ≤ _; rw [List.length_modify]; have := h.len; omega
      · show T.br y < (List.modify _ _ _).length; rw [List.length_modify]; exact h.br y
      · rcases mem_modify _ _ hb with h1 | ⟨y, h1, rfl⟩
        · have := h.small b h1; omega
        · have := h.small y h1
          simp only [Br.lined]
          omega
    · exact ⟨h.pos, by have := h.len; omega, h.br, fun b hb => by have := h.small b hb; omega⟩

theorem treeAt_ok (f : Nat → M) : ∀ k, TreeOk (treeAt f k) k
  | 0 => TreeOk.init
  | k + 1 => (treeAt_ok f k).step _ _ _

theorem TrAns.bound {nf : Nat} {fns : Nat → ByteArray} {n : Nat} {f : Nat → M} {n' : Nat} {F : Nat → Nat → Int} (h : TrAns nf fns n f n' F) (_ : nf ≤ 1048576) (hn : n ≤ 1048576) : n' ≤ 1048576 := by
  rcases h with ⟨hs, e, _⟩ | ⟨_, e⟩
  · have := (treeAt_ok f n).len
    have := hs.1.2.2.1
    omega
  · omega

/-- No call has been opened at a moment that is still to come. -/
theorem frms_step {s : St} {m : M} {k : Nat} (h : ∀ t fr, fr ∈ s.tasks t → fr.frm < (k : Int)) : ∀ t fr, fr ∈ (s.step m.kind m.task m.fn m.line k).tasks t → fr.frm < ((k + 1 : Nat) : Int) := by
  have hput : ∀ l : List Fr, (∀ fr, fr ∈ l → fr.frm < ((k + 1 : Nat) : Int)) → ∀ t fr, fr ∈ (s.put l).tasks t → fr.frm < ((k + 1 : Nat) : Int) := by
    intro l hl t fr hf
    simp only [St.put] at hf
    split at hf
    · exact hl fr hf
    · have := h t fr hf; omega
  unfold St.step
  split
  · intro t fr hf; have := h t fr hf; omega
  · split
    · refine hput _ (fun fr hf => ?_)
      rcases List.mem_cons.1 hf with e | e
      · rw [e]; show (k : Int) < _; omega
      · have := h _ _ e; omega
    · split
      · refine hput _ (fun fr hf => ?_)
        cases e2 : s.tasks s.cur with
        | nil => rw [e2] at hf; cases hf
        | cons f0 r =>
          rw [e2] at hf
          rcases List.mem_cons.1 hf with e | e
          · have := h s.cur f0 (by rw [e2]; exact List.mem_cons_self ..)
            rw [e]; show f0.frm < _; omega
          · have := h s.cur fr (by rw [e2]; exact List.mem_cons_of_mem _ e); omega
      · split
        · refine hput _ (fun fr hf => ?_)
          have := h _ _ (List.mem_of_mem_tail hf); omega
        · intro t fr hf; have := h t fr hf; omega

theorem after_frms (f : Nat → M) : ∀ k t fr, fr ∈ (St.after f k).tasks t → fr.frm < (k : Int)
  | 0 => by
    intro t fr hf
    simp only [St.after, St.init] at hf
    split at hf
    · rw [List.mem_singleton.1 hf]; decide
    · cases hf
  | k + 1 => frms_step (after_frms f k)
end Go.Proofs.YtmnmeaeicjhkhaaGreatDoor

namespace Go.Proofs.YtmnmeaeicjhkhaaGreatDoor
open Go.RowKit

theorem info_Branch : (Tryz.prog.info? 203).map (fun i => (i.zero, i.size, i.bytes)) = some (some (.agg #[.int .i64 0, .int .i64 0, .int .i64 0, .int .i64 0]), 4, 32) := by kernel_rfl

def brCells (bs : List Br) : List Value := bs.flatMap fun b => [.int .i64 b.fn, .int .i64 b.par, .int .i64 b.calls, .int .i64 b.self]

theorem brCells_app (a b : List Br) : brCells (a ++ b) = brCells a ++ brCells b := List.flatMap_append ..

theorem brCells_get : ∀ (l : List Br) (i : Nat) (h : i < l.length), (brCells l)[i * 4]? = some (.int .i64 l[i].fn) ∧ (brCells l)[i * 4 + 1]? = some (.int .i64 l[i].par) ∧ (brCells l)[i * 4 + 2]? = some (.int .i64 l[i].calls) ∧ (brCells l)[i * 4 + 3]? = some (.int .i64 l[i].self)
  | x :: r, 0, _ => ⟨rfl, rfl, rfl, rfl⟩
  | x :: r, i + 1, h => by
    have ih := brCells_get r i (by simpa using h)
    have e : brCells (x :: r) = .int .i64 x.fn :: .int .i64 x.par :: .int .i64 x.calls :: .int .i64 x.self :: brCells r := rfl
    rw [e, show (i + 1) * 4 = i * 4 + 1 + 1 + 1 + 1 by omega]
    simpa only [List.getElem?_cons_succ, List.getElem_cons_succ] using ih

theorem brFind_at {bs : List Br} {par fn : Int} {k : Nat} (hk : k < bs.length) (h1 : isBr par fn bs[k] = true) (h2 : ∀ j (h : j < bs.length), j < k → isBr par fn bs[j] = false) : brFind bs par fn = k :=
  (List.findIdx_eq hk).2 ⟨h1, fun j hj => h2 j (by omega) hj⟩

theorem brFind_none {bs : List Br} {par fn : Int} (h : ∀ j (h : j < bs.length), isBr par fn bs[j] = false) : brFind bs par fn = bs.length := by
  refine List.findIdx_eq_length.2 (fun x hx => ?_)
  obtain ⟨j, hj, e⟩ := List.getElem_of_mem hx
  rw [← e]; exact h j hj

theorem grown_of_below {w w' : World} (row : Option Nat) (h : Below w.heap.size w w') : w.grownBy w' row := ⟨h.os, h.tape, h.output, h.size, fun b hb _ => h.block b hb⟩

end Go.Proofs.YtmnmeaeicjhkhaaGreatDoor

namespace Go.Proofs.YtmnmeaeicjhkhaaGreatDoor
open Go.RowKit

def atCells (l : List Nat) : List Value := l.reverse.map fun i => Value.int .i64 (i : Nat)

theorem owns_typed {w : World} {B : Nat} {e : TypeId} {z : Nat} {v : Value} {n : Nat} {xs : List Value} (h : w.ownsRow B e z v n xs) : ∀ g, v.ownBlock = some g → B ≤ g ∧ ∃ cs fr, w.heap[g]? = some (.cells cs e fr) := by
  intro g hg
  rcases h.2 with ⟨e1, _⟩ | ⟨g', cap, cur, e1, hB, hh, _⟩
  · rw [e1] at hg; cases hg
  · rw [e1] at hg; cases hg; exact ⟨hB, cur, _, hh⟩

/-- The memory of spec's call tree on its way: the branches, and for each task the branches of its open calls. -/
structure SpT (B : Nat) (w : World) (bt : Nat) (V : Nat → Value) (L : Nat → List Nat) (ov : Value) (bs : List Br) : Prop where
  hbt : B ≤ bt
  row : w.rowIs bt 80 101 V
  own : ∀ t, t < 101 → w.ownsRow B 3 1 (V t) (L t).length (atCells (L t))
  dis : ∀ t t', t < 101 → t' < 101 → t ≠ t' → (V t).ownBlock = none ∨ (V t).ownBlock ≠ (V t').ownBlock
  out : w.ownsRow B 203 4 ov bs.length (brCells bs)

theorem SpT.typed {B : Nat} {w : World} {bt : Nat} {V : Nat → Value} {L : Nat → List Nat} {ov : Value} {bs : List Br} (h : SpT B w bt V L ov bs) : ∃ cs fr, w.heap[bt]? = some (.cells cs 80 fr) := by
  obtain ⟨c, hc, _⟩ := h.row
  exact ⟨c, _, hc⟩

theorem SpT.nbt {B : Nat} {w : World} {bt : Nat} {V : Nat → Value} {L : Nat → List Nat} {ov : Value} {bs : List Br} (h : SpT B w bt V L ov bs) (t : Nat) (ht : t < 101) : (V t).ownBlock ≠ some bt := fun e => by
  obtain ⟨_, cs, fr, h1⟩ := owns_typed (h.own t ht) bt e
  obtain ⟨cs', fr', h2⟩ := h.typed
  rw [h1] at h2; cases h2

theorem SpT.obt {B : Nat} {w : World} {bt : Nat} {V : Nat → Value} {L : Nat → List Nat} {ov : Value} {bs : List Br} (h : SpT B w bt V L ov bs) : ov.ownBlock ≠ some bt := fun e => by
  obtain ⟨_, cs, fr, h1⟩ := owns_typed h.out bt e
  obtain ⟨cs', fr', h2⟩ := h.typed
  rw [h1] at h2; cases h2

theorem SpT.oV {B : Nat} {w : World} {bt : Nat} {V : Nat → Value} {L : Nat → List Nat} {ov : Value} {bs : List Br} (h : SpT B w bt V L ov bs) (t : Nat) (ht : t < 101) (g : Nat) (h1 : (V t).ownBlock = some g) (h2 : ov.ownBlock = some g) : False := by
  obtain ⟨_, cs, fr, e1⟩ := owns_typed (h.own t ht) g h1
  obtain ⟨_, cs', fr', e2⟩ := owns_typed h.out g h2
  rw [e1] at e2; cases e2

theorem SpT.below {B : Nat} {w w' : World} {bt : Nat} {V : Nat → Value} {L : Nat → List Nat} {ov : Value} {bs : List Br} (h : SpT B w bt V L ov bs) (hb : Below w.heap.size w w') : SpT B w' bt V L ov bs :=
  ⟨h.hbt, h.row.of_block (hb.block bt h.row.lt), fun t ht => owns_below (h.own t ht) hb, h.dis, owns_below h.out hb⟩

theorem opt_ne {a b : Option Nat} (h : ∀ g, a = some g → b ≠ some g) : a = none ∨ a ≠ b := by
  cases a with
  | none => exact .inl rfl
  | some g => exact .inr (fun e => h g rfl e.symm)

/-- Behind a search for a branch. -/
theorem SpT.branch {B : Nat} {w w' : World} {bt : Nat} {V : Nat → Value} {L : Nat → List Nat} {ov ov' : Value} {bs bs' : List Br} (h : SpT B w bt V L ov bs) (hg : w.grownBy w' ov.ownBlock) (ho : w'.ownsRow B 203 4 ov' bs'.length (brCells bs')) : SpT B w' bt V L ov' bs' :=
  ⟨h.hbt, h.row.of_block (hg.block bt h.row.lt (fun e => h.obt e.symm)), fun t ht => (h.own t ht).kept hg (opt_ne fun g e1 e2 => h.oV t ht g e1 e2), h.dis, ho⟩

/-- A cell of a branch is written. -/
theorem SpT.setOut {B : Nat} {w : World} {bt g cap : Nat} {V : Nat → Value} {L : Nat → List Nat} {bs bs' : List Br} {j : Nat} {u : Value} (h : SpT B w bt V L (.slice (some ⟨g, 0, none⟩) bs.length cap) bs) (hl : bs'.length = bs.length) (hc : (brCells bs).set j u = brCells bs') : SpT B (w.setCell ⟨g, j, none⟩ u) bt V L (.slice (some ⟨g, 0, none⟩) bs'.length cap) bs' := by
  have hgb : g ≠ bt := fun e => h.obt (by rw [e]; rfl)
  refine ⟨h.hbt, h.row.setOther (Ne.symm hgb) _, fun t ht => owns_setCell (h.own t ht) (fun e => h.oV t ht g e rfl), h.dis, ?_⟩
  rw [hl, ← hc]
  exact owns_set h.out j u

/-- The running task's slice has become another one, and is laid into its place. -/
theorem SpT.putRow {B : Nat} {w w2 : World} {bt cu g : Nat} {V : Nat → Value} {L : Nat → List Nat} {ov v' : Value} {bs : List Br} {l : List Nat} (h : SpT B w bt V L ov bs) (hcu : cu < 101) (hg : w.grownBy w2 (V cu).ownBlock) (ho : w2.ownsRow B 3 1 v' l.length (atCells l)) (hv : v'.ownBlock = some g) (hat : (V cu).ownBlock = some g ∨ w.heap.size ≤ g) :
    SpT B (w2.setCell ⟨bt, cu, none⟩ v') bt (fun t => if t = cu then v' else V t) (fun t => if t = cu then l else L t) ov bs := by
  have hbt := h.row.lt
  have n2 : some bt ≠ (V cu).ownBlock := fun e => h.nbt cu hcu e.symm
  have hgt : g ≠ bt := fun e => by
    rcases hat with h1 | h1
    · exact n2 (by rw [h1, e])
    · omega
  refine ⟨h.hbt, (h.row.of_block (hg.block bt hbt n2)).set cu v', fun t ht => ?_, fun t t' ht ht' hne => ?_, ?_⟩
  · show (w2.setCell _ _).ownsRow B _ 1 (if t = cu then v' else V t) (if t = cu then l else L t).length (atCells (if t = cu then l else L t))
    by_cases e : t = cu
    · rw [if_pos e, if_pos e]
      exact owns_setCell ho (by rw [hv]; simpa using hgt)
    · rw [if_neg e, if_neg e]
      exact owns_setCell ((h.own t ht).kept hg (h.dis t cu ht hcu e)) (h.nbt t ht)
  · by_cases e : t = cu
    · by_cases e' : t' = cu
      · exact absurd (e.trans e'.symm) hne
      · rw [if_pos e, if_neg e', hv]
        right
        intro h1
        rcases hat with h2 | h2
        · rcases h.dis t' cu ht' hcu e' with h3 | h3
          · rw [h3] at h1; cases h1
          · exact h3 (by rw [← h1, h2])
        · have := ((h.own t' ht').lt g h1.symm).2; omega
    · by_cases e' : t' = cu
      · rw [if_neg e, if_pos e', hv]
        by_cases h0 : (V t).ownBlock = none
        · exact .inl h0
        · right
          intro h1
          rcases hat with h2 | h2
          · rcases h.dis t cu ht hcu e with h3 | h3
            · exact h0 h3
            · exact h3 (by rw [h1, h2])
          · have := ((h.own t ht).lt g h1).2; omega
      · rw [if_neg e, if_neg e']; exact h.dis t t' ht ht' hne
  · refine owns_setCell (h.out.kept hg (opt_ne fun g' e1 e2 => h.oV cu hcu g' e2 e1)) (h.obt)
end Go.Proofs.YtmnmeaeicjhkhaaGreatDoor

namespace Go.Proofs.YtmnmeaeicjhkhaaGreatDoor
open Go.RowKit

/-- For each task the branches of its open calls, the innermost first. -/
def atL (f : Nat → M) (k t : Nat) : List Nat := ((St.after f k).tasks t).map fun fr => (treeAt f k).br fr.frm

theorem map_same {T : Tree} {l : List Fr} {k : Nat} {i : Nat} (h : ∀ fr, fr ∈ l → fr.frm < (k : Int)) : l.map (fun fr => if fr.frm = (k : Int) then i else T.br fr.frm) = l.map fun fr => T.br fr.frm :=
  List.map_congr_left fun fr hf => by rw [if_neg (by have := h fr hf; omega)]

theorem tree_kind {f : Nat → M} {k : Nat} (h2 : (f k).kind ≠ 2) (h1 : (f k).kind ≠ 1) : treeAt f (k + 1) = treeAt f k := by
  show (treeAt f k).step _ _ _ = _
  unfold Tree.step
  rw [if_neg h2, if_neg h1]

theorem tree_line {f : Nat → M} {k : Nat} (h1 : (f k).kind = 1) : treeAt f (k + 1) = (treeAt f k).line (topFrom ((St.after f k).tasks (St.after f k).cur)) := by
  show (treeAt f k).step _ _ _ = _
  unfold Tree.step
  rw [if_neg (by omega), if_pos h1]

theorem tree_call {f : Nat → M} {k : Nat} (h2 : (f k).kind = 2) : treeAt f (k + 1) = (treeAt f k).call ((treeAt f k).parOf ((St.after f k).tasks (St.after f k).cur)) (f k).fn k := by
  show (treeAt f k).step _ _ _ = _
  unfold Tree.step
  rw [if_pos h2]

theorem atL_turn {f : Nat → M} {k : Nat} (h : (f k).kind = 7) (t : Nat) : atL f (k + 1) t = atL f k t := by
  unfold atL
  rw [tree_kind (by omega) (by omega)]
  show (((St.after f k).step _ _ _ _ _).tasks t).map _ = _
  unfold St.step
  rw [if_pos h]

theorem atL_other {f : Nat → M} {k : Nat} (h7 : (f k).kind ≠ 7) (h2 : (f k).kind ≠ 2) (h1 : (f k).kind ≠ 1) (h3 : (f k).kind ≠ 3) (t : Nat) : atL f (k + 1) t = atL f k t ∧ (St.after f (k + 1)).cur = (St.after f k).cur := by
  have e : St.after f (k + 1) = St.after f k := by
    show (St.after f k).step _ _ _ _ _ = _
    unfold St.step
    rw [if_neg h7, if_neg h2, if_neg h1, if_neg h3]
  unfold atL
  rw [tree_kind h2 h1, e]
  exact ⟨rfl, rfl⟩

theorem atL_line {f : Nat → M} {k : Nat} (h1 : (f k).kind = 1) (t : Nat) : atL f (k + 1) t = atL f k t ∧ (St.after f (k + 1)).cur = (St.after f k).cur := by
  have e : St.after f (k + 1) = (St.after f k).put (setLine (f k).line ((St.after f k).tasks (St.after f k).cur)) := by
    show (St.after f k).step _ _ _ _ _ = _
    unfold St.step
    rw [if_neg (by omega), if_neg (by omega), if_pos h1]
  refine ⟨?_, by rw [e]; rfl⟩
  unfold atL
  rw [tree_line h1, e]
  show ((St.put _ _).tasks t).map (fun fr => (treeAt f k).br fr.frm) = _
  simp only [St.put]
  by_cases et : t = (St.after f k).cur
  · rw [if_pos et, et]
    cases (St.after f k).tasks (St.after f k).cur with
    | nil => rfl
    | cons a r => rfl
  · rw [if_neg et]

theorem atL_back {f : Nat → M} {k : Nat} (h3 : (f k).kind = 3) (t : Nat) : atL f (k + 1) t = (if t = (St.after f k).cur then (atL f k t).tail else atL f k t) ∧ (St.after f (k + 1)).cur = (St.after f k).cur := by
  have e : St.after f (k + 1) = (St.after f k).put ((St.after f k).tasks (St.after f k).cur).tail := by
    show (St.after f k).step _ _ _ _ _ = _
    unfold St.step
    rw [if_neg (by omega), if_neg (by omega), if_neg (by omega), if_pos h3]
  refine ⟨?_, by rw [e]; rfl⟩
  unfold atL
  rw [tree_kind (by omega) (by omega), e]
  simp only [St.put]
  by_cases et : t = (St.after f k).cur
  · rw [if_pos et, if_pos et, et, List.map_tail]
  · rw [if_neg et, if_neg et]

theorem atL_call {f : Nat → M} {k : Nat} (h2 : (f k).kind = 2) (t : Nat) : atL f (k + 1) t = (if t = (St.after f k).cur then brFind (treeAt f k).bs ((treeAt f k).parOf ((St.after f k).tasks (St.after f k).cur)) (f k).fn :: atL f k t else atL f k t) ∧ (St.after f (k + 1)).cur = (St.after f k).cur := by
  have e : St.after f (k + 1) = (St.after f k).put (⟨(f k).fn, 0, k⟩ :: (St.after f k).tasks (St.after f k).cur) := by
    show (St.after f k).step _ _ _ _ _ = _
    unfold St.step
    rw [if_neg (by omega), if_pos h2]
  refine ⟨?_, by rw [e]; rfl⟩
  unfold atL
  rw [tree_call h2, e]
  show ((St.put _ _).tasks t).map (fun fr => if fr.frm = (k : Int) then _ else (treeAt f k).br fr.frm) = _
  simp only [St.put]
  by_cases et : t = (St.after f k).cur
  · rw [if_pos et, if_pos et, List.map_cons, if_pos rfl, map_same (fun fr hf => after_frms f k _ fr hf), et]
  · rw [if_neg et, if_neg et, map_same (fun fr hf => after_frms f k _ fr hf)]

/-- The parent of what is called: the head of the running task's branches. -/
theorem par_head (f : Nat → M) (k : Nat) : (treeAt f k).parOf ((St.after f k).tasks (St.after f k).cur) = match atL f k (St.after f k).cur with | [] => -1 | i :: _ => ((i : Nat) : Int) := by
  unfold atL
  cases (St.after f k).tasks (St.after f k).cur with
  | nil => rfl
  | cons a r => rfl

theorem top_head {f : Nat → M} {k i : Nat} {r : List Nat} (h : atL f k (St.after f k).cur = i :: r) : (treeAt f k).br (topFrom ((St.after f k).tasks (St.after f k).cur)) = i := by
  unfold atL at h
  cases e : (St.after f k).tasks (St.after f k).cur with
  | nil => rw [e] at h; cases h
  | cons a r' => rw [e] at h; injection h

theorem brCells_set : ∀ (l : List Br) (i : Nat) (h : i < l.length), (brCells l).set (i * 4 + 2) (.int .i64 (l[i].calls + 1)) = brCells (l.modify i Br.called) ∧ (brCells l).set (i * 4 + 3) (.int .i64 (l[i].self + 1)) = brCells (l.modify i Br.lined)
  | x :: r, 0, _ => ⟨rfl, rfl⟩
  | x :: r, i + 1, h => by
    obtain ⟨h1, h2⟩ := brCells_set r i (by simpa using h)
    have e : ∀ (x : Br) (r : List Br), brCells (x :: r) = .int .i64 x.fn :: .int .i64 x.par :: .int .i64 x.calls :: .int .i64 x.self :: brCells r := fun _ _ => rfl
    rw [List.modify_succ_cons, List.modify_succ_cons, e, e, e, ← h1, ← h2]
    rw [show (i + 1) * 4 + 2 = i * 4 + 2 + 1 + 1 + 1 + 1 by omega, show (i + 1) * 4 + 3 = i * 4 + 3 + 1 + 1 + 1 + 1 by omega]
    simp only [List.set_cons_succ, List.getElem_cons_succ]
    exact ⟨trivial, trivial⟩
end Go.Proofs.YtmnmeaeicjhkhaaGreatDoor
