/-
  Chapter 2's call tree as plain functions.
-/
import Derived.Test.YtoiacbdnkkolmabC3
namespace Go.Proofs.Ytoiacbdnkkolmab
open Go.RowKit

structure Br where
  fn : Int
  par : Int
  calls : Int
  self : Int

/-- The branches in the order in which they are met, and the branch of each call by its From. -/
structure Tree where
  bs : List Br
  br : Int → Nat

def isBr (par fn : Int) (b : Br) : Bool := decide (b.par = par ∧ b.fn = fn)

/-- The place of a branch; the number of branches where there is none such. -/
def brFind (bs : List Br) (par fn : Int) : Nat := bs.findIdx (isBr par fn)

/-- The branches with that one among them. -/
def brMake (bs : List Br) (par fn : Int) : List Br := if brFind bs par fn < bs.length then bs else bs ++ [⟨fn, par, 0, 0⟩]

def Br.called (b : Br) : Br := ⟨b.fn, b.par, b.calls + 1, b.self⟩
def Br.lined (b : Br) : Br := ⟨b.fn, b.par, b.calls, b.self + 1⟩

def Tree.call (T : Tree) (par fn k : Int) : Tree :=
  ⟨(brMake T.bs par fn).modify (brFind T.bs par fn) Br.called, fun x => if x = k then brFind T.bs par fn else T.br x⟩

def Tree.line (T : Tree) (frm : Int) : Tree := ⟨T.bs.modify (T.br frm) Br.lined, T.br⟩

def Tree.parOf (T : Tree) : List Fr → Int
  | [] => -1
  | fr :: _ => T.br fr.frm

def Tree.init : Tree := ⟨[⟨0, -1, 1, 0⟩], fun _ => 0⟩

def Tree.step (T : Tree) (s : St) (m : M) (k : Int) : Tree :=
  if m.kind = 2 then T.call (T.parOf (s.tasks s.cur)) m.fn k
  else if m.kind = 1 then T.line (topFrom (s.tasks s.cur))
  else T

def treeAt (f : Nat → M) : Nat → Tree
  | 0 => Tree.init
  | k + 1 => (treeAt f k).step (St.after f k) (f k) k

def brCell (b : Br) : Nat → Int
  | 0 => b.fn
  | 1 => b.par
  | 2 => b.calls
  | _ => b.self

def TrAns (nf : Nat) (fns : Nat → ByteArray) (n : Nat) (f : Nat → M) (n' : Nat) (F : Nat → Nat → Int) : Prop :=
  (Sound nf fns n f ∧ n' = (treeAt f n).bs.length ∧ ∀ i j (h : i < (treeAt f n).bs.length), j < 4 → F i j = brCell (treeAt f n).bs[i] j) ∨ (¬ Sound nf fns n f ∧ n' = 0)

theorem TrAns.unique {nf : Nat} {fns : Nat → ByteArray} {n : Nat} {f : Nat → M} {n1 n2 : Nat} {F1 F2 : Nat → Nat → Int} (h1 : TrAns nf fns n f n1 F1) (h2 : TrAns nf fns n f n2 F2) : n1 = n2 ∧ ∀ i j, i < n1 → j < 4 → F1 i j = F2 i j := by
  rcases h1 with ⟨a1, b1, c1⟩ | ⟨a1, b1⟩ <;> rcases h2 with ⟨a2, b2, c2⟩ | ⟨a2, b2⟩
  · exact ⟨by omega, fun i j hi hj => by rw [c1 i j (by omega) hj, c2 i j (by omega) hj]⟩
  · exact absurd a1 a2
  · exact absurd a2 a1
  · exact ⟨by omega, fun i j hi _ => by omega⟩

theorem brFind_le (bs : List Br) (par fn : Int) : brFind bs par fn ≤ bs.length := List.findIdx_le_length

theorem brMake_len (bs : List Br) (par fn : Int) : bs.length ≤ (brMake bs par fn).length ∧ (brMake bs par fn).length ≤ bs.length + 1 ∧ brFind bs par fn < (brMake bs par fn).length := by
  have h := brFind_le bs par fn
  unfold brMake
  split
  · omega
  · rw [List.length_append, List.length_singleton]; omega

/-- What stands of the tree behind k moments. -/
structure TreeOk (T : Tree) (k : Nat) : Prop where
  pos : 1 ≤ T.bs.length
  len : T.bs.length ≤ k + 1
  br : ∀ x, T.br x < T.bs.length
  small : ∀ b, b ∈ T.bs → 0 ≤ b.calls ∧ b.calls ≤ k + 1 ∧ 0 ≤ b.self ∧ b.self ≤ k

theorem mem_modify {α : Type} {g : α → α} {x : α} : ∀ (l : List α) (i : Nat), x ∈ l.modify i g → x ∈ l ∨ ∃ y, y ∈ l ∧ x = g y
  | [], i, h => by simp at h
  | a :: r, 0, h => by
    rw [List.modify_zero_cons] at h
    rcases List.mem_cons.1 h with e | e
    · exact .inr ⟨a, List.mem_cons_self .., e⟩
    · exact .inl (List.mem_cons_of_mem _ e)
  | a :: r, i + 1, h => by
    rw [List.modify_succ_cons] at h
    rcases List.mem_cons.1 h with e | e
    · exact .inl (by rw [e]; exact List.mem_cons_self ..)
    · rcases mem_modify r i e with h1 | ⟨y, h1, h2⟩
      · exact .inl (List.mem_cons_of_mem _ h1)
      · exact .inr ⟨y, List.mem_cons_of_mem _ h1, h2⟩

theorem TreeOk.init : TreeOk Tree.init 0 := by
  refine ⟨by decide, by decide, fun _ => Nat.zero_lt_one, fun b hb => ?_⟩
  rw [show Tree.init.bs = [⟨0, -1, 1, 0⟩] from rfl] at hb
  rw [List.mem_singleton.1 hb]
  decide

theorem TreeOk.step {T : Tree} {k : Nat} (h : TreeOk T k) (s : St) (m : M) (x : Int) : TreeOk (T.step s m x) (k + 1) := by
  unfold Tree.step
  split
  · obtain ⟨l1, l2, l3⟩ := brMake_len T.bs (T.parOf (s.tasks s.cur)) m.fn
    have := h.pos
    have := h.len
    refine ⟨?_, ?_, fun y => ?_, fun b hb => ?_⟩
    · show 1 ≤ (List.modify _ _ _).length; rw [List.length_modify]; omega
    · show (List.modify _ _ _).length ≤ _; rw [List.length_modify]; omega
    · show (if y = x then _ else T.br y) < (List.modify _ _ _).length
      rw [List.length_modify]
      have := h.br y
      split <;> omega
    · have hmk : ∀ b, b ∈ brMake T.bs (T.parOf (s.tasks s.cur)) m.fn → 0 ≤ b.calls ∧ b.calls ≤ k + 1 ∧ 0 ≤ b.self ∧ b.self ≤ k := by
        intro b hb
        unfold brMake at hb
        split at hb
        · exact h.small b hb
        · rcases List.mem_append.1 hb with hb | hb
          · exact h.small b hb
          · rw [List.mem_singleton.1 hb]
            refine ⟨Int.le_refl 0, ?_, Int.le_refl 0, ?_⟩
            · show (0 : Int) ≤ _; omega
            · show (0 : Int) ≤ _; omega
      rcases mem_modify _ _ hb with h1 | ⟨y, h1, rfl⟩
      · have := hmk b h1; omega
      · have := hmk y h1
        simp only [Br.called]
        omega
  · split
    · refine ⟨?_, ?_, fun y => ?_, fun b hb => ?_⟩
      · show 1 ≤ (List.modify _ _ _).length; rw [List.length_modify]; exact h.pos
      · show (List.modify _ _ _).length ≤ _; rw [List.length_modify]; have := h.len; omega
      · show T.br y < (List.modify _ _ _).length; rw [List.length_modify]; exact h.br y
      · rcases mem_modify _ _ hb with h1 | ⟨y, h1, rfl⟩
        · have := h.small b h1; omega
        · have := h.small y h1
          simp only [Br.lined]
          omega
    · exact ⟨h.pos, by have := h.len; omega, h.br, fun b hb => by have := h.small b hb; omega⟩

theorem treeAt_ok (f : Nat → M) : ∀ k, TreeOk (treeAt f k) k
  | 0 => TreeOk.init
  | k + 1 => (treeAt_ok f k).step _ _ _

theorem TrAns.bound {nf : Nat} {fns : Nat → ByteArray} {n : Nat} {f : Nat → M} {n' : Nat} {F : Nat → Nat → Int} (h : TrAns nf fns n f n' F) (_ : nf ≤ 1048576) (hn : n ≤ 1048576) : n' ≤ 1048576 := by
  rcases h with ⟨hs, e, _⟩ | ⟨_, e⟩
  · have := (treeAt_ok f n).len
    have := hs.1.2.2.1
    omega
  · omega

/-- No call has been opened at a moment that is still to come. -/
theorem frms_step {s : St} {m : M} {k : Nat} (h : ∀ t fr, fr ∈ s.tasks t → fr.frm < (k : Int)) : ∀ t fr, fr ∈ (s.step m.kind m.task m.fn m.line k).tasks t → fr.frm < ((k + 1 : Nat) : Int) := by
  have hput : ∀ l : List Fr, (∀ fr, fr ∈ l → fr.frm < ((k + 1 : Nat) : Int)) → ∀ t fr, fr ∈ (s.put l).tasks t → fr.frm < ((k + 1 : Nat) : Int) := by
    intro l hl t fr hf
    simp only [St.put] at hf
    split at hf
    · exact hl fr hf
    · have := h t fr hf; omega
  unfold St.step
  split
  · intro t fr hf; have := h t fr hf; omega
  · split
    · refine hput _ (fun fr hf => ?_)
      rcases List.mem_cons.1 hf with e | e
      · rw [e]; show (k : Int) < _; omega
      · have := h _ _ e; omega
    · split
      · refine hput _ (fun fr hf => ?_)
        cases e2 : s.tasks s.cur with
        | nil => rw [e2] at hf; cases hf
        | cons f0 r =>
          rw [e2] at hf
          rcases List.mem_cons.1 hf with e | e
          · have := h s.cur f0 (by rw [e2]; exact List.mem_cons_self ..)
            rw [e]; show f0.frm < _; omega
          · have := h s.cur fr (by rw [e2]; exact List.mem_cons_of_mem _ e); omega
      · split
        · refine hput _ (fun fr hf => ?_)
          have := h _ _ (List.mem_of_mem_tail hf); omega
        · intro t fr hf; have := h t fr hf; omega

theorem after_frms (f : Nat → M) : ∀ k t fr, fr ∈ (St.after f k).tasks t → fr.frm < (k : Int)
  | 0 => by
    intro t fr hf
    simp only [St.after, St.init] at hf
    split at hf
    · rw [List.mem_singleton.1 hf]; decide
    · cases hf
  | k + 1 => frms_step (after_frms f k)
end Go.Proofs.Ytoiacbdnkkolmab
