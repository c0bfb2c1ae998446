/-
  The plain mathematics of chapter 1: no dump is named here.
-/
import Derived.Test.YtoiacbdnkkolmabBase
namespace Go.Proofs.Ytoiacbdnkkolmab

def SizesOk (nf : Nat) (fns : Nat → ByteArray) (nm : Nat) : Prop := nf ≠ 0 ∧ nf ≤ 300 ∧ nm ≤ 3000 ∧ ∀ i, i < nf → (fns i).size ≤ 40

def VarsOk (n : Nat) (vs : Nat → V) : Prop := n ≤ 200 ∧ ∀ i, i < n → (vs i).name.size ≠ 0 ∧ (vs i).name.size ≤ 40 ∧ (vs i).text.size ≤ 4000

def HeadOk (nf : Nat) (k t fn l : Int) (ts : Nat) : Prop :=
  1 ≤ k ∧ k ≤ 7 ∧ 0 ≤ t ∧ t ≤ 100 ∧ 0 ≤ fn ∧ fn < nf ∧ 0 ≤ l ∧ l ≤ 100000 ∧ ¬ (k = 1 ∧ l = 0) ∧ ts ≤ 4000

def MomentOk (nf : Nat) (m : M) : Prop := HeadOk nf m.kind m.task m.fn m.line m.text.size ∧ VarsOk m.nv m.vars

structure Fr where
  fn : Int
  line : Int
  frm : Int

/-- The open calls of all tasks, the innermost first, and the running one. -/
structure St where
  cur : Nat
  tasks : Nat → List Fr

def St.init : St := ⟨0, fun t => if t = 0 then [⟨0, 0, -1⟩] else []⟩

def topFn : List Fr → Int
  | [] => 0
  | f :: _ => f.fn

def topFrom : List Fr → Int
  | [] => -1
  | f :: _ => f.frm

def setLine (l : Int) : List Fr → List Fr
  | [] => []
  | f :: r => ⟨f.fn, l, f.frm⟩ :: r

/-- The code of what keeps moment m from following, 0 when nothing does. -/
def code (s : St) (kind task fn : Int) : Int :=
  if kind = 7 then 0
  else if task ≠ s.cur then 3
  else if kind = 2 then (if (s.tasks s.cur).length = 200 then 5 else 0)
  else if fn ≠ topFn (s.tasks s.cur) then 4
  else if kind = 1 then (if (s.tasks s.cur).length = 0 then 4 else 0)
  else if kind = 3 then (if topFrom (s.tasks s.cur) < 0 then 4 else 0)
  else 0

def St.put (s : St) (l : List Fr) : St := ⟨s.cur, fun t => if t = s.cur then l else s.tasks t⟩

def St.step (s : St) (kind task fn line : Int) (k : Int) : St :=
  if kind = 7 then ⟨task.toNat, s.tasks⟩
  else if kind = 2 then s.put (⟨fn, 0, k⟩ :: s.tasks s.cur)
  else if kind = 1 then s.put (setLine line (s.tasks s.cur))
  else if kind = 3 then s.put (s.tasks s.cur).tail
  else s

/-- What stands behind k moments. -/
def St.after (moms : Nat → M) : Nat → St
  | 0 => St.init
  | k + 1 => (St.after moms k).step (moms k).kind (moms k).task (moms k).fn (moms k).line k

def codeAt (moms : Nat → M) (k : Nat) : Int := code (St.after moms k) (moms k).kind (moms k).task (moms k).fn

/-- The answer of TraceOk. -/
def Ans (nf : Nat) (fns : Nat → ByteArray) (nm : Nat) (moms : Nat → M) (c m : Int) : Prop :=
  (¬ SizesOk nf fns nm ∧ c = 1 ∧ m = 0) ∨
  (SizesOk nf fns nm ∧ ∃ i : Nat, i < nm ∧ ¬ MomentOk nf (moms i) ∧ (∀ j, j < i → MomentOk nf (moms j)) ∧ c = 2 ∧ m = i) ∨
  (SizesOk nf fns nm ∧ (∀ j, j < nm → MomentOk nf (moms j)) ∧ ∃ i : Nat, i < nm ∧ codeAt moms i ≠ 0 ∧ (∀ j, j < i → codeAt moms j = 0) ∧ c = codeAt moms i ∧ m = i) ∨
  (SizesOk nf fns nm ∧ (∀ j, j < nm → MomentOk nf (moms j)) ∧ (∀ j, j < nm → codeAt moms j = 0) ∧ c = 0 ∧ m = 0)

theorem first_unique {p : Nat → Prop} {i j : Nat} (hi : ¬ p i) (hi' : ∀ k, k < i → p k) (hj : ¬ p j) (hj' : ∀ k, k < j → p k) : i = j := by
  rcases Nat.lt_trichotomy i j with h | h | h
  · exact absurd (hj' i h) hi
  · exact h
  · exact absurd (hi' j h) hj

theorem Ans.unique {nf : Nat} {fns : Nat → ByteArray} {nm : Nat} {moms : Nat → M} {c m c' m' : Int} (h : Ans nf fns nm moms c m) (h' : Ans nf fns nm moms c' m') : c = c' ∧ m = m' := by
  rcases h with ⟨a, rfl, rfl⟩ | ⟨a, i, hi, b, d, rfl, rfl⟩ | ⟨a, b, i, hi, d, e, rfl, rfl⟩ | ⟨a, b, d, rfl, rfl⟩ <;>
  rcases h' with ⟨a', rfl, rfl⟩ | ⟨a', i', hi', b', d', rfl, rfl⟩ | ⟨a', b', i', hi', d', e', rfl, rfl⟩ | ⟨a', b', d', rfl, rfl⟩
  all_goals first
    | exact ⟨rfl, rfl⟩
    | exact absurd a' a
    | exact absurd a a'
    | exact absurd (b' _ hi) b
    | exact absurd (b _ hi') b'
    | exact absurd (d' _ hi) d
    | exact absurd (d _ hi') d'
    | skip
  · have := first_unique (p := fun i => MomentOk nf (moms i)) b d b' d'
    subst this; exact ⟨rfl, rfl⟩
  · have := first_unique (p := fun i => codeAt moms i = 0) d e d' e'
    subst this; exact ⟨rfl, rfl⟩

end Go.Proofs.Ytoiacbdnkkolmab
