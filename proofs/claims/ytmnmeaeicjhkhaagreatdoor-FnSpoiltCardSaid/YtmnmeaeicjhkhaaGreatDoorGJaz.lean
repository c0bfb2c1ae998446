import Derived.Test.YtmnmeaeicjhkhaaGreatDoorGCaz
import Derived.Maps.OwnOps
import Derived.Maps.OwnSet
import Derived.Maps.Views
import Derived.DeepKeys4
import Derived.WideKeyEntry
import Derived.RangeFuncSeq
import Derived.RangeFuncKeeps
import Derived.RangeFuncWrites
import Derived.RangeFuncBox
import Derived.RangeFuncLeaves
import Derived.Sort.MapsRangeIn
import Derived.Shelf.Abstract
import Derived.WalkKit
import Derived.OwnWalkIn
import Derived.TacticsInMore
import Derived.RegionIn
import Derived.LoopNIn
import Derived.LoopIn
import Derived.Maps.AppendAt
import Derived.RangeFuncNested
/-
  Chapter 2's counts by line as plain functions.
-/
namespace Go.Proofs.YtmnmeaeicjhkhaaGreatDoor
open Go.RowKit

structure Lc where
  fn : Int
  line : Int
  cnt : Int

/-- How often line b of fn a has begun behind k moments. -/
def lcN (f : Nat → M) : Nat → Int → Int → Int
  | 0, _, _ => 0
  | k + 1, a, b => lcN f k a b + if (f k).kind = 1 ∧ (f k).fn = a ∧ (f k).line = b then 1 else 0

/-- How many lines have begun behind k moments. -/
def lnN (f : Nat → M) : Nat → Int
  | 0 => 0
  | k + 1 => lnN f k + if (f k).kind = 1 then 1 else 0

theorem lcN_succ (f : Nat → M) (k : Nat) (a b : Int) : lcN f (k + 1) a b = lcN f k a b + if (f k).kind = 1 ∧ (f k).fn = a ∧ (f k).line = b then 1 else 0 := rfl
theorem lnN_succ (f : Nat → M) (k : Nat) : lnN f (k + 1) = lnN f k + if (f k).kind = 1 then 1 else 0 := rfl

theorem lcN_bound (f : Nat → M) (a b : Int) : ∀ k, 0 ≤ lcN f k a b ∧ lcN f k a b ≤ k
  | 0 => ⟨Int.le_refl _, Int.le_refl _⟩
  | k + 1 => by
    have h := lcN_bound f a b k
    rw [lcN_succ]
    split <;> omega

theorem lnN_bound (f : Nat → M) : ∀ k, 0 ≤ lnN f k ∧ lnN f k ≤ k
  | 0 => ⟨Int.le_refl _, Int.le_refl _⟩
  | k + 1 => by
    have h := lnN_bound f k
    rw [lnN_succ]
    split <;> omega

def lcLt (x y : Lc) : Prop := x.fn < y.fn ∨ (x.fn = y.fn ∧ x.line < y.line)

theorem lcLt_not {x y : Lc} (h : lcLt x y) : ¬ lcLt y x := by unfold lcLt at *; omega
theorem lcLt_trans {x y z : Lc} (h : lcLt x y) (h2 : lcLt y z) : lcLt x z := by unfold lcLt at *; omega

/-- The rows of the counts by line behind k moments. -/
structure LcIs (f : Nat → M) (k : Nat) (l : List Lc) : Prop where
  sorted : l.Pairwise lcLt
  cnt : ∀ r, r ∈ l → r.cnt = lcN f k r.fn r.line ∧ 1 ≤ r.cnt
  all : ∀ a b, 1 ≤ lcN f k a b → ∃ r, r ∈ l ∧ r.fn = a ∧ r.line = b

theorem sorted_one {α : Type} {R : α → α → Prop} (asy : ∀ x y, R x y → ¬ R y x) : ∀ l1 l2 : List α, l1.Pairwise R → l2.Pairwise R → (∀ x, x ∈ l1 ↔ x ∈ l2) → l1 = l2
  | [], [], _, _, _ => rfl
  | [], b :: r, _, _, h => by have := (h b).2 (List.mem_cons_self ..); cases this
  | a :: r, [], _, _, h => by have := (h a).1 (List.mem_cons_self ..); cases this
  | a :: r, b :: q, h1, h2, h => by
    obtain ⟨a1, r1⟩ := List.pairwise_cons.1 h1
    obtain ⟨b1, q1⟩ := List.pairwise_cons.1 h2
    have e : a = b := by
      rcases List.mem_cons.1 ((h a).1 (List.mem_cons_self ..)) with e | e
      · exact e
      · rcases List.mem_cons.1 ((h b).2 (List.mem_cons_self ..)) with e2 | e2
        · exact e2.symm
        · exact absurd (a1 b e2) (asy _ _ (b1 a e))
    subst e
    have ir : ∀ x, ¬ R x x := fun x hx => asy x x hx hx
    rw [sorted_one asy r q r1 q1 (fun x => ⟨fun hx => ?_, fun hx => ?_⟩)]
    · rcases List.mem_cons.1 ((h x).1 (List.mem_cons_of_mem _ hx)) with e | e
      · subst e; exact absurd (a1 x hx) (ir x)
      · exact e
    · rcases List.mem_cons.1 ((h x).2 (List.mem_cons_of_mem _ hx)) with e | e
      · subst e; exact absurd (b1 x hx) (ir x)
      · exact e

theorem LcIs.unique {f : Nat → M} {k : Nat} {l1 l2 : List Lc} (h1 : LcIs f k l1) (h2 : LcIs f k l2) : l1 = l2 := by
  have side : ∀ {p q : List Lc}, LcIs f k p → LcIs f k q → ∀ x, x ∈ p → x ∈ q := by
    intro p q hp hq x hx
    obtain ⟨e, hc⟩ := hp.cnt x hx
    obtain ⟨r, hr, ea, eb⟩ := hq.all x.fn x.line (by omega)
    have er := (hq.cnt r hr).1
    have : r = x := by
      cases r; cases x
      simp only at e er ea eb ⊢
      subst ea eb
      rw [er, e]
    rw [← this]; exact hr
  exact sorted_one (fun x y h => lcLt_not h) l1 l2 h1.sorted h2.sorted (fun x => ⟨side h1 h2 x, side h2 h1 x⟩)

def lcBump (a b : Int) (r : Lc) : Lc := if r.fn = a ∧ r.line = b then ⟨r.fn, r.line, r.cnt + 1⟩ else r

theorem lcBump_fn (a b : Int) (r : Lc) : (lcBump a b r).fn = r.fn := by unfold lcBump; split <;> rfl
theorem lcBump_line (a b : Int) (r : Lc) : (lcBump a b r).line = r.line := by unfold lcBump; split <;> rfl

def lcKey (a b : Int) (r : Lc) : Bool := decide (r.fn = a ∧ r.line = b)

theorem LcIs.zero (f : Nat → M) : LcIs f 0 [] := ⟨.nil, fun r hr => (by cases hr), fun a b h => (by have : (1 : Int) ≤ 0 := h; omega)⟩

theorem LcIs.skip {f : Nat → M} {k : Nat} {l : List Lc} (h : LcIs f k l) (hk : (f k).kind ≠ 1) : LcIs f (k + 1) l := by
  have e : ∀ a b, lcN f (k + 1) a b = lcN f k a b := fun a b => by rw [lcN_succ, if_neg (fun h => hk h.1)]; omega
  exact ⟨h.sorted, fun r hr => by rw [e]; exact h.cnt r hr, fun a b hab => h.all a b (by rw [← e]; exact hab)⟩

theorem LcIs.bump {f : Nat → M} {k : Nat} {l : List Lc} (h : LcIs f k l) (hk : (f k).kind = 1) (hm : l.any (lcKey (f k).fn (f k).line) = true) : LcIs f (k + 1) (l.map (lcBump (f k).fn (f k).line)) := by
  refine ⟨?_, fun r hr => ?_, fun a b hab => ?_⟩
  · refine List.pairwise_map.2 (h.sorted.imp ?_)
    intro x y hxy
    unfold lcLt
    rw [lcBump_fn, lcBump_fn, lcBump_line, lcBump_line]
    exact hxy
  · obtain ⟨r0, h0, rfl⟩ := List.mem_map.1 hr
    obtain ⟨e, hc⟩ := h.cnt r0 h0
    rw [lcBump_fn, lcBump_line, lcN_succ]
    unfold lcBump
    by_cases e2 : r0.fn = (f k).fn ∧ r0.line = (f k).line
    · rw [if_pos e2, if_pos ⟨hk, e2.1.symm, e2.2.symm⟩]
      show r0.cnt + 1 = _ ∧ 1 ≤ r0.cnt + 1
      omega
    · rw [if_neg e2, if_neg (fun h => e2 ⟨h.2.1.symm, h.2.2.symm⟩)]
      omega
  · by_cases e2 : (f k).fn = a ∧ (f k).line = b
    · obtain ⟨r, hr, hrk⟩ := List.any_eq_true.1 hm
      have := of_decide_eq_true hrk
      exact ⟨_, List.mem_map_of_mem hr, by rw [lcBump_fn]; omega, by rw [lcBump_line]; omega⟩
    · rw [lcN_succ, if_neg (fun h => e2 h.2)] at hab
      obtain ⟨r, hr, ea, eb⟩ := h.all a b (by omega)
      exact ⟨_, List.mem_map_of_mem hr, by rw [lcBump_fn]; exact ea, by rw [lcBump_line]; exact eb⟩

theorem LcIs.ins {f : Nat → M} {k : Nat} {l : List Lc} (h : LcIs f k l) (hk : (f k).kind = 1) (hm : l.any (lcKey (f k).fn (f k).line) = false) (p : Nat)
    (hp : ∀ r, r ∈ l.take p → lcLt r ⟨(f k).fn, (f k).line, 1⟩) (hq : ∀ r, r ∈ l.drop p → lcLt ⟨(f k).fn, (f k).line, 1⟩ r) : LcIs f (k + 1) (l.take p ++ ⟨(f k).fn, (f k).line, 1⟩ :: l.drop p) := by
  have hsp := h.sorted
  rw [← List.take_append_drop p l] at hsp
  obtain ⟨s1, s2, s3⟩ := List.pairwise_append.1 hsp
  have hno : ∀ r, r ∈ l → ¬ (r.fn = (f k).fn ∧ r.line = (f k).line) := fun r hr e => by
    have := List.any_eq_false.1 hm r hr
    exact this (decide_eq_true e)
  have hmem : ∀ r, r ∈ l.take p ++ ⟨(f k).fn, (f k).line, 1⟩ :: l.drop p ↔ r = ⟨(f k).fn, (f k).line, 1⟩ ∨ r ∈ l := fun r => by
    rw [List.mem_append, List.mem_cons]
    constructor
    · rintro (e | e | e)
      · exact .inr (List.mem_of_mem_take e)
      · exact .inl e
      · exact .inr (List.mem_of_mem_drop e)
    · rintro (e | e)
      · exact .inr (.inl e)
      · rw [← List.take_append_drop p l] at e
        rcases List.mem_append.1 e with e | e
        · exact .inl e
        · exact .inr (.inr e)
  have h0 : lcN f k (f k).fn (f k).line = 0 := by
    have hb := lcN_bound f (f k).fn (f k).line k
    by_cases e : 1 ≤ lcN f k (f k).fn (f k).line
    · obtain ⟨r, hr, e⟩ := h.all _ _ e
      exact absurd e (hno r hr)
    · omega
  refine ⟨?_, fun r hr => ?_, fun a b hab => ?_⟩
  · refine List.pairwise_append.2 ⟨s1, List.pairwise_cons.2 ⟨hq, s2⟩, fun x hx y hy => ?_⟩
    rcases List.mem_cons.1 hy with e | e
    · subst e; exact hp x hx
    · exact s3 x hx y e
  · rcases (hmem r).1 hr with e | e
    · subst e
      rw [lcN_succ, if_pos ⟨hk, rfl, rfl⟩, h0]
      exact ⟨rfl, Int.le_refl _⟩
    · rw [lcN_succ, if_neg (fun h => hno r e ⟨h.2.1.symm, h.2.2.symm⟩)]
      have := h.cnt r e
      omega
  · by_cases e2 : (f k).fn = a ∧ (f k).line = b
    · exact ⟨_, (hmem _).2 (.inl rfl), e2.1, e2.2⟩
    · rw [lcN_succ, if_neg (fun h => e2 h.2)] at hab
      obtain ⟨r, hr, e⟩ := h.all a b (by omega)
      exact ⟨r, (hmem r).2 (.inr hr), e⟩

theorem lc_split (x : Lc) : ∀ l : List Lc, l.Pairwise lcLt → (∀ r, r ∈ l → ¬ (r.fn = x.fn ∧ r.line = x.line)) → ∃ p, p ≤ l.length ∧ (∀ r, r ∈ l.take p → lcLt r x) ∧ (∀ r, r ∈ l.drop p → lcLt x r)
  | [], _, _ => ⟨0, Nat.le_refl _, fun r hr => (by cases hr), fun r hr => (by cases hr)⟩
  | a :: t, hs, hn => by
    obtain ⟨a1, t1⟩ := List.pairwise_cons.1 hs
    by_cases e : lcLt a x
    · obtain ⟨p, h1, h2, h3⟩ := lc_split x t t1 (fun r hr => hn r (List.mem_cons_of_mem _ hr))
      refine ⟨p + 1, by simpa using h1, fun r hr => ?_, h3⟩
      rw [List.take_succ_cons] at hr
      rcases List.mem_cons.1 hr with e2 | e2
      · rw [e2]; exact e
      · exact h2 r e2
    · have hx : lcLt x a := by
        have := hn a (List.mem_cons_self ..)
        unfold lcLt at *
        omega
      refine ⟨0, Nat.zero_le _, fun r hr => (by cases hr), fun r hr => ?_⟩
      rcases List.mem_cons.1 hr with e2 | e2
      · rw [e2]; exact hx
      · exact lcLt_trans hx (a1 r e2)

def lcSum (l : List Lc) : Int := (l.map Lc.cnt).sum

theorem lcSum_cons (r : Lc) (l : List Lc) : lcSum (r :: l) = r.cnt + lcSum l := by unfold lcSum; rw [List.map_cons, List.sum_cons]
theorem lcSum_app : ∀ a b : List Lc, lcSum (a ++ b) = lcSum a + lcSum b
  | [], b => by show lcSum b = 0 + lcSum b; omega
  | r :: a, b => by rw [List.cons_append, lcSum_cons, lcSum_cons, lcSum_app a b]; omega

theorem lcSum_bump (a b : Int) : ∀ l : List Lc, l.Pairwise lcLt → lcSum (l.map (lcBump a b)) = lcSum l + if l.any (lcKey a b) then 1 else 0
  | [], _ => rfl
  | r :: t, hs => by
    obtain ⟨r1, t1⟩ := List.pairwise_cons.1 hs
    have ih := lcSum_bump a b t t1
    rw [List.map_cons, lcSum_cons, lcSum_cons, ih, List.any_cons]
    by_cases e : r.fn = a ∧ r.line = b
    · have hr : lcKey a b r = true := decide_eq_true e
      have hn : t.any (lcKey a b) = false := List.any_eq_false.2 (fun x hx hk => by
        have := of_decide_eq_true hk
        have h := r1 x hx
        unfold lcLt at h
        omega)
      rw [hr, hn]
      have : (lcBump a b r).cnt = r.cnt + 1 := by unfold lcBump; rw [if_pos e]
      rw [this]
      simp only [Bool.true_or, if_true, Bool.false_eq_true, if_false]
      omega
    · have hr : lcKey a b r = false := decide_eq_false e
      have : lcBump a b r = r := by unfold lcBump; rw [if_neg e]
      rw [hr, Bool.false_or, this]
      omega

/-- There are such rows, no more than moments, and they add up. -/
theorem LcIs.exists (f : Nat → M) : ∀ k, ∃ l, LcIs f k l ∧ l.length ≤ k ∧ lcSum l = lnN f k
  | 0 => ⟨[], LcIs.zero f, Nat.le_refl _, rfl⟩
  | k + 1 => by
    obtain ⟨l, h, hl, hs⟩ := LcIs.exists f k
    by_cases hk : (f k).kind = 1
    · cases hm : l.any (lcKey (f k).fn (f k).line) with
      | true =>
        refine ⟨_, h.bump hk hm, by rw [List.length_map]; omega, ?_⟩
        rw [lcSum_bump _ _ _ h.sorted, hm, hs, lnN_succ, if_pos hk]; rfl
      | false =>
        obtain ⟨p, hp, h1, h2⟩ := lc_split ⟨(f k).fn, (f k).line, 1⟩ l h.sorted (fun r hr e => List.any_eq_false.1 hm r hr (decide_eq_true e))
        refine ⟨_, h.ins hk hm p h1 h2, ?_, ?_⟩
        · rw [List.length_append, List.length_cons, List.length_take, List.length_drop]; omega
        · have e : lcSum l = lcSum (l.take p) + lcSum (l.drop p) := by rw [← lcSum_app, List.take_append_drop]
          rw [lcSum_app, lcSum_cons, lnN_succ, if_pos hk, ← hs, e]
          show _ + (1 + _) = _
          omega
    · exact ⟨l, h.skip hk, by omega, by rw [lnN_succ, if_neg hk, hs]; omega⟩

theorem LcIs.len {f : Nat → M} {k : Nat} {l : List Lc} (h : LcIs f k l) : l.length ≤ k := by
  obtain ⟨l', h', hl, _⟩ := LcIs.exists f k
  rw [h.unique h']; exact hl

theorem LcIs.sum {f : Nat → M} {k : Nat} {l : List Lc} (h : LcIs f k l) : lcSum l = lnN f k := by
  obtain ⟨l', h', _, hl⟩ := LcIs.exists f k
  rw [h.unique h']; exact hl

def lcCell (r : Lc) : Nat → Int
  | 0 => r.fn
  | 1 => r.line
  | _ => r.cnt

def LcAns (nf : Nat) (fns : Nat → ByteArray) (n : Nat) (f : Nat → M) (n' : Nat) (F : Nat → Nat → Int) : Prop :=
  (Sound nf fns n f ∧ ∃ l, LcIs f n l ∧ n' = l.length ∧ ∀ i j (h : i < l.length), j < 3 → F i j = lcCell l[i] j) ∨ (¬ Sound nf fns n f ∧ n' = 0)

theorem LcAns.unique {nf : Nat} {fns : Nat → ByteArray} {n : Nat} {f : Nat → M} {n1 n2 : Nat} {F1 F2 : Nat → Nat → Int} (h1 : LcAns nf fns n f n1 F1) (h2 : LcAns nf fns n f n2 F2) : n1 = n2 ∧ ∀ i j, i < n1 → j < 3 → F1 i j = F2 i j := by
  rcases h1 with ⟨a1, l1, i1, b1, c1⟩ | ⟨a1, b1⟩ <;> rcases h2 with ⟨a2, l2, i2, b2, c2⟩ | ⟨a2, b2⟩
  · have e := i1.unique i2
    subst e
    exact ⟨by omega, fun i j hi hj => by rw [c1 i j (by omega) hj, c2 i j (by omega) hj]⟩
  · exact absurd a1 a2
  · exact absurd a2 a1
  · exact ⟨by omega, fun i j hi _ => by omega⟩

theorem LcAns.bound {nf : Nat} {fns : Nat → ByteArray} {n : Nat} {f : Nat → M} {n' : Nat} {F : Nat → Nat → Int} (h : LcAns nf fns n f n' F) (_ : nf ≤ 1048576) (hn : n ≤ 1048576) : n' ≤ 1048576 := by
  rcases h with ⟨hs, l, hl, e, _⟩ | ⟨_, e⟩
  · have := hl.len
    omega
  · omega

def lcCells (l : List Lc) : List Value := l.flatMap fun r => [.int .i64 r.fn, .int .i64 r.line, .int .i64 r.cnt]

theorem lcCells_cons (r : Lc) (l : List Lc) : lcCells (r :: l) = .int .i64 r.fn :: .int .i64 r.line :: .int .i64 r.cnt :: lcCells l := rfl

theorem lcCells_app (a b : List Lc) : lcCells (a ++ b) = lcCells a ++ lcCells b := List.flatMap_append ..

theorem lcCells_len : ∀ l : List Lc, (lcCells l).length = l.length * 3
  | [] => rfl
  | r :: t => by rw [lcCells_cons]; simp only [List.length_cons, lcCells_len t]; omega

theorem lcCells_get : ∀ (l : List Lc) (i : Nat) (h : i < l.length), (lcCells l)[i * 3]? = some (.int .i64 l[i].fn) ∧ (lcCells l)[i * 3 + 1]? = some (.int .i64 l[i].line) ∧ (lcCells l)[i * 3 + 2]? = some (.int .i64 l[i].cnt)
  | x :: r, 0, _ => ⟨rfl, rfl, rfl⟩
  | x :: r, i + 1, h => by
    have ih := lcCells_get r i (by simpa using h)
    rw [lcCells_cons, show (i + 1) * 3 = i * 3 + 1 + 1 + 1 by omega]
    simpa only [List.getElem?_cons_succ, List.getElem_cons_succ] using ih

theorem lcCells_set : ∀ (l : List Lc) (i : Nat) (x : Lc), i < l.length → (((lcCells l).set (i * 3) (.int .i64 x.fn)).set (i * 3 + 1) (.int .i64 x.line)).set (i * 3 + 2) (.int .i64 x.cnt) = lcCells (l.set i x)
  | r :: t, 0, x, _ => rfl
  | r :: t, i + 1, x, h => by
    have ih := lcCells_set t i x (by simpa using h)
    rw [List.set_cons_succ, lcCells_cons, lcCells_cons, ← ih, show (i + 1) * 3 = i * 3 + 1 + 1 + 1 by omega]
    simp only [List.set_cons_succ]

theorem lcCells_set2 : ∀ (l : List Lc) (i : Nat) (x : Int) (h : i < l.length), (lcCells l).set (i * 3 + 2) (.int .i64 x) = lcCells (l.set i ⟨l[i].fn, l[i].line, x⟩)
  | r :: t, 0, x, _ => rfl
  | r :: t, i + 1, x, h => by
    have ih := lcCells_set2 t i x (by simpa using h)
    rw [List.set_cons_succ, lcCells_cons, lcCells_cons, List.getElem_cons_succ, ← ih, show (i + 1) * 3 + 2 = i * 3 + 2 + 1 + 1 + 1 by omega]
    simp only [List.set_cons_succ]
end Go.Proofs.YtmnmeaeicjhkhaaGreatDoor

/-
  The map of LineCounts: how often a line of a fn has begun.
-/
namespace Go.Proofs.YtmnmeaeicjhkhaaGreatDoor
open Go.RowKit Go.Maps

theorem ownsLow {w : World} {B B' : Nat} {e : TypeId} {z : Nat} {v : Value} {n : Nat} {xs : List Value} (h : w.ownsRow B e z v n xs) (hB : B' ≤ B) : w.ownsRow B' e z v n xs := by
  refine ⟨h.1, ?_⟩
  rcases h.2 with hn | ⟨g, cap, cur, hv, hb, rest⟩
  · exact .inl hn
  · exact .inr ⟨g, cap, cur, hv, by omega, rest⟩

theorem ownsTyped {w : World} {B : Nat} {e : TypeId} {z : Nat} {v : Value} {n : Nat} {xs : List Value} (h : w.ownsRow B e z v n xs) : ∀ g, v.ownBlock = some g → B ≤ g ∧ ∃ cs fr, w.heap[g]? = some (.cells cs e fr) := by
  intro g hg
  rcases h.2 with ⟨e1, _⟩ | ⟨g', cap, cur, e1, hB, hh, _⟩
  · rw [e1] at hg; cases hg
  · rw [e1] at hg; cases hg; exact ⟨hB, cur, _, hh⟩

theorem optNe {a b : Option Nat} (h : ∀ g, a = some g → b ≠ some g) : a = none ∨ a ≠ b := by
  cases a with
  | none => exact .inl rfl
  | some g => exact .inr (fun e => h g rfl e.symm)

theorem laidOutN : laidOutB Tryz.prog = true := by kernel_rfl
theorem rowN : (185 : TypeId) < Tryz.prog.types.size := of_decide_eq_true (by kernel_rfl)
theorem cellsN : Tryz.prog.cellsOf 185 = 2 := by kernel_rfl
theorem cellsNI : Tryz.prog.cellsOf 3 = 1 := by kernel_rfl
theorem deepN : Tryz.prog.keyType 185 = true := by kernel_rfl
theorem wideN : (match Tryz.prog.underlying 185 with | some (.array _ _) | some (.struct _) => true | _ => false) = true := by kernel_rfl
set_option maxRecDepth 100000 in
theorem klawN : Go.WideMaps.KeyLaw Tryz.prog 185 := deep_law_laid laidOutN (m := 3) (by omega) rowN (by kernel_rfl) wideN
theorem lawN : Keyed Tryz.prog 185 := Keyed.of_law klawN

structure Lk where
  fn : Int
  line : Int
  deriving Inhabited

abbrev lkV (p : Lk) : Value := .agg #[.int .i64 p.fn, .int .i64 p.line]

theorem lkV_inj {p q : Lk} (h : lkV p = lkV q) : p = q := by
  cases p; cases q
  simpa [lkV] using h

def lkLit (p : Lk) : Lit := .string (keyBytes [.int .i64 p.fn, .int .i64 p.line])

theorem types_two : ∃ m, Tryz.prog.types.size + 1 = m + 1 + 1 := ⟨Tryz.prog.types.size - 1, by
  have h : 0 < Tryz.prog.types.size := Nat.lt_of_le_of_lt (Nat.zero_le _) rowN
  generalize Tryz.prog.types.size = z at h
  omega⟩

set_option maxRecDepth 100000 in
theorem lk_ok (p : Lk) (ha : (Lit.int .i64 p.fn).wf = true) (hb : (Lit.int .i64 p.line).wf = true) : keyOf Tryz.prog 185 (lkV p) = some (lkLit p) := by
  obtain ⟨m, hm⟩ := types_two
  unfold keyOf lkV
  rw [Tryz.underlying185]
  have hfo : (Value.agg #[.int .i64 p.fn, .int .i64 p.line]).formed Tryz.prog 185 = true := by simp [Value.formed, Tryz.underlying185, cellsN]
  have hk : Tryz.prog.keyLits (Tryz.prog.types.size + 1) 185 (Value.agg #[.int .i64 p.fn, .int .i64 p.line]).cells.toList = some [.int .i64 p.fn, .int .i64 p.line] := by
    rw [hm]
    simp [Program.keyLits, Tryz.underlying185, Tryz.underlying3, cellsN, cellsNI, Value.cells, ha, hb]
  simp only [deepN, hfo, hk]
  rfl

set_option maxRecDepth 100000 in
theorem intLit_inv {m : Nat} {cs : List Value} {l : List Lit} (h : Tryz.prog.keyLits (m + 1) 3 cs = some l) : ∃ x : Int, cs = [.int .i64 x] ∧ (Lit.int .i64 x).wf = true := by
  cases cs with
  | nil => simp [Program.keyLits, Tryz.underlying3] at h
  | cons c r =>
    cases r with
    | cons c' r' => simp [Program.keyLits, Tryz.underlying3] at h
    | nil =>
      cases c with
      | int q x =>
        simp [Program.keyLits, Tryz.underlying3] at h
        obtain ⟨⟨rfl, h2⟩, -⟩ := h
        exact ⟨x, rfl, h2⟩
      | _ => simp [Program.keyLits, Tryz.underlying3] at h

set_option maxRecDepth 100000 in
theorem lk_inv {v : Value} {l : Lit} (h : keyOf Tryz.prog 185 v = some l) : ∃ p : Lk, v = lkV p ∧ (Lit.int .i64 p.fn).wf = true ∧ (Lit.int .i64 p.line).wf = true := by
  obtain ⟨m, hm⟩ := types_two
  unfold keyOf at h
  rw [Tryz.underlying185] at h
  simp only at h
  split at h
  · rename_i hf
    rw [Bool.and_eq_true] at hf
    obtain ⟨-, hf⟩ := hf
    cases v with
    | agg cs =>
      have hsz : cs.size = 2 := by simpa [Value.formed, Tryz.underlying185, cellsN] using hf
      obtain ⟨c0, c1, rfl⟩ : ∃ c0 c1, cs = #[c0, c1] := by
        obtain ⟨l0⟩ := cs
        match l0, hsz with
        | [c0, c1], _ => exact ⟨c0, c1, rfl⟩
      rw [hm] at h
      simp only [Value.cells] at h
      cases e : Tryz.prog.keyLits (m + 1 + 1) 185 [c0, c1] with
      | none => rw [e] at h; cases h
      | some ls =>
        clear h
        unfold Program.keyLits at e
        rw [Tryz.underlying185] at e
        simp [cellsN, cellsNI, Option.bind_eq_some_iff] at e
        obtain ⟨l1, h1, l2, ⟨l3, h2, -⟩, -⟩ := e
        obtain ⟨x, e1, w1⟩ := intLit_inv h1
        obtain ⟨y, e2, w2⟩ := intLit_inv h2
        cases e1; cases e2
        exact ⟨⟨x, y⟩, rfl, w1, w2⟩
    | _ => simp [Value.formed, Tryz.underlying185] at hf
  · cases h

theorem lkLit_inj {p q : Lk} (ha : (Lit.int .i64 p.fn).wf = true) (hb : (Lit.int .i64 p.line).wf = true) (ha' : (Lit.int .i64 q.fn).wf = true) (hb' : (Lit.int .i64 q.line).wf = true) (h : lkLit p = lkLit q) : p = q :=
  lkV_inj (lawN.inj (lk_ok p ha hb) (by rw [h]; exact lk_ok q ha' hb'))

abbrev cntDat (x : Int) : DataW Unit := .lit (.int .i64 x)

/-- Block b is the map: g tells how often. -/
def LineMap (w : World) (b n : Nat) (D : DataW Unit) (g : Int → Int → Int) : Prop :=
  w.ownsMap Tryz.prog 185 (plainElem Tryz.prog 3) b n D ∧ ∀ p : Lk, (Lit.int .i64 p.fn).wf = true → (Lit.int .i64 p.line).wf = true → (has D (lkLit p) = true ↔ 1 ≤ g p.fn p.line) ∧ D.atKey (lkLit p) (cntDat 0) = cntDat (g p.fn p.line)

theorem LineMap.made (w : World) : LineMap (w.alloc (.map #[] 0)) w.heap.size 0 (.map []) (fun _ _ => 0) :=
  ⟨World.ownsMap_made _ _ _ _, fun _ _ _ => ⟨⟨fun h => (by cases h), fun h => absurd (show (1 : Int) ≤ 0 from h) (by decide)⟩, rfl⟩⟩

theorem LineMap.lt {w : World} {b n : Nat} {D : DataW Unit} {g : Int → Int → Int} (h : LineMap w b n D g) : b < w.heap.size := h.1.lt

theorem LineMap.of_block {w w' : World} {b n : Nat} {D : DataW Unit} {g : Int → Int → Int} (h : LineMap w b n D g) (hb : w'.heap[b]? = w.heap[b]?) : LineMap w' b n D g := by
  obtain ⟨⟨es, c, h1, h2⟩, h3⟩ := h
  exact ⟨⟨es, c, hb.trans h1, h2⟩, h3⟩

theorem LineMap.below {w w' : World} {b n : Nat} {D : DataW Unit} {g : Int → Int → Int} (h : LineMap w b n D g) (hb : Below w.heap.size w w') : LineMap w' b n D g := h.of_block (hb.block b h.lt)

theorem LineMap.mono {w : World} {b n n' : Nat} {D : DataW Unit} {g : Int → Int → Int} (h : LineMap w b n D g) (hn : n ≤ n') : LineMap w b n' D g := ⟨h.1.mono hn, h.2⟩

theorem LineMap.congr {w : World} {b n : Nat} {D : DataW Unit} {g g' : Int → Int → Int} (h : LineMap w b n D g) (e : ∀ a c, g a c = g' a c) : LineMap w b n D g' := ⟨h.1, fun p h1 h2 => by rw [← e]; exact h.2 p h1 h2⟩

theorem zero_int (w : World) : (zeroValue 3).run Tryz.prog w = .ok (.int .i64 0) w := by kernel_rfl

set_option maxRecDepth 100000 in
theorem plain_back {v : Value} {x : Int} {ps : List MemPlace} (h : plainElem Tryz.prog 3 v = some (cntDat x, ps)) : v = .int .i64 x := by
  obtain ⟨a, rfl, e, _⟩ := plainElem_int_inv (H := Unit) Tryz.underlying3 h
  injection e with e1 e2
  unfold cntDat at e1
  injection e1 with e1
  injection e1 with _ e1
  rw [e1]

set_option maxRecDepth 100000 in
theorem LineMap.look {w : World} {b n : Nat} {D : DataW Unit} {g : Int → Int → Int} (h : LineMap w b n D g) (p : Lk) (ha : (Lit.int .i64 p.fn).wf = true) (hb : (Lit.int .i64 p.line).wf = true) :
    (Instr.lookup 183 (.map (some b)) (.agg #[.int .i64 p.fn, .int .i64 p.line]) false).run Tryz.prog w = .ok (.int .i64 (g p.fn p.line)) w := by
  obtain ⟨h1, h2⟩ := h
  obtain ⟨e1, e2⟩ := h2 p ha hb
  obtain ⟨v, ps, hr, hv⟩ := h1.lookup lawN Tryz.underlying183 (zero_int w) (plainElem_int (H := Unit) Tryz.underlying3 (by decide : (Lit.int .i64 0).wf = true)) (lk_ok p ha hb)
  rw [e2] at hv
  rw [plain_back hv] at hr
  exact hr

set_option maxRecDepth 100000 in
theorem LineMap.store {w : World} {b n : Nat} {D : DataW Unit} {g : Int → Int → Int} (h : LineMap w b n D g) (hn : n < maxLen) (p : Lk) (ha : (Lit.int .i64 p.fn).wf = true) (hb : (Lit.int .i64 p.line).wf = true) (x : Int) (hx : 1 ≤ x) (hw : (Lit.int .i64 x).wf = true) :
    ∃ w' D', (Instr.mapUpdate 183 (.map (some b)) (.agg #[.int .i64 p.fn, .int .i64 p.line]) (.int .i64 x)).run Tryz.prog w = .ok () w' ∧ LineMap w' b (n + 1) D' (fun a c => if a = p.fn ∧ c = p.line then x else g a c) ∧ w.grownBy w' (some b) := by
  obtain ⟨h1, h2⟩ := h
  have hm : IsMap D := h1.isMap
  obtain ⟨w', hr, h3, h4⟩ := h1.update lawN Tryz.underlying183 hn (lk_ok p ha hb) (plainElem_int (H := Unit) Tryz.underlying3 hw)
  refine ⟨w', _, hr, ⟨h3, fun q ha' hb' => ?_⟩, h4⟩
  dsimp only
  by_cases e : q.fn = p.fn ∧ q.line = p.line
  · have e' : q = p := by cases p; cases q; simp only at e; rw [e.1, e.2]
    subst e'
    rw [if_pos e, has_put_same hm (lawN.key (lk_ok q ha hb)), atKey_put_same hm (lawN.key (lk_ok q ha hb))]
    exact ⟨⟨fun _ => hx, fun _ => rfl⟩, rfl⟩
  · have hne : lkLit q ≠ lkLit p := fun e2 => e (by rw [lkLit_inj ha' hb' ha hb e2]; exact ⟨rfl, rfl⟩)
    rw [if_neg e, has_put_other hne, atKey_put_other hne]
    exact h2 q ha' hb'

theorem okWorld {α : Type} {a b : α} {w w' : World} (h : Result.ok a w = Result.ok b w') : w = w' := by injection h

/-- What mapEntry leaves: the map as it was, or as a store of the zero value leaves it. -/
theorem entry_world {H : Type} {P : Program} {w : World} {t k e : TypeId} {R : Value → Option (DataW H × List MemPlace)} {b : Nat} {es : Array MapEntry} {clock : Nat} (K : Go.WideMaps.KeyLaw P k) (ht : P.underlying t = some (.map k e)) {z : Value} (hz : ∀ u : World, (zeroValue e).run P u = .ok z u)
    (hb : w.heap[b]? = some (.map es clock)) (F : WideElems.Fit P k R es clock) {key : Value} {kl : Lit} (hkey : keyOf P k key = some kl) {v : Value} {W1 : World} (hr : (Instr.mapEntry t (.map (some b)) key).run P w = .ok v W1) :
    W1 = w ∨ ((Instr.mapUpdate t (.map (some b)) key z).run P w = .ok () W1 ∧ ∀ x ∈ es.toList, x.key ≠ key) := by
  rcases K.find w hkey es.toList F.keys with ⟨h1, h2⟩ | ⟨j, e0, h1, h2, h3⟩
  · right
    have e1 : (Instr.mapEntry t (.map (some b)) key).run P w = .ok (.tuple #[z, goInt clock]) (ChangeMaps.setBlock w b (.map (es.push ⟨key, z, clock⟩) (clock + 1))) := by
      simp [Instr.mapEntry, run_underlying ht, MapKept.run_getObj_map hb, K.check w false hkey, h1, hz, MapKept.run_setObj_map _ hb, Result.andThen, ChangeMaps.setBlock]
    rw [hr] at e1
    injection e1 with e1 e2
    rw [e2]
    exact ⟨by simp [Instr.mapUpdate, run_underlying ht, MapKept.run_getObj_map hb, K.check w false hkey, h1, MapKept.run_setObj_map _ hb, Result.andThen, ChangeMaps.setBlock], h2⟩
  · left
    have hj : es[j]? = some e0 := by simpa using h2
    have hsame : es.modify j (fun e => { e with key := key }) = es := by
      apply Array.ext'
      rw [Array.toList_modify, ChangeMaps.modify_eq_set _ _ _ _ h2]
      have : ({ e0 with key := key } : MapEntry) = e0 := by rw [← h3]
      rw [this]
      exact WideElems.set_self _ _ _ h2
    have e1 : (Instr.mapEntry t (.map (some b)) key).run P w = .ok (.tuple #[e0.val, goInt e0.born]) (ChangeMaps.setBlock w b (.map es clock)) := by
      simp [Instr.mapEntry, run_underlying ht, MapKept.run_getObj_map hb, K.check w false hkey, h1, hj, h3, K.stays w hkey, hsame, MapKept.run_setObj_map _ hb, Result.andThen, ChangeMaps.setBlock]
    rw [hr] at e1
    injection e1 with e1 e2
    rw [e2]
    have : w.heap.setIfInBounds b (.map es clock) = w.heap := by
      apply Array.ext_getElem?
      intro i
      rw [Array.getElem?_setIfInBounds]
      split
      · rename_i h; subst h; rw [hb]; split
        · rfl
        · rename_i h; exact absurd (Array.getElem?_eq_some_iff.1 hb).1 h
      · rfl
    unfold ChangeMaps.setBlock
    rw [this]

set_option maxRecDepth 100000 in
/-- The entry is found or made, then stored into. -/
theorem LineMap.entry {w : World} {b n : Nat} {D : DataW Unit} {g : Int → Int → Int} (h : LineMap w b n D g) (hn : n < maxLen) (p : Lk) (ha : (Lit.int .i64 p.fn).wf = true) (hb : (Lit.int .i64 p.line).wf = true) (x : Int) (hx : 1 ≤ x) (hw : (Lit.int .i64 x).wf = true) :
    ∃ v0 st W1, (Instr.mapEntry 183 (.map (some b)) (.agg #[.int .i64 p.fn, .int .i64 p.line])).run Tryz.prog w = .ok (.tuple #[v0, .int .i64 ((st : Nat) : Int)]) W1 ∧ w.grownBy W1 (some b) ∧
      (Instr.lookup 183 (.map (some b)) (.agg #[.int .i64 p.fn, .int .i64 p.line]) false).run Tryz.prog W1 = .ok (.int .i64 (g p.fn p.line)) W1 ∧
      ∃ W2 D', (Instr.entryStore 183 (.map (some b)) (.int .i64 ((st : Nat) : Int)) (.int .i64 x)).run Tryz.prog W1 = .ok () W2 ∧ LineMap W2 b (n + 1) D' (fun a c => if a = p.fn ∧ c = p.line then x else g a c) ∧ w.grownBy W2 (some b) := by
  have hlk := h.look p ha hb
  obtain ⟨w', D', hr, h3, h4⟩ := h.store hn p ha hb x hx hw
  have hup := h.1.update lawN Tryz.underlying183 hn (lk_ok p ha hb) (plainElem_int (H := Unit) Tryz.underlying3 (by decide : (Lit.int .i64 0).wf = true))
  have hm : IsMap D := h.1.isMap
  obtain ⟨⟨es, clock, hblk, hF, -, -⟩, -⟩ := h
  obtain ⟨v0, st, es1, clock1, hen, -, hst⟩ := WideElems.entry_then_store klawN Tryz.underlying183 zero_int hblk hF (lk_ok p ha hb)
  have hgr : ∀ (o : Obj), w.grownBy (ChangeMaps.setBlock w b o) (some b) := fun o => ⟨rfl, rfl, rfl, by simp [ChangeMaps.setBlock], fun i _ hi => ChangeMaps.heap_setBlock_other hblk _ (fun e => hi (by rw [e]))⟩
  obtain ⟨es', clock', hs1, hs2⟩ := hst _ (.int .i64 x) (ChangeMaps.heap_setBlock_same hblk (.map es1 clock1))
  have e : w' = ChangeMaps.setBlock w b (.map es' clock') := by
    rw [hr] at hs2
    injection hs2
  have e2 : ChangeMaps.setBlock (ChangeMaps.setBlock w b (.map es1 clock1)) b (.map es' clock') = ChangeMaps.setBlock w b (.map es' clock') := by
    simp [ChangeMaps.setBlock]
  refine ⟨v0, st, _, hen, hgr _, ?_, _, D', hs1, ?_, ?_⟩
  · rcases entry_world klawN Tryz.underlying183 zero_int hblk hF (lk_ok p ha hb) hen with e3 | ⟨h5, h6⟩
    · rw [e3]; exact hlk
    · have hg0 : g p.fn p.line = 0 := by
        rcases Maps.fit_look false lawN Tryz.underlying183 (zero_int w) hblk hF (lk_ok p ha hb) with ⟨h7, -, -⟩ | ⟨e0, y, h7, h8, -⟩
        · rw [hlk] at h7
          simp at h7
          exact h7
        · exact absurd h8 (h6 e0 h7)
      obtain ⟨w6, h7, h8, -⟩ := hup
      rw [h5] at h7
      rw [← okWorld h7] at h8
      obtain ⟨v, ps, hr2, hv⟩ := h8.lookup lawN Tryz.underlying183 (zero_int _) (plainElem_int (H := Unit) Tryz.underlying3 (by decide : (Lit.int .i64 0).wf = true)) (lk_ok p ha hb)
      rw [atKey_put_same hm (lawN.key (lk_ok p ha hb))] at hv
      rw [plain_back (x := 0) hv] at hr2
      rw [hg0]
      exact hr2
  · rw [e2, ← e]; exact h3
  · rw [e2, ← e]; exact h4

/-- What has come of the keys. -/
structure GotKeys (D : DataW Unit) (left : Lit → Bool) (ss : List (Lk)) : Prop where
  nodup : ss.Nodup
  wf : ∀ p, p ∈ ss → (Lit.int .i64 p.fn).wf = true ∧ (Lit.int .i64 p.line).wf = true
  mem : ∀ p : Lk, (Lit.int .i64 p.fn).wf = true → (Lit.int .i64 p.line).wf = true → (p ∈ ss ↔ (has D (lkLit p) = true ∧ left (lkLit p) = false))

theorem GotKeys.start (D : DataW Unit) : GotKeys D (has D) [] := ⟨List.nodup_nil, fun p h => (by cases h), fun p _ _ => by cases has D (lkLit p) <;> simp⟩

theorem GotKeys.step {D : DataW Unit} {left : Lit → Bool} {ss : List (Lk)} (h : GotKeys D left ss) {p : Lk} {y : DataW Unit} (ha : (Lit.int .i64 p.fn).wf = true) (hb : (Lit.int .i64 p.line).wf = true) (hlk : left (lkLit p) = true) (hat : ∀ zd, D.atKey (lkLit p) zd = y) : GotKeys D (fun z => left z && !z.sameKey (lkLit p)) (ss ++ [p]) := by
  have hhas : has D (lkLit p) = true := has_true_of_atKey hat
  have hnew : p ∉ ss := fun hx => by have := ((h.mem p ha hb).1 hx).2; rw [hlk] at this; cases this
  refine ⟨List.nodup_append.2 ⟨h.nodup, by simp, fun a h1 b h2 e => by rw [List.mem_singleton.1 h2] at e; rw [e] at h1; exact hnew h1⟩, fun q hq => ?_, fun q ha' hb' => ?_⟩
  · rcases List.mem_append.1 hq with hq | hq
    · exact h.wf q hq
    · rw [List.mem_singleton.1 hq]; exact ⟨ha, hb⟩
  · by_cases e : q = p
    · subst e
      have hs : (lkLit q).sameKey (lkLit q) = true := by simp [lkLit, Lit.sameKey]
      rw [hs]
      simp [hhas]
    · have hne : lkLit q ≠ lkLit p := fun e2 => e (lkLit_inj ha' hb' ha hb e2)
      rw [sameKey_ne hne]
      simp [h.mem q ha' hb', e]

/-- All have come. -/
theorem GotKeys.all {w : World} {b n : Nat} {D : DataW Unit} {g : Int → Int → Int} {left : Lit → Bool} {ss : List (Lk)} (h : GotKeys D left ss) (hm : LineMap w b n D g) (hl : ∀ kl, left kl = false) :
    ss.Nodup ∧ (∀ p, p ∈ ss → 1 ≤ g p.fn p.line) ∧ ∀ p : Lk, (Lit.int .i64 p.fn).wf = true → (Lit.int .i64 p.line).wf = true → 1 ≤ g p.fn p.line → p ∈ ss := by
  refine ⟨h.nodup, fun p hp => ?_, fun p ha hb hg => ?_⟩
  · obtain ⟨ha, hb⟩ := h.wf p hp
    have := ((h.mem p ha hb).1 hp).1
    exact (hm.2 p ha hb).1.1 this
  · exact (h.mem p ha hb).2 ⟨(hm.2 p ha hb).1.2 hg, hl _⟩
end Go.Proofs.YtmnmeaeicjhkhaaGreatDoor

/-
  maps.Keys over the map of LineCounts; slices.AppendSeq, slices.Collect of its keys.
-/
namespace Go.Proofs.YtmnmeaeicjhkhaaGreatDoor
open Go.RowKit Go.Shelf Go.Maps

attribute [local go_sem] Oper.semAt_some

/-- The keys of the map, each once. -/
structure KeysAre (g : Int → Int → Int) (nn : Nat) (ss : List (Lk)) : Prop where
  nodup : ss.Nodup
  has : ∀ p, p ∈ ss → 1 ≤ g p.fn p.line
  all : ∀ p : Lk, (Lit.int .i64 p.fn).wf = true → (Lit.int .i64 p.line).wf = true → 1 ≤ g p.fn p.line → p ∈ ss
  len : ss.length ≤ nn

set_option maxRecDepth 100000 in
set_option maxHeartbeats 2000000 in
theorem keys1_in (m : Nat) (hm : 1 ≤ m) (l Bm b nn : Nat) (D : DataW Unit) (g : Int → Int → Int) (J Jx : List (Lk) → World → Prop)
    (hY : ∀ pre x W, J pre W → pre.length < nn → YieldAt Fence.wide (m - 1) Tryz.prog l #[lkV x] W fun e W' => (e = .returned (.bool true) ∧ J (pre ++ [x]) W' ∧ KeepsWalks W W') ∨ (e = .returned (.bool false) ∧ Jx (pre ++ [x]) W'))
    (W : World) (hJ : AbidesFrom W.heap.size J) (hc : W.cell? ⟨Bm, 0, none⟩ = some (.map (some b))) (hown : LineMap W b nn D g) (h0 : J [] W) :
    CallsIn Fence.wide m Tryz.prog 165 #[.func (.yield l) #[] #[], .pointer (some ⟨Bm, 0, none⟩)] W fun e W' => (∃ v, e = .returned v) ∧ ((∃ ss, KeysAre g nn ss ∧ J ss W') ∨ (∃ pre, True ∧ Jx pre W')) := by
  refine callsIn_of_wp Tryz.func165 rfl trivial ?_ rfl
  simp only [Tryz.ntmps165, List.size_toArray, List.length_cons, List.length_nil, Nat.reduceAdd, Nat.reduceSub, Array.replicate_succ, Array.replicate_zero, List.push_toArray, List.append_toArray, List.nil_append, List.cons_append]
  gi_wp2_with (first
    | (gi_at_range; refine wpListIn_range_own _ rfl _ 183 rfl 185 3 lawN Tryz.underlying183 _ b nn _ rfl hown.1 ?_; intro w0 hrg0 hg0 hs0)
    | gi_in)
  go_frame
  gi_loopw [3] (fun _ wr => ∃ (left : Lit → Bool) (cnt : Nat) (ss : List (Lk)), wr.ranges Tryz.prog 185 (plainElem Tryz.prog 3) b W.heap.size nn D left cnt ∧ ss.length + cnt ≤ Maps.size D ∧ GotKeys D left ss ∧ J ss wr)
    (fun _ wr => wr.rangeLeft b W.heap.size)
  case atStart =>
    exact ⟨_, _, [], hrg0, by simp, GotKeys.start D, hJ [] W w0 none h0 hg0 (fun r e => by cases e)⟩
  case round =>
    obtain ⟨left, cnt, ss, hrg, hcs, hC, hJs⟩ := hrel
    have hsz : Maps.size D ≤ nn := hown.1.size_le
    gi_wp2_with (first
      | (gi_at_next; refine wpListIn_next_ranges _ rfl _ rfl 185 lawN (plainElem Tryz.prog 3) lkV id (fun key kl hk => by obtain ⟨x, hx, _⟩ := lk_inv hk; exact ⟨x, hx⟩) (fun v _ _ => ⟨v, rfl⟩) b W.heap.size nn _ _ _ rfl hrg ?_ ?_)
      | gi_in)
    · intro hc0 hl0
      gi_wp2
      go_end0
      obtain ⟨q1, q2, q3⟩ := hC.all hown hl0
      exact ⟨⟨_, rfl⟩, .inl ⟨ss, ⟨q1, q2, q3, by omega⟩, hJs⟩⟩
    · intro x c kl yd yp w2 cnt2 hkey hlk hv hat hrg2 hlt hg2 hs2 hen
      obtain ⟨x', ex, wa, wb⟩ := lk_inv hkey
      obtain rfl : x = x' := lkV_inj ex
      obtain rfl : kl = lkLit x := by rw [lk_ok x wa wb] at hkey; exact (Option.some.inj hkey).symm
      have hJ2 : J ss w2 := hJ ss wr w2 (some W.heap.size) hJs hg2 (fun r e => by cases e; exact ⟨Nat.le_refl _, hrg.iter_walk⟩)
      obtain ⟨w3, hw3⟩ : ∃ w3, w3 = w2.alloc (.cells #[.int .i64 x.fn, .int .i64 x.line] 185) := ⟨_, rfl⟩
      have hJ3 : J ss w3 := by rw [hw3]; exact hJ ss w2 _ none hJ2 (World.grownBy_alloc _ _ _) (fun r e => by cases e)
      have hrg3 : w3.ranges Tryz.prog 185 (plainElem Tryz.prog 3) b W.heap.size nn D (fun z => left z && !z.sameKey (lkLit x)) cnt2 := by rw [hw3]; exact hrg2.alloc _
      obtain ⟨fn, tmps, assign, body, hy, hR⟩ := hY ss x w3 hJ3 (by omega)
      rw [hw3] at hy hR
      have HW3 := hide hw3
      clear hs2 hw3
      gi_wp2
      refine hR.mono ?_
      have hC2 := hC.step wa wb hlk hat
      rw [← unhide HW3]
      rintro e W3 (⟨rfl, hJ4, hk3⟩ | ⟨rfl, hJx3⟩)
      · gi_wp2
        have hrg4 := hrg3.of_walks hk3
        go_roundw
        case rel => exact ⟨_, cnt2, ss ++ [x], hrg4, by simp; omega, hC2, hJ4⟩
        case measure => rw [hrg4.left_eq, hrg.left_eq]; exact hlt
      · gi_wp2
        refine bodyPost_ret (results_none rfl _ _ _) rfl ?_
        exact ⟨⟨_, rfl⟩, .inr ⟨ss ++ [x], trivial, hJx3⟩⟩

set_option maxHeartbeats 1000000 in
/-- maps.Keys(m): the map is boxed, the function value captures the box. -/
theorem keys_in (m : Nat) (mb : Option Nat) (w : World) :
    CallsIn Fence.wide m Tryz.prog 118 #[.map mb] w fun e w' => e = .returned (.func (.func 165) #[] #[.pointer (some ⟨w.heap.size, 0, none⟩)]) ∧ w' = w.alloc (.cells #[.map mb] 183) := by
  refine callsIn_of_wp Tryz.func118 rfl trivial ?_ rfl
  simp only [Tryz.ntmps118, List.size_toArray, List.length_cons, List.length_nil, Nat.reduceAdd, Nat.reduceSub, Array.replicate_succ, Array.replicate_zero, List.push_toArray, List.append_toArray, List.nil_append, List.cons_append]
  gi_wp2
  go_ret
  exact ⟨rfl, rfl⟩

theorem keys_stops (m : Nat) (hm : 1 ≤ m) (Bm b nn : Nat) (D : DataW Unit) (g : Int → Int → Int) (w : World) (hBm : Bm < w.heap.size) (hc : w.cell? ⟨Bm, 0, none⟩ = some (.map (some b))) (hown : LineMap w b nn D g) :
    SeqStopsK Fence.wide m Tryz.prog 165 #[.pointer (some ⟨Bm, 0, none⟩)] (fun x : Lk => #[lkV x]) KeepsWalks (KeysAre g nn) (fun _ => True) nn w := fun l J Jx W hW hJ _ hY h0 =>
  keys1_in m hm l Bm b nn D g J Jx hY W hJ ((hW.cell (p := ⟨Bm, 0, none⟩) hBm).trans hc) (hown.below hW) h0
end Go.Proofs.YtmnmeaeicjhkhaaGreatDoor

/-
  slices.AppendSeq and slices.Collect at the keys of LineCounts.
-/
namespace Go.Proofs.YtmnmeaeicjhkhaaGreatDoor
open Go.RowKit Go.Shelf Go.Maps

attribute [local go_sem] Oper.semAt_some

theorem info_lk : (Tryz.prog.info? 185).map (fun i => (i.zero, i.size, i.bytes)) = some (some (.agg #[.int .i64 0, .int .i64 0]), 2, 16) := by kernel_rfl

def lkCells (ss : List Lk) : List Value := ss.flatMap fun p => [.int .i64 p.fn, .int .i64 p.line]

theorem lkCells_app (a b : List Lk) : lkCells (a ++ b) = lkCells a ++ lkCells b := List.flatMap_append ..

theorem keepsWalks_of {W W' : World} (h : KeepsOthers W W') : KeepsWalks W W' := ⟨h.size, fun k o hk hw => h.same k o hk (by cases o <;> first | rfl | cases hw)⟩

/-- AppendSeq's box and row. -/
def LkI (w : World) (pre : List Lk) (W : World) : Prop :=
  ∃ v, Boxed W w.heap.size 186 v ∧ W.ownsRow (w.heap.size + 1) 185 2 v pre.length (lkCells pre) ∧ Below w.heap.size w W

theorem LkI.from (w : World) (B : Nat) (hB : w.heap.size ≤ B) : OwnFrom B (LkI w) := fun s W W' row h hg hr => by
  obtain ⟨v, h1, h2, h3⟩ := h
  refine ⟨v, (hg.block _ h1.lt (fun e => ?_)).trans h1, h2.kept hg (optNe (fun g e1 e2 => ?_)), Below.grown h3 hg h3.size (fun k e => ?_)⟩
  · obtain ⟨-, o, ho, hc⟩ := hr _ e.symm
    rw [show W.heap[w.heap.size]? = _ from h1] at ho
    cases ho; cases hc
  · obtain ⟨-, o, ho, hc⟩ := hr g e2
    obtain ⟨-, cs, fr, e3⟩ := ownsTyped h2 g e1
    rw [e3] at ho
    cases ho; cases hc
  · exact Nat.le_trans hB (hr k e).1

/-- The round's variable: a struct in a block of its own. -/
def LkX (w : World) (gf : Nat) (lb : Array Value) (x : Lk) (a : Act) (W : World) : Prop :=
  ∃ p, w.heap.size + 1 ≤ p ∧ a = { tmps := #[.slice none 0 0, .func (.func gf) #[] lb, .pointer (some ⟨w.heap.size, 0, none⟩), undef, .slice none 0 0, .pointer (some ⟨p, 0, none⟩), .func (.func gf) #[] lb, .agg #[.int .i64 x.fn, .int .i64 x.line], undef, undef, undef, undef, undef], defers := [] } ∧ W.heap[p]? = some (.cells #[.int .i64 x.fn, .int .i64 x.line] 185 (0, 0))

theorem LkX.from (w : World) (gf : Nat) (lb : Array Value) (x : Lk) (a : Act) (B : Nat) : OwnFrom B (fun (_ : Unit) W => LkX w gf lb x a W) := fun s W W' row h hg hr => by
  obtain ⟨p, h1, h2, h3⟩ := h
  refine ⟨p, h1, h2, (hg.block _ (Array.getElem?_eq_some_iff.1 h3).1 (fun e => ?_)).trans h3⟩
  obtain ⟨-, o, ho, hc⟩ := hr _ e.symm
  rw [h3] at ho
  cases ho; cases hc

set_option maxRecDepth 100000 in
set_option maxHeartbeats 4000000 in
theorem appendSeq_lk (gf : Nat) (lb : Array Value) (N : Nat) (S Sp : List Lk → Prop) (w w0 : World) (eg : ∀ args w, (callFunc gf args).run Tryz.prog w = .ok (.enter gf args) w) (hN : N ≤ 1048576) (hb0 : Below w0.heap.size w0 w)
    (hseq : SeqStopsK Fence.wide 5 Tryz.prog gf lb (fun x : Lk => #[lkV x]) KeepsWalks S Sp N w0) :
    Calls Tryz.prog 196 #[.slice none 0 0, .func (.func gf) #[] lb] w fun e w' => (∃ v ss, e = .returned v ∧ S ss ∧ w'.ownsRow w.heap.size 185 2 v ss.length (lkCells ss) ∧ ∃ a m c, v = .slice a m c) ∧ Below w.heap.size w w' := by
  obtain ⟨i0, hi0, hz0, hz1, hz2⟩ := info_parts info_lk
  refine (callsIn_wide (n := 6)).1 ?_
  refine callsIn_of_wp_marks Tryz.func196 rfl trivial ?_ rfl
  simp only [Tryz.ntmps196, List.size_toArray, List.length_cons, List.length_nil, Nat.reduceAdd, Nat.reduceSub, Array.replicate_succ, Array.replicate_zero, List.push_toArray, List.append_toArray, List.nil_append, List.cons_append]
  gi_wp2_with fail
  obtain ⟨W0, hW0⟩ : ∃ W0, W0 = w.alloc (.cells #[.slice none 0 0] 186) := ⟨_, rfl⟩
  have s0 : W0.heap.size = w.heap.size + 1 := by rw [hW0]; simp
  have k0 : W0.heap[w.heap.size]? = some (.cells #[.slice none 0 0] 186 (0, 0)) := by rw [hW0]; exact heap_alloc_new w _
  have b0 : Below w.heap.size w W0 := by rw [hW0]; exact below_new _ _
  have hb1 : Below w0.heap.size w0 W0 := hb0.trans (b0.mono hb0.size)
  rw [← hW0]
  clear hW0
  refine wpIn_rangeFunc_ownH rfl (by omega) (gf := gf) (lb := lb) rfl trivial eg hseq walksK_t walksK_b hb1 (fun _ => rfl)
    (LkI w) (fun _ _ _ => False) (LkI.from w _ (by omega)) (fun _ _ _ _ _ hs _ _ => hs)
    ⟨_, k0, World.ownsRow_nil _ _ _ _, b0⟩ (LkX w gf lb) (fun x a' => LkX.from w gf lb x a' _) ?assign ?body ?done ?stop
  case assign =>
    intro l pre x W K hI hK
    obtain ⟨v, hv, hrow, hB⟩ := hI
    have hsz : w.heap.size + 1 ≤ W.heap.size := hv.lt
    gi_wp2
    refine hK _ _ ((KeepsOthers.alloc W _).from _) (KeepsWalks.alloc W _) ⟨v, hv.alloc _, hrow.alloc _, hB.trans ((below_new W _).mono hB.size)⟩ ⟨W.heap.size, hsz, rfl, heap_alloc_new W _⟩
  case body =>
    rintro l pre x a' W - - ⟨v, hv, hrow, hB⟩ ⟨p, hp, rfl, hbx⟩ hlen
    have hcell := hv.cell
    have x0 : W.cell? ⟨p, 0, none⟩ = some (.int .i64 x.fn) := by rw [cell_of_row W _ 0 _ _ _ hbx]; rfl
    have x1 : W.cell? ⟨p, 1, none⟩ = some (.int .i64 x.line) := by rw [cell_of_row W _ 1 _ _ _ hbx]; rfl
    have hsz : w.heap.size + 1 ≤ W.heap.size := hv.lt
    have hnw : ∀ j u, ([.int .i64 x.fn, .int .i64 x.line] : List Value)[j]? = some u → (W.alloc (.cells #[.int .i64 x.fn, .int .i64 x.line] 185)).cell? ((⟨W.heap.size, 0, none⟩ : Addr).add j) = some u := World.news_of_block (cs := #[.int .i64 x.fn, .int .i64 x.line]) (t := 185) (fr := (0, 0)) (heap_alloc_new W _)
    gi_wp2_with (gi_at_builtin; refine wpListIn_append_own _ (by rfl) _ _ _ (by rfl) (w.heap.size + 1) 185 i0 _ 2 16 Tryz.underlying186 hi0 hz0 hz1 hz2 rfl (by decide) _ _ _ (by rfl) (hrow.alloc _) ⟨W.heap.size, 0, none⟩ 1 1 [.int .i64 x.fn, .int .i64 x.line] (by rfl) (by rfl) hnw (by simp [Value.oneCell']) (by unfold maxLen; omega) (by omega) (by simp; omega) ?_; intro v' w1 hown' hgrow _; obtain ⟨g', cap', rfl⟩ := ownsRow_succ hown'; obtain ⟨hv1, hv2, hr2, hk2, hb2⟩ := hv.appended (n₀ := w.heap.size) (by decide) (ownsLow hrow (Nat.le_succ _)) (by omega) (Nat.le_refl _) (ownsLow hown' (Nat.le_succ _)) hgrow; have hc1 := hv1.cell; have hf1 := hv1.frozen)
    have hown3 := hown'.kept (grownBy_setCell' w1 w.heap.size (.slice (some ⟨g', 0, none⟩) (pre.length + 1) cap')) (.inr (hv1.not_row (by decide) hown').symm)
    refine ⟨hk2.from _, keepsWalks_of hk2, _, hv2, ?_, hB.trans hb2⟩
    rw [lkCells_app, List.length_append]
    exact hown3
  case done =>
    rintro D xs W hD hS ⟨v, hv, hrow, hB⟩ hK
    have hcell := hv.cell
    obtain ⟨va, vm, vc, rfl⟩ : ∃ a m c, v = .slice a m c := by
      rcases hrow.2 with ⟨rfl, _⟩ | ⟨g, cap, cur, rfl, _⟩
      · exact ⟨_, _, _, rfl⟩
      · exact ⟨_, _, _, rfl⟩
    gi_wp2
    refine ⟨by simp, .inl ⟨_, _, rfl, run_takeDeferred hK, ?_⟩⟩
    refine ⟨_, results_tmp rfl _ _ _, ⟨⟨_, xs, rfl, hS, ownsLow (ownsRow_putObj hrow _ hK rfl) (Nat.le_succ _), ⟨_, _, _, rfl⟩⟩, hB.trans (belowK_b (w := w) (Nat.le_refl _) W D _ _ (by omega) hK rfl rfl)⟩⟩
  case stop =>
    rintro D c pre W _ _ h _
    exact h.elim

set_option maxRecDepth 100000 in
set_option maxHeartbeats 1000000 in
theorem collect_lk (gf : Nat) (lb : Array Value) (N : Nat) (S Sp : List Lk → Prop) (w w0 : World) (eg : ∀ args w, (callFunc gf args).run Tryz.prog w = .ok (.enter gf args) w) (hN : N ≤ 1048576) (hb0 : Below w0.heap.size w0 w)
    (hseq : SeqStopsK Fence.wide 5 Tryz.prog gf lb (fun x : Lk => #[lkV x]) KeepsWalks S Sp N w0) :
    Calls Tryz.prog 163 #[.func (.func gf) #[] lb] w fun e w' => (∃ v ss, e = .returned v ∧ S ss ∧ w'.ownsRow w.heap.size 185 2 v ss.length (lkCells ss) ∧ ∃ a m c, v = .slice a m c) ∧ Below w.heap.size w w' := by
  have HQ := hide hseq
  have HG := hide eg
  have HB0 := hide hb0
  clear hseq eg hb0
  go_enter Tryz.func163, Tryz.ntmps163
  go_wp2_with fail
  refine (appendSeq_lk gf lb N S Sp _ w0 (unhide HG) hN (unhide HB0) (unhide HQ)).mono ?_
  rintro e w1 ⟨⟨v, xs, rfl, hS, ho, va, vm, vc, rfl⟩, hb1⟩
  have HS := hide hS
  have HO := hide ho
  have HB := hide hb1
  clear hS ho hb1
  go_wp2
  go_ret
  exact ⟨⟨_, xs, rfl, unhide HS, unhide HO, ⟨_, _, _, rfl⟩⟩, unhide HB⟩
end Go.Proofs.YtmnmeaeicjhkhaaGreatDoor
