/-
  Chapter 2's counts by line as plain functions.
-/
import Derived.Test.YtoiacbdnkkolmabC3
namespace Go.Proofs.Ytoiacbdnkkolmab
open Go.RowKit

structure Lc where
  fn : Int
  line : Int
  cnt : Int

/-- How often line b of fn a has begun behind k moments. -/
def lcN (f : Nat → M) : Nat → Int → Int → Int
  | 0, _, _ => 0
  | k + 1, a, b => lcN f k a b + if (f k).kind = 1 ∧ (f k).fn = a ∧ (f k).line = b then 1 else 0

/-- How many lines have begun behind k moments. -/
def lnN (f : Nat → M) : Nat → Int
  | 0 => 0
  | k + 1 => lnN f k + if (f k).kind = 1 then 1 else 0

theorem lcN_succ (f : Nat → M) (k : Nat) (a b : Int) : lcN f (k + 1) a b = lcN f k a b + if (f k).kind = 1 ∧ (f k).fn = a ∧ (f k).line = b then 1 else 0 := rfl
theorem lnN_succ (f : Nat → M) (k : Nat) : lnN f (k + 1) = lnN f k + if (f k).kind = 1 then 1 else 0 := rfl

theorem lcN_bound (f : Nat → M) (a b : Int) : ∀ k, 0 ≤ lcN f k a b ∧ lcN f k a b ≤ k
  | 0 => ⟨Int.le_refl _, Int.le_refl _⟩
  | k + 1 => by
    have h := lcN_bound f a b k
    rw [lcN_succ]
    split <;> omega

theorem lnN_bound (f : Nat → M) : ∀ k, 0 ≤ lnN f k ∧ lnN f k ≤ k
  | 0 => ⟨Int.le_refl _, Int.le_refl _⟩
  | k + 1 => by
    have h := lnN_bound f k
    rw [lnN_succ]
    split <;> omega

def lcLt (x y : Lc) : Prop := x.fn < y.fn ∨ (x.fn = y.fn ∧ x.line < y.line)

theorem lcLt_not {x y : Lc} (h : lcLt x y) : ¬ lcLt y x := by unfold lcLt at *; omega
theorem lcLt_trans {x y z : Lc} (h : lcLt x y) (h2 : lcLt y z) : lcLt x z := by unfold lcLt at *; omega

/-- The rows of the counts by line behind k moments. -/
structure LcIs (f : Nat → M) (k : Nat) (l : List Lc) : Prop where
  sorted : l.Pairwise lcLt
  cnt : ∀ r, r ∈ l → r.cnt = lcN f k r.fn r.line ∧ 1 ≤ r.cnt
  all : ∀ a b, 1 ≤ lcN f k a b → ∃ r, r ∈ l ∧ r.fn = a ∧ r.line = b

theorem sorted_one {α : Type} {R : α → α → Prop} (asy : ∀ x y, R x y → ¬ R y x) : ∀ l1 l2 : List α, l1.Pairwise R → l2.Pairwise R → (∀ x, x ∈ l1 ↔ x ∈ l2) → l1 = l2
  | [], [], _, _, _ => rfl
  | [], b :: r, _, _, h => by have := (h b).2 (List.mem_cons_self ..); cases this
  | a :: r, [], _, _, h => by have := (h a).1 (List.mem_cons_self ..); cases this
  | a :: r, b :: q, h1, h2, h => by
    obtain ⟨a1, r1⟩ := List.pairwise_cons.1 h1
    obtain ⟨b1, q1⟩ := List.pairwise_cons.1 h2
    have e : a = b := by
      rcases List.mem_cons.1 ((h a).1 (List.mem_cons_self ..)) with e | e
      · exact e
      · rcases List.mem_cons.1 ((h b).2 (List.mem_cons_self ..)) with e2 | e2
        · exact e2.symm
        · exact absurd (a1 b e2) (asy _ _ (b1 a e))
    subst e
    have ir : ∀ x, ¬ R x x := fun x hx => asy x x hx hx
    rw [sorted_one asy r q r1 q1 (fun x => ⟨fun hx => ?_, fun hx => ?_⟩)]
    · rcases List.mem_cons.1 ((h x).1 (List.mem_cons_of_mem _ hx)) with e | e
      · subst e; exact absurd (a1 x hx) (ir x)
      · exact e
    · rcases List.mem_cons.1 ((h x).2 (List.mem_cons_of_mem _ hx)) with e | e
      · subst e; exact absurd (b1 x hx) (ir x)
      · exact e

theorem LcIs.unique {f : Nat → M} {k : Nat} {l1 l2 : List Lc} (h1 : LcIs f k l1) (h2 : LcIs f k l2) : l1 = l2 := by
  have side : ∀ {p q : List Lc}, LcIs f k p → LcIs f k q → ∀ x, x ∈ p → x ∈ q := by
    intro p q hp hq x hx
    obtain ⟨e, hc⟩ := hp.cnt x hx
    obtain ⟨r, hr, ea, eb⟩ := hq.all x.fn x.line (by omega)
    have er := (hq.cnt r hr).1
    have : r = x := by
      cases r; cases x
      simp only at e er ea eb ⊢
      subst ea eb
      rw [er, e]
    rw [← this]; exact hr
  exact sorted_one (fun x y h => lcLt_not h) l1 l2 h1.sorted h2.sorted (fun x => ⟨side h1 h2 x, side h2 h1 x⟩)

def lcBump (a b : Int) (r : Lc) : Lc := if r.fn = a ∧ r.line = b then ⟨r.fn, r.line, r.cnt + 1⟩ else r

theorem lcBump_fn (a b : Int) (r : Lc) : (lcBump a b r).fn = r.fn := by unfold lcBump; split <;> rfl
theorem lcBump_line (a b : Int) (r : Lc) : (lcBump a b r).line = r.line := by unfold lcBump; split <;> rfl

def lcKey (a b : Int) (r : Lc) : Bool := decide (r.fn = a ∧ r.line = b)

theorem LcIs.zero (f : Nat → M) : LcIs f 0 [] := ⟨.nil, fun r hr => (by cases hr), fun a b h => (by have : (1 : Int) ≤ 0 := h; omega)⟩

theorem LcIs.skip {f : Nat → M} {k : Nat} {l : List Lc} (h : LcIs f k l) (hk : (f k).kind ≠ 1) : LcIs f (k + 1) l := by
  have e : ∀ a b, lcN f (k + 1) a b = lcN f k a b := fun a b => by rw [lcN_succ, if_neg (fun h => hk h.1)]; omega
  exact ⟨h.sorted, fun r hr => by rw [e]; exact h.cnt r hr, fun a b hab => h.all a b (by rw [← e]; exact hab)⟩

theorem LcIs.bump {f : Nat → M} {k : Nat} {l : List Lc} (h : LcIs f k l) (hk : (f k).kind = 1) (hm : l.any (lcKey (f k).fn (f k).line) = true) : LcIs f (k + 1) (l.map (lcBump (f k).fn (f k).line)) := by
  refine ⟨?_, fun r hr => ?_, fun a b hab => ?_⟩
  · refine List.pairwise_map.2 (h.sorted.imp ?_)
    intro x y hxy
    unfold lcLt
    rw [lcBump_fn, lcBump_fn, lcBump_line, lcBump_line]
    exact hxy
  · obtain ⟨r0, h0, rfl⟩ := List.mem_map.1 hr
    obtain ⟨e, hc⟩ := h.cnt r0 h0
    rw [lcBump_fn, lcBump_line, lcN_succ]
    unfold lcBump
    by_cases e2 : r0.fn = (f k).fn ∧ r0.line = (f k).line
    · rw [if_pos e2, if_pos ⟨hk, e2.1.symm, e2.2.symm⟩]
      show r0.cnt + 1 = _ ∧ 1 ≤ r0.cnt + 1
      omega
    · rw [if_neg e2, if_neg (fun h => e2 ⟨h.2.1.symm, h.2.2.symm⟩)]
      omega
  · by_cases e2 : (f k).fn = a ∧ (f k).line = b
    · obtain ⟨r, hr, hrk⟩ := List.any_eq_true.1 hm
      have := of_decide_eq_true hrk
      exact ⟨_, List.mem_map_of_mem hr, by rw [lcBump_fn]; omega, by rw [lcBump_line]; omega⟩
    · rw [lcN_succ, if_neg (fun h => e2 h.2)] at hab
      obtain ⟨r, hr, ea, eb⟩ := h.all a b (by omega)
      exact ⟨_, List.mem_map_of_mem hr, by rw [lcBump_fn]; exact ea, by rw [lcBump_line]; exact eb⟩

theorem LcIs.ins {f : Nat → M} {k : Nat} {l : List Lc} (h : LcIs f k l) (hk : (f k).kind = 1) (hm : l.any (lcKey (f k).fn (f k).line) = false) (p : Nat)
    (hp : ∀ r, r ∈ l.take p → lcLt r ⟨(f k).fn, (f k).line, 1⟩) (hq : ∀ r, r ∈ l.drop p → lcLt ⟨(f k).fn, (f k).line, 1⟩ r) : LcIs f (k + 1) (l.take p ++ ⟨(f k).fn, (f k).line, 1⟩ :: l.drop p) := by
  have hsp := h.sorted
  rw [← List.take_append_drop p l] at hsp
  obtain ⟨s1, s2, s3⟩ := List.pairwise_append.1 hsp
  have hno : ∀ r, r ∈ l → ¬ (r.fn = (f k).fn ∧ r.line = (f k).line) := fun r hr e => by
    have := List.any_eq_false.1 hm r hr
    exact this (decide_eq_true e)
  have hmem : ∀ r, r ∈ l.take p ++ ⟨(f k).fn, (f k).line, 1⟩ :: l.drop p ↔ r = ⟨(f k).fn, (f k).line, 1⟩ ∨ r ∈ l := fun r => by
    rw [List.mem_append, List.mem_cons]
    constructor
    · rintro (e | e | e)
      · exact .inr (List.mem_of_mem_take e)
      · exact .inl e
      · exact .inr (List.mem_of_mem_drop e)
    · rintro (e | e)
      · exact .inr (.inl e)
      · rw [← List.take_append_drop p l] at e
        rcases List.mem_append.1 e with e | e
        · exact .inl e
        · exact .inr (.inr e)
  have h0 : lcN f k (f k).fn (f k).line = 0 := by
    have hb := lcN_bound f (f k).fn (f k).line k
    by_cases e : 1 ≤ lcN f k (f k).fn (f k).line
    · obtain ⟨r, hr, e⟩ := h.all _ _ e
      exact absurd e (hno r hr)
    · omega
  refine ⟨?_, fun r hr => ?_, fun a b hab => ?_⟩
  · refine List.pairwise_append.2 ⟨s1, List.pairwise_cons.2 ⟨hq, s2⟩, fun x hx y hy => ?_⟩
    rcases List.mem_cons.1 hy with e | e
    · subst e; exact hp x hx
    · exact s3 x hx y e
  · rcases (hmem r).1 hr with e | e
    · subst e
      rw [lcN_succ, if_pos ⟨hk, rfl, rfl⟩, h0]
      exact ⟨rfl, Int.le_refl _⟩
    · rw [lcN_succ, if_neg (fun h => hno r e ⟨h.2.1.symm, h.2.2.symm⟩)]
      have := h.cnt r e
      omega
  · by_cases e2 : (f k).fn = a ∧ (f k).line = b
    · exact ⟨_, (hmem _).2 (.inl rfl), e2.1, e2.2⟩
    · rw [lcN_succ, if_neg (fun h => e2 h.2)] at hab
      obtain ⟨r, hr, e⟩ := h.all a b (by omega)
      exact ⟨r, (hmem r).2 (.inr hr), e⟩

theorem lc_split (x : Lc) : ∀ l : List Lc, l.Pairwise lcLt → (∀ r, r ∈ l → ¬ (r.fn = x.fn ∧ r.line = x.line)) → ∃ p, p ≤ l.length ∧ (∀ r, r ∈ l.take p → lcLt r x) ∧ (∀ r, r ∈ l.drop p → lcLt x r)
  | [], _, _ => ⟨0, Nat.le_refl _, fun r hr => (by cases hr), fun r hr => (by cases hr)⟩
  | a :: t, hs, hn => by
    obtain ⟨a1, t1⟩ := List.pairwise_cons.1 hs
    by_cases e : lcLt a x
    · obtain ⟨p, h1, h2, h3⟩ := lc_split x t t1 (fun r hr => hn r (List.mem_cons_of_mem _ hr))
      refine ⟨p + 1, by simpa using h1, fun r hr => ?_, h3⟩
      rw [List.take_succ_cons] at hr
      rcases List.mem_cons.1 hr with e2 | e2
      · rw [e2]; exact e
      · exact h2 r e2
    · have hx : lcLt x a := by
        have := hn a (List.mem_cons_self ..)
        unfold lcLt at *
        omega
      refine ⟨0, Nat.zero_le _, fun r hr => (by cases hr), fun r hr => ?_⟩
      rcases List.mem_cons.1 hr with e2 | e2
      · rw [e2]; exact hx
      · exact lcLt_trans hx (a1 r e2)

def lcSum (l : List Lc) : Int := (l.map Lc.cnt).sum

theorem lcSum_cons (r : Lc) (l : List Lc) : lcSum (r :: l) = r.cnt + lcSum l := by unfold lcSum; rw [List.map_cons, List.sum_cons]
theorem lcSum_app : ∀ a b : List Lc, lcSum (a ++ b) = lcSum a + lcSum b
  | [], b => by show lcSum b = 0 + lcSum b; omega
  | r :: a, b => by rw [List.cons_append, lcSum_cons, lcSum_cons, lcSum_app a b]; omega

theorem lcSum_bump (a b : Int) : ∀ l : List Lc, l.Pairwise lcLt → lcSum (l.map (lcBump a b)) = lcSum l + if l.any (lcKey a b) then 1 else 0
  | [], _ => rfl
  | r :: t, hs => by
    obtain ⟨r1, t1⟩ := List.pairwise_cons.1 hs
    have ih := lcSum_bump a b t t1
    rw [List.map_cons, lcSum_cons, lcSum_cons, ih, List.any_cons]
    by_cases e : r.fn = a ∧ r.line = b
    · have hr : lcKey a b r = true := decide_eq_true e
      have hn : t.any (lcKey a b) = false := List.any_eq_false.2 (fun x hx hk => by
        have := of_decide_eq_true hk
        have h := r1 x hx
        unfold lcLt at h
        omega)
      rw [hr, hn]
      have : (lcBump a b r).cnt = r.cnt + 1 := by unfold lcBump; rw [if_pos e]
      rw [this]
      simp only [Bool.true_or, if_true, Bool.false_eq_true, if_false]
      omega
    · have hr : lcKey a b r = false := decide_eq_false e
      have : lcBump a b r = r := by unfold lcBump; rw [if_neg e]
      rw [hr, Bool.false_or, this]
      omega

/-- There are such rows, no more than moments, and they add up. -/
theorem LcIs.exists (f : Nat → M) : ∀ k, ∃ l, LcIs f k l ∧ l.length ≤ k ∧ lcSum l = lnN f k
  | 0 => ⟨[], LcIs.zero f, Nat.le_refl _, rfl⟩
  | k + 1 => by
    obtain ⟨l, h, hl, hs⟩ := LcIs.exists f k
    by_cases hk : (f k).kind = 1
    · cases hm : l.any (lcKey (f k).fn (f k).line) with
      | true =>
        refine ⟨_, h.bump hk hm, by rw [List.length_map]; omega, ?_⟩
        rw [lcSum_bump _ _ _ h.sorted, hm, hs, lnN_succ, if_pos hk]; rfl
      | false =>
        obtain ⟨p, hp, h1, h2⟩ := lc_split ⟨(f k).fn, (f k).line, 1⟩ l h.sorted (fun r hr e => List.any_eq_false.1 hm r hr (decide_eq_true e))
        refine ⟨_, h.ins hk hm p h1 h2, ?_, ?_⟩
        · rw [List.length_append, List.length_cons, List.length_take, List.length_drop]; omega
        · have e : lcSum l = lcSum (l.take p) + lcSum (l.drop p) := by rw [← lcSum_app, List.take_append_drop]
          rw [lcSum_app, lcSum_cons, lnN_succ, if_pos hk, ← hs, e]
          show _ + (1 + _) = _
          omega
    · exact ⟨l, h.skip hk, by omega, by rw [lnN_succ, if_neg hk, hs]; omega⟩

theorem LcIs.len {f : Nat → M} {k : Nat} {l : List Lc} (h : LcIs f k l) : l.length ≤ k := by
  obtain ⟨l', h', hl, _⟩ := LcIs.exists f k
  rw [h.unique h']; exact hl

theorem LcIs.sum {f : Nat → M} {k : Nat} {l : List Lc} (h : LcIs f k l) : lcSum l = lnN f k := by
  obtain ⟨l', h', _, hl⟩ := LcIs.exists f k
  rw [h.unique h']; exact hl

def lcCell (r : Lc) : Nat → Int
  | 0 => r.fn
  | 1 => r.line
  | _ => r.cnt

def LcAns (nf : Nat) (fns : Nat → ByteArray) (n : Nat) (f : Nat → M) (n' : Nat) (F : Nat → Nat → Int) : Prop :=
  (Sound nf fns n f ∧ ∃ l, LcIs f n l ∧ n' = l.length ∧ ∀ i j (h : i < l.length), j < 3 → F i j = lcCell l[i] j) ∨ (¬ Sound nf fns n f ∧ n' = 0)

theorem LcAns.unique {nf : Nat} {fns : Nat → ByteArray} {n : Nat} {f : Nat → M} {n1 n2 : Nat} {F1 F2 : Nat → Nat → Int} (h1 : LcAns nf fns n f n1 F1) (h2 : LcAns nf fns n f n2 F2) : n1 = n2 ∧ ∀ i j, i < n1 → j < 3 → F1 i j = F2 i j := by
  rcases h1 with ⟨a1, l1, i1, b1, c1⟩ | ⟨a1, b1⟩ <;> rcases h2 with ⟨a2, l2, i2, b2, c2⟩ | ⟨a2, b2⟩
  · have e := i1.unique i2
    subst e
    exact ⟨by omega, fun i j hi hj => by rw [c1 i j (by omega) hj, c2 i j (by omega) hj]⟩
  · exact absurd a1 a2
  · exact absurd a2 a1
  · exact ⟨by omega, fun i j hi _ => by omega⟩

theorem LcAns.bound {nf : Nat} {fns : Nat → ByteArray} {n : Nat} {f : Nat → M} {n' : Nat} {F : Nat → Nat → Int} (h : LcAns nf fns n f n' F) (_ : nf ≤ 1048576) (hn : n ≤ 1048576) : n' ≤ 1048576 := by
  rcases h with ⟨hs, l, hl, e, _⟩ | ⟨_, e⟩
  · have := hl.len
    omega
  · omega

def lcCells (l : List Lc) : List Value := l.flatMap fun r => [.int .i64 r.fn, .int .i64 r.line, .int .i64 r.cnt]

theorem lcCells_cons (r : Lc) (l : List Lc) : lcCells (r :: l) = .int .i64 r.fn :: .int .i64 r.line :: .int .i64 r.cnt :: lcCells l := rfl

theorem lcCells_app (a b : List Lc) : lcCells (a ++ b) = lcCells a ++ lcCells b := List.flatMap_append ..

theorem lcCells_len : ∀ l : List Lc, (lcCells l).length = l.length * 3
  | [] => rfl
  | r :: t => by rw [lcCells_cons]; simp only [List.length_cons, lcCells_len t]; omega

theorem lcCells_get : ∀ (l : List Lc) (i : Nat) (h : i < l.length), (lcCells l)[i * 3]? = some (.int .i64 l[i].fn) ∧ (lcCells l)[i * 3 + 1]? = some (.int .i64 l[i].line) ∧ (lcCells l)[i * 3 + 2]? = some (.int .i64 l[i].cnt)
  | x :: r, 0, _ => ⟨rfl, rfl, rfl⟩
  | x :: r, i + 1, h => by
    have ih := lcCells_get r i (by simpa using h)
    rw [lcCells_cons, show (i + 1) * 3 = i * 3 + 1 + 1 + 1 by omega]
    simpa only [List.getElem?_cons_succ, List.getElem_cons_succ] using ih

theorem lcCells_set : ∀ (l : List Lc) (i : Nat) (x : Lc), i < l.length → (((lcCells l).set (i * 3) (.int .i64 x.fn)).set (i * 3 + 1) (.int .i64 x.line)).set (i * 3 + 2) (.int .i64 x.cnt) = lcCells (l.set i x)
  | r :: t, 0, x, _ => rfl
  | r :: t, i + 1, x, h => by
    have ih := lcCells_set t i x (by simpa using h)
    rw [List.set_cons_succ, lcCells_cons, lcCells_cons, ← ih, show (i + 1) * 3 = i * 3 + 1 + 1 + 1 by omega]
    simp only [List.set_cons_succ]

theorem lcCells_set2 : ∀ (l : List Lc) (i : Nat) (x : Int) (h : i < l.length), (lcCells l).set (i * 3 + 2) (.int .i64 x) = lcCells (l.set i ⟨l[i].fn, l[i].line, x⟩)
  | r :: t, 0, x, _ => rfl
  | r :: t, i + 1, x, h => by
    have ih := lcCells_set2 t i x (by simpa using h)
    rw [List.set_cons_succ, lcCells_cons, lcCells_cons, List.getElem_cons_succ, ← ih, show (i + 1) * 3 + 2 = i * 3 + 2 + 1 + 1 + 1 by omega]
    simp only [List.set_cons_succ]
end Go.Proofs.Ytoiacbdnkkolmab
