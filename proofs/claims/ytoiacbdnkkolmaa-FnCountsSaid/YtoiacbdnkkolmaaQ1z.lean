import Derived.Test.YtoiacbdnkkolmaaGCaz
import Derived.Test.YtoiacbdnkkolmaaGJaz
/-
  Counts add up: the mathematics of FnCounts.
-/
namespace Go.Proofs.Ytoiacbdnkkolmaa
open Go.RowKit

/-- How many calls were opened behind k moments. -/
def clN (f : Nat → M) : Nat → Int
  | 0 => 0
  | k + 1 => clN f k + if (f k).kind = 2 then 1 else 0

theorem clN_succ (f : Nat → M) (k : Nat) : clN f (k + 1) = clN f k + if (f k).kind = 2 then 1 else 0 := rfl

theorem clN_bound (f : Nat → M) : ∀ k, 0 ≤ clN f k ∧ clN f k ≤ k
  | 0 => ⟨Int.le_refl _, Int.le_refl _⟩
  | k + 1 => by
    have h := clN_bound f k
    rw [clN_succ]
    split <;> omega

def sumI (F : Nat → Int) : Nat → Int
  | 0 => 0
  | q + 1 => sumI F q + F q

theorem sumI_succ (F : Nat → Int) (q : Nat) : sumI F (q + 1) = sumI F q + F q := rfl

theorem sumI_add (F G : Nat → Int) : ∀ q, sumI (fun i => F i + G i) q = sumI F q + sumI G q
  | 0 => rfl
  | q + 1 => by rw [sumI_succ, sumI_succ, sumI_succ, sumI_add F G q]; omega

theorem sumI_congr {F G : Nat → Int} : ∀ {q : Nat}, (∀ i, i < q → F i = G i) → sumI F q = sumI G q
  | 0, _ => rfl
  | q + 1, h => by rw [sumI_succ, sumI_succ, sumI_congr (fun i hi => h i (by omega)), h q (by omega)]

theorem sumI_zero : ∀ q, sumI (fun _ => 0) q = 0
  | 0 => rfl
  | q + 1 => by rw [sumI_succ, sumI_zero q]; rfl

theorem sumI_point (a : Int) : ∀ q : Nat, sumI (fun i => if (i : Int) = a then 1 else 0) q = if 0 ≤ a ∧ a < (q : Int) then 1 else 0
  | 0 => by rw [if_neg (by omega)]; rfl
  | q + 1 => by
    rw [sumI_succ, sumI_point a q]
    by_cases e : (q : Int) = a
    · rw [if_pos e, if_neg (by omega), if_pos (by omega)]; rfl
    · rw [if_neg e]
      by_cases e2 : 0 ≤ a ∧ a < (q : Int)
      · rw [if_pos e2, if_pos (by omega)]; rfl
      · rw [if_neg e2, if_neg (by omega)]; rfl

theorem sumI_part {F : Nat → Int} {q' : Nat} (h : ∀ i, i < q' → 0 ≤ F i) : ∀ q, q ≤ q' → 0 ≤ sumI F q ∧ sumI F q ≤ sumI F q' := by
  have mono : ∀ q d, q + d ≤ q' → sumI F q ≤ sumI F (q + d) := by
    intro q d
    induction d with
    | zero => intro _; exact Int.le_refl _
    | succ d ih =>
      intro hd
      have h1 := ih (by omega)
      have h2 := h (q + d) (by omega)
      rw [← Nat.add_assoc, sumI_succ]
      omega
  intro q hq
  have h0 := mono 0 q (by omega)
  rw [Nat.zero_add] at h0
  have h1 := mono q (q' - q) (by omega)
  rw [show q + (q' - q) = q' by omega] at h1
  exact ⟨h0, h1⟩

section
variable {nf : Nat} {fns : Nat → ByteArray} {n : Nat} {f : Nat → M} (hS : Sound nf fns n f)
include hS

theorem fn_in (k : Nat) (hk : k < n) : 0 ≤ (f k).fn ∧ (f k).fn < nf := by
  have hm := (hS.2.1 k hk).1
  unfold HeadOk at hm
  exact ⟨hm.2.2.2.2.1, hm.2.2.2.2.2.1⟩

theorem fc_selfs : ∀ k, k ≤ n → sumI (fun i => fcRow f k i 2) nf = lnN f k
  | 0, _ => by
    have e : (fun i => fcRow f 0 i 2) = fun _ => 0 := by funext i; rfl
    rw [e, sumI_zero]; rfl
  | k + 1, hk => by
    have ih := fc_selfs k (by omega)
    have hf := fn_in hS k (by omega)
    rw [lnN_succ, ← ih]
    by_cases e1 : (f k).kind = 1
    · rw [if_pos e1, sumI_congr (G := fun i => fcRow f k i 2 + (if (i : Int) = (f k).fn then 1 else 0)) (fun i _ => ?_), sumI_add, sumI_point, if_pos hf]
      show fcRow f k i 2 + fcAdd (f k) (runs f (k + 1)) i 2 = _
      unfold fcAdd
      rw [if_neg (by omega), if_pos e1]
      by_cases e : (i : Int) = (f k).fn
      · rw [if_pos ⟨rfl, e⟩, if_pos e]
      · rw [if_neg (fun h => e h.2), if_neg (by omega), if_neg e]
    · rw [if_neg e1, sumI_congr (G := fun i => fcRow f k i 2) (fun i _ => ?_)]
      · omega
      · show fcRow f k i 2 + fcAdd (f k) (runs f (k + 1)) i 2 = _
        unfold fcAdd
        by_cases e2 : (f k).kind = 2
        · rw [if_pos e2, if_neg (by omega)]; omega
        · rw [if_neg e2, if_neg e1]; omega

theorem fc_calls : ∀ k, k ≤ n → sumI (fun i => fcRow f k i 1) nf = 1 + clN f k
  | 0, _ => by
    have h0 := hS.1.1
    rw [sumI_congr (G := fun i => if (i : Int) = 0 then 1 else 0) (fun i _ => ?_), sumI_point, if_pos (by omega)]
    · rfl
    · show (if (1 : Nat) = 0 then (i : Int) else if 1 = 1 ∧ i = 0 then 1 else 0) = _
      by_cases e : i = 0
      · rw [if_neg (by omega), if_pos ⟨rfl, e⟩, if_pos (by omega)]
      · rw [if_neg (by omega), if_neg (by omega), if_neg (by omega)]
  | k + 1, hk => by
    have ih := fc_calls k (by omega)
    have hf := fn_in hS k (by omega)
    rw [clN_succ]
    by_cases e2 : (f k).kind = 2
    · rw [if_pos e2, sumI_congr (G := fun i => fcRow f k i 1 + (if (i : Int) = (f k).fn then 1 else 0)) (fun i _ => ?_), sumI_add, sumI_point, if_pos hf, ih]
      · omega
      · show fcRow f k i 1 + fcAdd (f k) (runs f (k + 1)) i 1 = _
        unfold fcAdd
        rw [if_pos e2]
        by_cases e : (i : Int) = (f k).fn
        · rw [if_pos ⟨rfl, e⟩, if_pos e]
        · rw [if_neg (fun h => e h.2), if_neg e]
    · rw [if_neg e2, sumI_congr (G := fun i => fcRow f k i 1) (fun i _ => ?_), ih]
      · omega
      · show fcRow f k i 1 + fcAdd (f k) (runs f (k + 1)) i 1 = _
        unfold fcAdd
        rw [if_neg e2]
        by_cases e1 : (f k).kind = 1
        · rw [if_pos e1, if_neg (by omega), if_neg (by omega)]; omega
        · rw [if_neg e1]; omega

/-- The fn of a line is among the open calls. -/
theorem line_has (k : Nat) (hk : k < n) (h1 : (f k).kind = 1) (i : Nat) (hi : (i : Int) = (f k).fn) : hasFn (runs f (k + 1)) i = true := by
  have hc := hS.2.2 k hk
  unfold codeAt code at hc
  rw [if_neg (by omega)] at hc
  by_cases h3 : (f k).task ≠ ((St.after f k).cur : Int)
  · rw [if_pos h3] at hc; omega
  · rw [if_neg h3, if_neg (by omega)] at hc
    by_cases h4 : (f k).fn ≠ topFn ((St.after f k).tasks (St.after f k).cur)
    · rw [if_pos h4] at hc; omega
    · rw [if_neg h4, if_pos h1] at hc
      have h5 : (f k).fn = topFn ((St.after f k).tasks (St.after f k).cur) := by omega
      have e : St.after f (k + 1) = (St.after f k).put (setLine (f k).line ((St.after f k).tasks (St.after f k).cur)) := by
        show (St.after f k).step _ _ _ _ _ = _
        unfold St.step
        rw [if_neg (by omega), if_neg (by omega), if_pos h1]
      have e2 : runs f (k + 1) = setLine (f k).line ((St.after f k).tasks (St.after f k).cur) := by
        unfold runs
        rw [e]
        show (if (St.after f k).cur = (St.after f k).cur then _ else _) = _
        rw [if_pos rfl]
      rw [e2]
      cases hl : (St.after f k).tasks (St.after f k).cur with
      | nil => rw [hl] at hc; simp at hc
      | cons fr r =>
        rw [hl] at h5
        have h6 : fr.fn = (i : Int) := by rw [hi, h5]; rfl
        simp [setLine, hasFn, h6]

theorem fc_total : ∀ k, k ≤ n → ∀ i, fcRow f k i 2 ≤ fcRow f k i 3 ∧ fcRow f k i 3 ≤ lnN f k
  | 0, _, i => ⟨Int.le_refl _, Int.le_refl _⟩
  | k + 1, hk, i => by
    obtain ⟨h1, h2⟩ := fc_total k (by omega) i
    rw [lnN_succ]
    show fcRow f k i 2 + fcAdd (f k) (runs f (k + 1)) i 2 ≤ fcRow f k i 3 + fcAdd (f k) (runs f (k + 1)) i 3 ∧ fcRow f k i 3 + fcAdd (f k) (runs f (k + 1)) i 3 ≤ _
    by_cases e1 : (f k).kind = 1
    · have e3 : fcAdd (f k) (runs f (k + 1)) i 3 = if hasFn (runs f (k + 1)) i = true then 1 else 0 := by
        unfold fcAdd
        rw [if_neg (by omega), if_pos e1, if_neg (by omega)]
        by_cases e : hasFn (runs f (k + 1)) i = true
        · rw [if_pos ⟨rfl, e⟩, if_pos e]
        · rw [if_neg (fun h => e h.2), if_neg e]
      have e4 : fcAdd (f k) (runs f (k + 1)) i 2 = if (i : Int) = (f k).fn then 1 else 0 := by
        unfold fcAdd
        rw [if_neg (by omega), if_pos e1]
        by_cases e : (i : Int) = (f k).fn
        · rw [if_pos ⟨rfl, e⟩, if_pos e]
        · rw [if_neg (fun h => e h.2), if_neg (by omega), if_neg e]
      rw [e3, e4, if_pos e1]
      by_cases e : (i : Int) = (f k).fn
      · rw [if_pos e, if_pos (line_has hS k (by omega) e1 i e)]; omega
      · rw [if_neg e]
        split <;> omega
    · have e3 : ∀ j, j ≠ 1 → fcAdd (f k) (runs f (k + 1)) i j = 0 := by
        intro j hj
        unfold fcAdd
        by_cases e2 : (f k).kind = 2
        · rw [if_pos e2, if_neg (by omega)]
        · rw [if_neg e2, if_neg e1]
      rw [e3 2 (by omega), e3 3 (by omega), if_neg e1]
      omega
end

def lsum {α : Type} (g : α → Int) (l : List α) : Int := (l.map g).sum

theorem lsum_cons {α : Type} (g : α → Int) (x : α) (l : List α) : lsum g (x :: l) = g x + lsum g l := by unfold lsum; rw [List.map_cons, List.sum_cons]
theorem lsum_app {α : Type} (g : α → Int) : ∀ a b : List α, lsum g (a ++ b) = lsum g a + lsum g b
  | [], b => by show lsum g b = 0 + lsum g b; omega
  | x :: a, b => by rw [List.cons_append, lsum_cons, lsum_cons, lsum_app g a b]; omega

theorem lsum_take {α : Type} (g : α → Int) (l : List α) (q : Nat) (h : q < l.length) : lsum g (l.take (q + 1)) = lsum g (l.take q) + g l[q] := by
  have h1 : l.take (q + 1) = l.take q ++ [l[q]] := by rw [List.take_add_one, List.getElem?_eq_getElem h]; rfl
  rw [h1, lsum_app, lsum_cons]
  show _ + (_ + 0) = _
  omega

theorem lsum_pos {α : Type} {g : α → Int} : ∀ {l : List α}, (∀ x, x ∈ l → 0 ≤ g x) → 0 ≤ lsum g l
  | [], _ => Int.le_refl _
  | x :: l, h => by
    rw [lsum_cons]
    have h1 := h x (List.mem_cons_self ..)
    have h2 := lsum_pos (l := l) (fun y hy => h y (List.mem_cons_of_mem _ hy))
    omega

theorem lsum_part {α : Type} {g : α → Int} {l : List α} (h : ∀ x, x ∈ l → 0 ≤ g x) (q : Nat) : 0 ≤ lsum g (l.take q) ∧ lsum g (l.take q) ≤ lsum g l := by
  have h1 := lsum_pos (l := l.take q) (fun x hx => h x (List.mem_of_mem_take hx))
  have h2 := lsum_pos (l := l.drop q) (fun x hx => h x (List.mem_of_mem_drop hx))
  have h3 : lsum g l = lsum g (l.take q) + lsum g (l.drop q) := by rw [← lsum_app, List.take_append_drop]
  omega

theorem lsum_modify {α : Type} (g : α → Int) (t : α → α) (d : Int) (ht : ∀ x, g (t x) = g x + d) : ∀ (l : List α) (i : Nat), i < l.length → lsum g (l.modify i t) = lsum g l + d
  | x :: l, 0, _ => by rw [List.modify_zero_cons, lsum_cons, lsum_cons, ht]; omega
  | x :: l, i + 1, h => by rw [List.modify_succ_cons, lsum_cons, lsum_cons, lsum_modify g t d ht l i (by simpa using h)]; omega

/-- What adds up of the tree behind k moments. -/
structure TreeSum (f : Nat → M) (T : Tree) (k : Nat) : Prop where
  calls : lsum Br.calls T.bs = 1 + clN f k
  selfs : lsum Br.self T.bs = lnN f k
  each : ∀ i (h : i < T.bs.length), T.bs[i].par < i ∧ 1 ≤ T.bs[i].calls

theorem treeSum (f : Nat → M) : ∀ k, TreeSum f (treeAt f k) k
  | 0 => by
    refine ⟨rfl, rfl, fun i h => ?_⟩
    have : i = 0 := by have : i < 1 := h; omega
    subst this
    exact ⟨by show (-1 : Int) < 0; omega, by show (1 : Int) ≤ 1; omega⟩
  | k + 1 => by
    have ih := treeSum f k
    have ok := treeAt_ok f k
    show TreeSum f ((treeAt f k).step (St.after f k) (f k) k) (k + 1)
    generalize treeAt f k = T at ih ok
    unfold Tree.step
    by_cases e2 : (f k).kind = 2
    · rw [if_pos e2]
      obtain ⟨pr, hpr⟩ : ∃ pr, pr = T.parOf ((St.after f k).tasks (St.after f k).cur) := ⟨_, rfl⟩
      have hpl : pr < T.bs.length := by
        rw [hpr]
        cases (St.after f k).tasks (St.after f k).cur with
        | nil => show (-1 : Int) < _; have := ok.pos; omega
        | cons fr r => show ((T.br fr.frm : Nat) : Int) < _; have := ok.br fr.frm; omega
      rw [← hpr]
      clear hpr
      obtain ⟨l1, l2, l3⟩ := brMake_len T.bs pr (f k).fn
      have hmc : lsum Br.calls (brMake T.bs pr (f k).fn) = lsum Br.calls T.bs ∧ lsum Br.self (brMake T.bs pr (f k).fn) = lsum Br.self T.bs := by
        unfold brMake
        split
        · exact ⟨rfl, rfl⟩
        · rw [lsum_app, lsum_app, lsum_cons, lsum_cons]
          exact ⟨by show _ + (0 + 0) = _; omega, by show _ + (0 + 0) = _; omega⟩
      refine ⟨?_, ?_, fun i h => ?_⟩
      · show lsum Br.calls (List.modify _ _ _) = _
        rw [lsum_modify Br.calls Br.called 1 (fun _ => rfl) _ _ l3, hmc.1, ih.calls, clN_succ, if_pos e2]; omega
      · show lsum Br.self (List.modify _ _ _) = _
        rw [lsum_modify Br.self Br.called 0 (fun x => by show x.self = x.self + 0; omega) _ _ l3, hmc.2, ih.selfs, lnN_succ, if_neg (by omega)]
      · have h' : i < ((brMake T.bs pr (f k).fn).modify (brFind T.bs pr (f k).fn) Br.called).length := h
        have hi : i < (brMake T.bs pr (f k).fn).length := by
          have h2 := h'
          rw [List.length_modify] at h2; exact h2
        have hraw : (brMake T.bs pr (f k).fn)[i].par < i ∧ 0 ≤ (brMake T.bs pr (f k).fn)[i].calls ∧ (i ≠ brFind T.bs pr (f k).fn → 1 ≤ (brMake T.bs pr (f k).fn)[i].calls) := by
          by_cases hb : brFind T.bs pr (f k).fn < T.bs.length
          · have e : brMake T.bs pr (f k).fn = T.bs := by unfold brMake; rw [if_pos hb]
            simp only [e] at hi ⊢
            have := ih.each i hi
            exact ⟨this.1, by omega, fun _ => this.2⟩
          · have e : brMake T.bs pr (f k).fn = T.bs ++ [⟨(f k).fn, pr, 0, 0⟩] := by unfold brMake; rw [if_neg hb]
            have hbe : brFind T.bs pr (f k).fn = T.bs.length := by have := brFind_le T.bs pr (f k).fn; omega
            simp only [e] at hi ⊢
            by_cases hi2 : i < T.bs.length
            · rw [List.getElem_append_left hi2]
              have := ih.each i hi2
              exact ⟨this.1, by omega, fun _ => this.2⟩
            · have hi3 : i = T.bs.length := by rw [List.length_append, List.length_singleton] at hi; omega
              subst hi3
              rw [List.getElem_append_right (Nat.le_refl _)]
              simp only [Nat.sub_self, List.getElem_cons_zero]
              exact ⟨hpl, Int.le_refl _, fun h => absurd hbe.symm h⟩
        have goal : (((brMake T.bs pr (f k).fn).modify (brFind T.bs pr (f k).fn) Br.called)[i]'h').par < i ∧ 1 ≤ (((brMake T.bs pr (f k).fn).modify (brFind T.bs pr (f k).fn) Br.called)[i]'h').calls := by
          rw [List.getElem_modify]
          by_cases e : brFind T.bs pr (f k).fn = i
          · rw [if_pos e]
            exact ⟨hraw.1, by show 1 ≤ _ + 1; omega⟩
          · rw [if_neg e]
            exact ⟨hraw.1, hraw.2.2 (fun h => e h.symm)⟩
        exact goal
    · rw [if_neg e2]
      by_cases e1 : (f k).kind = 1
      · rw [if_pos e1]
        have hb := ok.br (topFrom ((St.after f k).tasks (St.after f k).cur))
        refine ⟨?_, ?_, fun i h => ?_⟩
        · show lsum Br.calls (List.modify _ _ _) = _
          rw [lsum_modify Br.calls Br.lined 0 (fun x => by show x.calls = x.calls + 0; omega) _ _ hb, ih.calls, clN_succ, if_neg e2]; omega
        · show lsum Br.self (List.modify _ _ _) = _
          rw [lsum_modify Br.self Br.lined 1 (fun _ => rfl) _ _ hb, ih.selfs, lnN_succ, if_pos e1]
        · have h' : i < (T.bs.modify (T.br (topFrom ((St.after f k).tasks (St.after f k).cur))) Br.lined).length := h
          have hi : i < T.bs.length := by
            have h2 := h'
            rw [List.length_modify] at h2; exact h2
          have := ih.each i hi
          have goal : ((T.bs.modify (T.br (topFrom ((St.after f k).tasks (St.after f k).cur))) Br.lined)[i]'h').par < i ∧ 1 ≤ ((T.bs.modify (T.br (topFrom ((St.after f k).tasks (St.after f k).cur))) Br.lined)[i]'h').calls := by
            rw [List.getElem_modify]
            split
            · exact this
            · exact this
          exact goal
      · rw [if_neg e1]
        exact ⟨by rw [ih.calls, clN_succ, if_neg e2]; omega, by rw [ih.selfs, lnN_succ, if_neg e1]; omega, ih.each⟩
end Go.Proofs.Ytoiacbdnkkolmaa
