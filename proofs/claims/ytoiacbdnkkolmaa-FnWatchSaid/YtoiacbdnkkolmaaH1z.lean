import Derived.Test.YtoiacbdnkkolmaaGDbz
import Derived.Test.YtoiacbdnkkolmaaGCaz
import Derived.Test.YtoiacbdnkkolmaaGFz
/-
  FnDeep's trace as a plain function: a fn n deep in itself.
-/
namespace Go.Proofs.Ytoiacbdnkkolmaa
open Go.RowKit

def cMo : Mo := ⟨2, 0, 1, 0, ⟨#[]⟩, .slice none 0 0, []⟩
def lMo : Mo := ⟨1, 0, 1, 3, ⟨#[]⟩, .slice none 0 0, []⟩
def bMo : Mo := ⟨3, 0, 1, 0, ⟨#[]⟩, .slice none 0 0, []⟩

def deepMo (n i : Nat) : Mo := if i < 2 * n then (if i % 2 = 0 then cMo else lMo) else if i < 3 * n then bMo else Mo.nul
def deepM (n i : Nat) : M := (deepMo n i).m

theorem deepM_c {n i : Nat} (h : i < n) : deepM n (2 * i) = cMo.m := by unfold deepM deepMo; rw [if_pos (by omega), if_pos (by omega)]
theorem deepM_l {n i : Nat} (h : i < n) : deepM n (2 * i + 1) = lMo.m := by unfold deepM deepMo; rw [if_pos (by omega), if_neg (by omega)]
theorem deepM_b {n j : Nat} (h : j < n) : deepM n (2 * n + j) = bMo.m := by unfold deepM deepMo; rw [if_neg (by omega), if_pos (by omega)]

/-- Each moment is of one of three kinds. -/
theorem deep_split {n k : Nat} (h : k < 3 * n) : (∃ i, i < n ∧ k = 2 * i) ∨ (∃ i, i < n ∧ k = 2 * i + 1) ∨ ∃ j, j < n ∧ k = 2 * n + j := by
  by_cases h1 : k < 2 * n
  · by_cases h2 : k % 2 = 0
    · exact .inl ⟨k / 2, by omega, by omega⟩
    · exact .inr (.inl ⟨k / 2, by omega, by omega⟩)
  · exact .inr (.inr ⟨k - 2 * n, by omega, by omega⟩)

def stk : Nat → List Fr
  | 0 => [⟨0, 0, -1⟩]
  | i + 1 => ⟨1, 3, 2 * (i : Int)⟩ :: stk i

theorem stk_len : ∀ i, (stk i).length = i + 1
  | 0 => rfl
  | i + 1 => by show (stk i).length + 1 = _; rw [stk_len i]

def dS (l : List Fr) : St := ⟨0, fun t => if t = 0 then l else []⟩

theorem dS_tasks (l : List Fr) : (dS l).tasks (dS l).cur = l := rfl
theorem dS_zero (l : List Fr) : (dS l).tasks 0 = l := rfl

theorem dS_put (l l' : List Fr) : (dS l).put l' = dS l' := by
  unfold St.put dS
  congr 1
  funext t
  show (if t = 0 then l' else if t = 0 then l else []) = _
  split <;> rfl

theorem deep_step_c (l : List Fr) (k : Int) : (dS l).step cMo.m.kind cMo.m.task cMo.m.fn cMo.m.line k = dS (⟨1, 0, k⟩ :: l) := by
  show (dS l).put _ = _
  rw [dS_put]; rfl

theorem deep_step_l (a b c : Int) (l : List Fr) (k : Int) : (dS (⟨a, b, c⟩ :: l)).step lMo.m.kind lMo.m.task lMo.m.fn lMo.m.line k = dS (⟨a, 3, c⟩ :: l) := by
  show (dS (⟨a, b, c⟩ :: l)).put _ = _
  rw [dS_put]; rfl

theorem deep_step_b (x : Fr) (l : List Fr) (k : Int) : (dS (x :: l)).step bMo.m.kind bMo.m.task bMo.m.fn bMo.m.line k = dS l := by
  show (dS (x :: l)).put _ = _
  rw [dS_put]; rfl

theorem after_succ (f : Nat → M) (k : Nat) : St.after f (k + 1) = (St.after f k).step (f k).kind (f k).task (f k).fn (f k).line k := rfl

theorem deep_even (n : Nat) : ∀ i, i ≤ n → St.after (deepM n) (2 * i) = dS (stk i)
  | 0, _ => rfl
  | i + 1, h => by
    have ih := deep_even n i (by omega)
    have e1 : St.after (deepM n) (2 * i + 1) = dS (⟨1, 0, ((2 * i : Nat) : Int)⟩ :: stk i) := by
      rw [after_succ, ih, deepM_c (by omega), deep_step_c]
    rw [show 2 * (i + 1) = (2 * i + 1) + 1 from rfl, after_succ, e1, deepM_l (by omega), deep_step_l]
    simp [stk]

theorem deep_odd (n : Nat) {i : Nat} (h : i < n) : St.after (deepM n) (2 * i + 1) = dS (⟨1, 0, ((2 * i : Nat) : Int)⟩ :: stk i) := by
  rw [after_succ, deep_even n i (by omega), deepM_c h, deep_step_c]

theorem deep_back (n : Nat) : ∀ j, j ≤ n → St.after (deepM n) (2 * n + j) = dS (stk (n - j))
  | 0, _ => deep_even n n (Nat.le_refl _)
  | j + 1, h => by
    rw [show 2 * n + (j + 1) = (2 * n + j) + 1 from rfl, after_succ, deep_back n j (by omega), deepM_b (by omega)]
    obtain ⟨m, hm⟩ : ∃ m, n - j = m + 1 := ⟨n - j - 1, by omega⟩
    rw [hm, show n - (j + 1) = m by omega]
    exact deep_step_b _ _ _

def deepFns (i : Nat) : ByteArray := ([⟨#[109, 97, 105, 110]⟩, ⟨#[102]⟩] : List ByteArray).getD i ByteArray.empty

theorem deep_sound {n : Nat} (h0 : 1 ≤ n) (hn : n ≤ 150) : Sound 2 deepFns (3 * n) (deepM n) := by
  refine ⟨⟨by omega, by omega, by omega, fun i hi => ?_⟩, fun k hk => ?_, fun k hk => ?_⟩
  · rcases (show i = 0 ∨ i = 1 by omega) with rfl | rfl <;> decide
  · have hv : VarsOk 0 (fun i => ([] : List V).getD i V.nul) := ⟨by omega, fun i hi => by omega⟩
    rcases deep_split hk with ⟨i, hi, rfl⟩ | ⟨i, hi, rfl⟩ | ⟨j, hj, rfl⟩
    · rw [deepM_c hi]; exact ⟨by unfold HeadOk; decide, hv⟩
    · rw [deepM_l hi]; exact ⟨by unfold HeadOk; decide, hv⟩
    · rw [deepM_b hj]; exact ⟨by unfold HeadOk; decide, hv⟩
  · unfold codeAt
    rcases deep_split hk with ⟨i, hi, rfl⟩ | ⟨i, hi, rfl⟩ | ⟨j, hj, rfl⟩
    · rw [deepM_c hi, deep_even n i (by omega)]
      show (if (stk i).length = 200 then (5 : Int) else 0) = 0
      rw [stk_len, if_neg (by omega)]
    · rw [deepM_l hi, deep_odd n hi]; rfl
    · rw [deepM_b hj, deep_back n j (by omega)]
      obtain ⟨m, hm⟩ : ∃ m, n - j = m + 1 := ⟨n - j - 1, by omega⟩
      rw [hm]
      show (if (2 * (m : Int)) < 0 then (4 : Int) else 0) = 0
      rw [if_neg (by omega)]

/-- The counts behind i calls and lines. -/
def deepFc (i : Nat) (r j : Nat) : Int := if r = 0 then (if j = 1 then 1 else if j = 3 then i else 0) else if r = 1 then (if j = 0 then 1 else (i : Int)) else if j = 0 then r else 0

theorem stk_has : ∀ i, hasFn (stk i) 0 = true
  | 0 => rfl
  | i + 1 => by
    show (decide ((1 : Int) = 0) || hasFn (stk i) 0) = true
    rw [stk_has i]; rfl

theorem deep_fc (n : Nat) : ∀ i, i ≤ n → ∀ r j, r < 2 → j < 4 → fcRow (deepM n) (2 * i) r j = deepFc i r j
  | 0, _ => fun r j hr hj => by
    rcases (show r = 0 ∨ r = 1 by omega) with rfl | rfl <;> rcases (show j = 0 ∨ j = 1 ∨ j = 2 ∨ j = 3 by omega) with rfl | rfl | rfl | rfl <;> rfl
  | i + 1, h => fun r j hr hj => by
    have ih := deep_fc n i (by omega) r j hr hj
    show (fcRow (deepM n) (2 * i) r j + fcAdd (deepM n (2 * i)) (runs (deepM n) (2 * i + 1)) r j) + fcAdd (deepM n (2 * i + 1)) (runs (deepM n) (2 * i + 1 + 1)) r j = _
    have hr2 : runs (deepM n) (2 * i + 1 + 1) = stk (i + 1) := by
      unfold runs
      rw [show 2 * i + 1 + 1 = 2 * (i + 1) by omega, deep_even n (i + 1) h]; rfl
    rw [ih, hr2, deepM_c (by omega), deepM_l (by omega)]
    have h0 := stk_has (i + 1)
    have h1 : hasFn (stk (i + 1)) 1 = true := by
      show (decide ((1 : Int) = 1) || hasFn (stk i) 1) = true
      simp
    rcases (show r = 0 ∨ r = 1 by omega) with rfl | rfl <;> rcases (show j = 0 ∨ j = 1 ∨ j = 2 ∨ j = 3 by omega) with rfl | rfl | rfl | rfl <;>
      simp [fcAdd, deepFc, cMo, lMo, Mo.m, h0, h1]

theorem deep_fc_end (n : Nat) : ∀ j, j ≤ n → ∀ r c, r < 2 → c < 4 → fcRow (deepM n) (2 * n + j) r c = deepFc n r c
  | 0, _ => deep_fc n n (Nat.le_refl _)
  | j + 1, h => fun r c hr hc => by
    show fcRow (deepM n) (2 * n + j) r c + fcAdd (deepM n (2 * n + j)) _ r c = _
    rw [deep_fc_end n j (by omega) r c hr hc, deepM_b (by omega)]
    simp [fcAdd, bMo, Mo.m]

/-- The branches behind i calls and lines. -/
def deepBs : Nat → List Br
  | 0 => [⟨0, -1, 1, 0⟩]
  | i + 1 => deepBs i ++ [⟨1, (i : Int), 1, 1⟩]

def deepBr : Nat → Int → Nat
  | 0 => fun _ => 0
  | i + 1 => fun x => if x = 2 * (i : Int) then i + 1 else deepBr i x

theorem deepBs_len : ∀ i, (deepBs i).length = i + 1
  | 0 => rfl
  | i + 1 => by unfold deepBs; rw [List.length_append, deepBs_len i]; rfl

theorem deepBs_par : ∀ i b, b ∈ deepBs i → b.par < (i : Int)
  | 0, b, h => by rw [List.mem_singleton.1 h]; decide
  | i + 1, b, h => by
    rcases List.mem_append.1 h with h | h
    · have := deepBs_par i b h; omega
    · rw [List.mem_singleton.1 h]; show (i : Int) < ((i + 1 : Nat) : Int); omega

theorem deep_find (i : Nat) : brFind (deepBs i) (i : Int) 1 = i + 1 := by
  unfold brFind
  rw [List.findIdx_eq_length_of_false, deepBs_len]
  intro b hb
  have := deepBs_par i b hb
  unfold isBr
  simp
  omega

theorem modify_last {α : Type} (l : List α) (a : α) (g : α → α) (k : Nat) (h : k = l.length) : (l ++ [a]).modify k g = l ++ [g a] := by
  subst h
  induction l with
  | nil => rfl
  | cons x r ih =>
    simp
    exact ih

theorem deepBr_top : ∀ i, deepBr i (topFrom (stk i)) = i
  | 0 => rfl
  | i + 1 => by
    show (if (2 * (i : Int)) = 2 * (i : Int) then i + 1 else _) = _
    rw [if_pos rfl]

theorem stk_par (i : Nat) : (⟨deepBs i, deepBr i⟩ : Tree).parOf (stk i) = (i : Int) := by
  have h : (⟨deepBs i, deepBr i⟩ : Tree).parOf (stk i) = ((deepBr i (topFrom (stk i)) : Nat) : Int) := by
    cases i <;> rfl
  rw [h, deepBr_top]

theorem deep_tree (n : Nat) : ∀ i, i ≤ n → treeAt (deepM n) (2 * i) = ⟨deepBs i, deepBr i⟩
  | 0, _ => rfl
  | i + 1, h => by
    have ih := deep_tree n i (by omega)
    have e1 : treeAt (deepM n) (2 * i + 1) = ⟨deepBs i ++ [⟨1, (i : Int), 1, 0⟩], deepBr (i + 1)⟩ := by
      show (treeAt (deepM n) (2 * i)).step (St.after (deepM n) (2 * i)) (deepM n (2 * i)) ((2 * i : Nat) : Int) = _
      rw [ih, deep_even n i (by omega), deepM_c (by omega)]
      show (⟨deepBs i, deepBr i⟩ : Tree).call ((⟨deepBs i, deepBr i⟩ : Tree).parOf (stk i)) 1 ((2 * i : Nat) : Int) = _
      rw [stk_par]
      unfold Tree.call brMake
      simp only
      rw [deep_find, deepBs_len, if_neg (by omega), modify_last _ _ _ _ (deepBs_len i).symm]
      have e : (fun x : Int => if x = ((2 * i : Nat) : Int) then i + 1 else deepBr i x) = deepBr (i + 1) := by
        funext x
        show _ = if x = 2 * (i : Int) then i + 1 else deepBr i x
        rw [show ((2 * i : Nat) : Int) = 2 * (i : Int) by omega]
      rw [e]; rfl
    show (treeAt (deepM n) (2 * i + 1)).step (St.after (deepM n) (2 * i + 1)) (deepM n (2 * i + 1)) _ = _
    rw [e1, deep_odd n (by omega), deepM_l (by omega)]
    show (⟨deepBs i ++ [⟨1, (i : Int), 1, 0⟩], deepBr (i + 1)⟩ : Tree).line ((2 * i : Nat) : Int) = _
    unfold Tree.line
    have e2 : deepBr (i + 1) ((2 * i : Nat) : Int) = i + 1 := by
      show (if ((2 * i : Nat) : Int) = 2 * (i : Int) then i + 1 else _) = _
      rw [if_pos (by omega)]
    simp only
    rw [e2, modify_last _ _ _ _ (deepBs_len i).symm]
    rfl

theorem deep_tree_end (n : Nat) : ∀ j, j ≤ n → treeAt (deepM n) (2 * n + j) = ⟨deepBs n, deepBr n⟩
  | 0, _ => deep_tree n n (Nat.le_refl _)
  | j + 1, h => by
    show (treeAt (deepM n) (2 * n + j)).step (St.after (deepM n) (2 * n + j)) (deepM n (2 * n + j)) _ = _
    rw [deep_tree_end n j (by omega), deepM_b (by omega)]
    rfl

theorem deepBs_get? : ∀ (n i : Nat), 1 ≤ i → i ≤ n → (deepBs n)[i]? = some ⟨1, (i : Int) - 1, 1, 1⟩
  | 0, i, h1, h2 => by omega
  | n + 1, i, h1, h2 => by
    rw [show deepBs (n + 1) = deepBs n ++ [(⟨1, (n : Int), 1, 1⟩ : Br)] from rfl]
    by_cases e : i = n + 1
    · subst e
      rw [List.getElem?_append_right (by rw [deepBs_len]; omega), deepBs_len, Nat.sub_self]
      simp
    · rw [List.getElem?_append_left (by rw [deepBs_len]; omega)]
      exact deepBs_get? n i h1 (by omega)

theorem deep_deep (n k : Nat) (l : List Fr) (h : St.after (deepM n) (k + 1) = dS l) : deepAt (deepM n) 0 k = l.length := by
  unfold deepAt
  rw [h]; rfl

theorem deep_over {n : Nat} (h0 : 1 ≤ n) : StepIs (3 * n) (deepM n) 0 1 1 := by
  refine .inl ⟨by omega, ?_⟩
  have e : St.after (deepM n) (upto (3 * n) 0) = dS (⟨1, 0, 0⟩ :: stk 0) := by
    rw [show upto (3 * n) 0 = 2 * 0 + 1 by unfold upto; omega, deep_odd n (by omega)]; rfl
  rw [e]
  refine .inl ⟨1, rfl, by omega, by omega, ?_, fun i h1 h2 => by omega⟩
  have hd : deepAt (deepM n) 0 1 = 2 := by rw [deep_deep n 1 (stk 1) (deep_even n 1 (by omega))]; rfl
  show (((deepM n 1).task == ((0 : Nat) : Int)) && mayEnd (deepM n) 0 2 1 1) = true
  unfold mayEnd
  simp only
  rw [hd, show (deepM n 1) = lMo.m from deepM_l (i := 0) (by omega)]
  rfl

theorem deep_out_hit {n d : Nat} (k : Nat) (hk : k < 3 * n) : stepHit (deepM n) 0 d 2 k = decide (∃ j, j < n ∧ k = 2 * n + j ∧ n - j < d) := by
  unfold stepHit mayEnd
  simp only
  rcases deep_split hk with ⟨i, hi, rfl⟩ | ⟨i, hi, rfl⟩ | ⟨j, hj, rfl⟩
  · rw [deepM_c hi, show (cMo.m.kind == 3) = false from rfl, Bool.false_and, Bool.and_false]
    symm; simp; intro j hj e; omega
  · rw [deepM_l hi, show (lMo.m.kind == 3) = false from rfl, Bool.false_and, Bool.and_false]
    symm; simp; intro j hj e; omega
  · have hd : deepAt (deepM n) 0 (2 * n + j) = n - j := by
      rw [deep_deep n (2 * n + j) (stk (n - (j + 1))) (deep_back n (j + 1) (by omega)), stk_len]; omega
    rw [deepM_b hj, hd, show (bMo.m.kind == 3) = true from rfl, show (bMo.m.task == ((0 : Nat) : Int)) = true from rfl, Bool.true_and, Bool.true_and, decide_eq_decide]
    constructor
    · intro h; exact ⟨j, hj, rfl, h⟩
    · rintro ⟨j', _, e, h⟩
      obtain rfl : j = j' := by omega
      exact h

theorem deep_out1 {n : Nat} (h0 : 1 ≤ n) : StepIs (3 * n) (deepM n) (2 * (n : Int) - 1) 2 (2 * (n : Int)) := by
  refine .inl ⟨by omega, ?_⟩
  have e : St.after (deepM n) (upto (3 * n) (2 * (n : Int) - 1)) = dS (stk n) := by
    rw [show upto (3 * n) (2 * (n : Int) - 1) = 2 * n by unfold upto; omega, deep_even n n (Nat.le_refl _)]
  rw [e]
  refine .inl ⟨2 * n, by omega, by omega, by omega, ?_, fun i h1 h2 => by omega⟩
  show stepHit (deepM n) 0 (stk n).length 2 (2 * n) = true
  rw [stk_len, deep_out_hit _ (by omega)]
  exact decide_eq_true ⟨0, by omega, by omega, by omega⟩

theorem deep_out0 {n : Nat} (h0 : 1 ≤ n) : StepIs (3 * n) (deepM n) 0 2 (3 * (n : Int) - 1) := by
  refine .inl ⟨by omega, ?_⟩
  have e : St.after (deepM n) (upto (3 * n) 0) = dS (⟨1, 0, 0⟩ :: stk 0) := by
    rw [show upto (3 * n) 0 = 2 * 0 + 1 by unfold upto; omega, deep_odd n (by omega)]; rfl
  rw [e]
  refine .inl ⟨3 * n - 1, by omega, by omega, by omega, ?_, fun i h1 h2 => ?_⟩
  · show stepHit (deepM n) 0 2 2 (3 * n - 1) = true
    rw [deep_out_hit _ (by omega)]
    exact decide_eq_true ⟨n - 1, by omega, by omega, by omega⟩
  · show stepHit (deepM n) 0 2 2 i = false
    rw [deep_out_hit _ (by omega)]
    refine decide_eq_false ?_
    rintro ⟨j, hj, e1, e2⟩
    omega
end Go.Proofs.Ytoiacbdnkkolmaa
