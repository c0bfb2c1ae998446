import Derived.Test.YtoiacbdnkkolmabS3
import Derived.Deep.QuietTactic
import Derived.BigQuiet
import Derived.Deep.RegionHeld3
import Derived.Deep.AppendLies
namespace Go.Proofs.Ytoiacbdnkkolmab
open Go.RowKit

def frCells (l : List Fr) : List Value := l.flatMap fun f => [.int .i64 f.fn, .int .i64 f.line, .int .i64 f.frm]

/-- The specification's open calls in memory: 'ps' its block, 'bt' that of the tasks, 'V t' task t's slice; all of its blocks B or behind it. -/
structure SpecCore (B : Nat) (w : World) (ps bt : Nat) (V : Nat → Value) (s : St) : Prop where
  hp : B ≤ ps
  hbt : B ≤ bt
  ne : ps ≠ bt
  c0 : w.cell? ⟨ps, 0, none⟩ = some (.slice (some ⟨bt, 0, none⟩) 101 101)
  c1 : w.cell? ⟨ps, 1, none⟩ = some (.int .i64 s.cur)
  fz : w.frozen? ⟨ps, 1, none⟩ = false
  row : w.rowIs bt 100 101 V
  own : ∀ t, t < 101 → w.ownsRow B 105 3 (V t) (s.tasks t).length (frCells (s.tasks t).reverse)
  nps : ∀ t, t < 101 → (V t).ownBlock ≠ some ps
  nbt : ∀ t, t < 101 → (V t).ownBlock ≠ some bt
  dis : ∀ t t', t < 101 → t' < 101 → t ≠ t' → (V t).ownBlock = none ∨ (V t).ownBlock ≠ (V t').ownBlock
  cur : s.cur < 101
  len : ∀ t, t < 101 → (s.tasks t).length ≤ 200

def SpecAt (B : Nat) (w : World) (ps : Nat) (s : St) : Prop := ∃ bt V, SpecCore B w ps bt V s

theorem owns_slice {w : World} {B : Nat} {e : TypeId} {z : Nat} {v : Value} {n : Nat} {xs : List Value} (h : w.ownsRow B e z v n xs) : ∃ a cap, v = .slice a n cap := by
  rcases h.2 with ⟨rfl, rfl⟩ | ⟨g, cap, _, rfl, _⟩
  · exact ⟨none, 0, rfl⟩
  · exact ⟨_, cap, rfl⟩

theorem frCells_len (l : List Fr) : (frCells l).length = l.length * 3 := by
  induction l with
  | nil => rfl
  | cons f r ih => simp only [frCells, List.flatMap_cons, List.length_append, List.length_cons, List.length_nil] at *; omega

theorem frCells_app (a b : List Fr) : frCells (a ++ b) = frCells a ++ frCells b := by simp [frCells]

theorem owns_cell {w : World} {B : Nat} {e : TypeId} {z : Nat} {g : Nat} {n cap : Nat} {xs : List Value} (h : w.ownsRow B e z (.slice (some ⟨g, 0, none⟩) n cap) n xs) (j : Nat) (u : Value) (hu : xs[j]? = some u) :
    w.cell? ⟨g, j, none⟩ = some u ∧ w.frozen? ⟨g, j, none⟩ = false := by
  rcases h.2 with ⟨h, _⟩ | ⟨g', cap', cur, hv, _, hg, _, _, _, ht⟩
  · cases h
  · cases hv
    rw [← ht, List.getElem?_take] at hu
    split at hu
    · refine ⟨?_, by simp [World.frozen?, hg]⟩
      simp only [World.cell?, hg]
      simpa using hu
    · cases hu

/-- The innermost open call's cells. -/
theorem owns_top {w : World} {B : Nat} {e : TypeId} {v : Value} {f : Fr} {r : List Fr} (h : w.ownsRow B e 3 v (f :: r).length (frCells (f :: r).reverse)) :
    ∃ g cap, v = .slice (some ⟨g, 0, none⟩) (r.length + 1) cap ∧ B ≤ g ∧ g < w.heap.size ∧ w.cell? ⟨g, r.length * 3, none⟩ = some (.int .i64 f.fn) ∧ w.cell? ⟨g, r.length * 3 + 1, none⟩ = some (.int .i64 f.line) ∧ w.cell? ⟨g, r.length * 3 + 2, none⟩ = some (.int .i64 f.frm) ∧
      w.frozen? ⟨g, r.length * 3 + 1, none⟩ = false := by
  have h' := h
  rcases h.2 with ⟨_, h0⟩ | ⟨g, cap, cur, rfl, hB, hg, _⟩
  · simp at h0
  have e1 : frCells (f :: r).reverse = frCells r.reverse ++ [.int .i64 f.fn, .int .i64 f.line, .int .i64 f.frm] := by rw [List.reverse_cons, frCells_app]; rfl
  have hl : (frCells r.reverse).length = r.length * 3 := by rw [frCells_len, List.length_reverse]
  rw [e1] at h'
  refine ⟨g, cap, rfl, hB, (Array.getElem?_eq_some_iff.1 hg).1, (owns_cell h' _ _ ?_).1, (owns_cell h' _ _ ?_).1, (owns_cell h' _ _ ?_).1, (owns_cell h' (r.length * 3 + 1) (.int .i64 f.line) ?_).2⟩
  · rw [List.getElem?_append_right (by omega), hl]; simp
  · rw [List.getElem?_append_right (by omega), hl]; simp
  · rw [List.getElem?_append_right (by omega), hl]; simp
  · rw [List.getElem?_append_right (by omega), hl]; simp

theorem SpecCore.grown {B : Nat} {w w' : World} {ps bt : Nat} {V : Nat → Value} {s : St} (h : SpecCore B w ps bt V s) (hb : Below w.heap.size w w') : SpecCore B w' ps bt V s := by
  have hg : w.grownBy w' none := ⟨hb.os, hb.tape, hb.output, hb.size, fun k hk _ => hb.block k hk⟩
  refine ⟨h.hp, h.hbt, h.ne, cell_below hb h.c0, cell_below hb h.c1, ?_, h.row.of_block (hb.block _ h.row.lt), fun t ht => (h.own t ht).kept hg ?_, h.nps, h.nbt, h.dis, h.cur, h.len⟩
  · rw [hb.frozen (cell_lt h.c1)]; exact h.fz
  · by_cases e : (V t).ownBlock = none
    · exact .inl e
    · exact .inr e

theorem SpecAt.below {B : Nat} {w w' : World} {ps : Nat} {s : St} (hb : Below w.heap.size w w') (h : SpecAt B w ps s) : SpecAt B w' ps s := by
  obtain ⟨bt, V, h⟩ := h
  exact ⟨bt, V, h.grown hb⟩

set_option maxHeartbeats 400000 in
theorem top_any (B ps : Nat) (s : St) (w : World) (h : SpecAt B w ps s) :
    Calls Try.prog 115 #[.pointer (some ⟨ps, 0, none⟩)] w fun e w' => e = .returned (.int .i64 ((s.tasks s.cur).length - 1)) ∧ ∃ q, w' = w.drewN q := by
  obtain ⟨bt, V, hh⟩ := h
  have h0 := hh.c0
  have h1 := hh.c1
  have h4 := hh.cur
  obtain ⟨a, cap, hV⟩ := owns_slice (hh.own s.cur h4)
  have hc := hh.row.cell h4
  rw [hV] at hc
  have hl := hh.len s.cur h4
  clear hh
  have hi1 : (0 : Int) ≤ (s.cur : Int) := by omega
  have hi2 : (s.cur : Int) < 101 := by omega
  clear hV
  generalize (s.tasks s.cur).length = n at *
  generalize s.cur = c at *
  go_enter Try.func115, Try.ntmps115
  go_wp2
  go_quiet (fail)
  go_wp2
  go_ret
  exact ⟨rfl, _, rfl⟩

theorem below_drewN' (w : World) (q : Nat) : Below w.heap.size w (w.drewN q) := below_drewN (Below.refl _ _) q

set_option maxHeartbeats 400000 in
theorem fn_any (B ps : Nat) (s : St) (w : World) (h : SpecAt B w ps s) :
    Calls Try.prog 116 #[.pointer (some ⟨ps, 0, none⟩)] w fun e w' => e = .returned (.int .i64 (topFn (s.tasks s.cur))) ∧ ∃ q, w' = w.drewN q := by
  have H := hide h
  obtain ⟨bt, V, hh⟩ := h
  have h0 := hh.c0
  have h1 := hh.c1
  have h4 := hh.cur
  have hc := hh.row.cell h4
  have hl := hh.len s.cur h4
  have ho := hh.own s.cur h4
  clear hh
  have hi1 : (0 : Int) ≤ (s.cur : Int) := by omega
  have hi2 : (s.cur : Int) < 101 := by omega
  have HT : Hid (∀ q, Calls Try.prog 115 #[.pointer (some ⟨ps, 0, none⟩)] (w.drewN q) fun e w' => e = .returned (.int .i64 ((s.tasks s.cur).length - 1)) ∧ ∃ q', w' = (w.drewN q).drewN q') :=
    hide fun q => top_any B ps s _ ((unhide H).below (below_drewN' w q))
  have HT2 : Hid (∀ p q, Calls Try.prog 115 #[.pointer (some ⟨ps, 0, none⟩)] ((w.drewN p).drewN q) fun e w' => e = .returned (.int .i64 ((s.tasks s.cur).length - 1)) ∧ ∃ q', w' = ((w.drewN p).drewN q).drewN q') :=
    hide fun p q => top_any B ps s _ (((unhide H).below (below_drewN' w p)).below (below_drewN' (w.drewN p) q))
  cases hs : s.tasks s.cur with
  | nil =>
    clear HT2
    rw [hs] at HT
    have HT0 := hide (unhide HT 0)
    clear HT ho hc hl hs
    go_enter Try.func116, Try.ntmps116
    go_wp2_with fail
    refine (show Calls Try.prog _ _ w _ from unhide HT0).mono ?_
    rintro e w1 ⟨rfl, q, hq⟩
    subst hq
    go_wp2
    go_ret
    exact ⟨rfl, _, rfl⟩
  | cons f r =>
    rw [hs] at HT HT2 ho hl
    obtain ⟨g, cap, hV, -, -, k0, -⟩ := owns_top ho
    rw [hV] at hc
    clear hs ho hV
    have hl' : r.length < 200 := by simp at hl; omega
    clear hl
    rw [show (((f :: r).length : Nat) : Int) - 1 = (r.length : Int) by simp] at HT HT2
    have e2 : topFn (f :: r) = f.fn := rfl
    rw [e2]
    clear e2
    generalize f.fn = fn at *
    generalize r.length = n at *
    generalize s.cur = c at *
    clear H
    go_enter Try.func116, Try.ntmps116
    go_wp2_with fail
    refine (show Calls Try.prog _ _ w _ from unhide HT 0).mono ?_
    rintro e w1 ⟨rfl, q, hq⟩
    have hq' : w1 = w.drewN q := hq
    have HT3 : Hid (∀ m, Calls Try.prog 115 #[.pointer (some ⟨ps, 0, none⟩)] (w1.drewN m) fun e w' => e = .returned (.int .i64 (n : Int)) ∧ ∃ q', w' = (w1.drewN m).drewN q') := by
      rw [hq']; exact hide (unhide HT2 q)
    have h0' : w1.cell? ⟨ps, 0, none⟩ = some (.slice (some ⟨bt, 0, none⟩) 101 101) := by rw [hq']; simpa using h0
    have h1' : w1.cell? ⟨ps, 1, none⟩ = some (.int .i64 c) := by rw [hq']; simpa using h1
    have hc' : w1.cell? ⟨bt, c, none⟩ = some (.slice (some ⟨g, 0, none⟩) (n + 1) cap) := by rw [hq']; simpa using hc
    have k0' : w1.cell? ⟨g, n * 3, none⟩ = some (.int .i64 fn) := by rw [hq']; simpa using k0
    have HQ := hide hq'
    clear hq hq' HT HT2 h0 h1 hc k0
    go_wp2_with fail
    go_quiet ((go_at_call 115; exact Calls.quiet_of (unhide HT3 _)))
    go_wp2
    go_ret
    refine ⟨rfl, ?_⟩
    rw [unhide HQ]
    exact ⟨_, World.drewN_drewN _ _ _⟩
end Go.Proofs.Ytoiacbdnkkolmab
