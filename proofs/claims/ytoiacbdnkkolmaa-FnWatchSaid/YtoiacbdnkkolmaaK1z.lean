import Derived.Test.YtoiacbdnkkolmaaH1z
import Derived.Test.YtoiacbdnkkolmaaG2z
import Derived.Test.YtoiacbdnkkolmaaGEaz
/-
  FnWatch's trace, moment by moment: what the watch says of it.
-/
namespace Go.Proofs.Ytoiacbdnkkolmaa
open Go.RowKit

theorem ownOf_congr {f g : Nat → M} {k : Nat} (h : ∀ i, i < k + 1 → f i = g i) : ownOf f k = ownOf g k := by
  unfold ownOf runs
  rw [h k (by omega)]
  split
  · rw [after_congr k (fun i hi => h i (by omega))]
  · rw [after_congr (k + 1) h]

theorem shows_congr {f g : Nat → M} {nm : ByteArray} {k : Nat} (h : f k = g k) : shows f nm k = shows g nm k := by unfold shows; rw [h]

theorem prevText_congr {f g : Nat → M} {nm : ByteArray} {frm : Int} : ∀ {k : Nat}, (∀ i, i < k → f i = g i) → prevText f nm frm k = prevText g nm frm k
  | 0, _ => rfl
  | k + 1, h => by
    rw [prevText_step, prevText_step, ownOf_congr h, shows_congr (h k (by omega)), prevText_congr (k := k) (fun i hi => h i (by omega))]

theorem watchHit_congr {f g : Nat → M} {s : Sp} {k : Nat} (h : ∀ i, i < k + 1 → f i = g i) : watchHit f s k = watchHit g s k := by
  unfold watchHit
  rw [ownOf_congr h, shows_congr (h k (by omega))]
  split
  · rw [prevText_congr (fun i hi => h i (by omega))]
  · rfl

theorem ups_congr {P Q : Nat → Bool} : ∀ {k : Nat}, (∀ i, i < k → P i = Q i) → ups P 0 k = ups Q 0 k
  | 0, _ => rfl
  | k + 1, h => by
    have ih := ups_congr (k := k) (fun i hi => h i (by omega))
    have hk := h k (by omega)
    cases e : P k with
    | true => rw [ups_yes (Nat.zero_le _) e, ups_yes (Nat.zero_le _) (by rw [← hk]; exact e), ih]
    | false => rw [ups_no e, ups_no (by rw [← hk]; exact e), ih]

/-- Nothing was shown of a call that is opened at i or later. -/
theorem prevText_late {f : Nat → M} {nm : ByteArray} {frm : Int} : ∀ {i : Nat}, (i : Int) ≤ frm → prevText f nm frm i = none
  | 0, _ => rfl
  | i + 1, h => by
    rw [prevText_step]
    have ih := prevText_late (f := f) (nm := nm) (frm := frm) (i := i) (by omega)
    cases e1 : ownOf f i with
    | none => exact ih
    | some fr =>
      cases e2 : shows f nm i with
      | none => exact ih
      | some t =>
        have := ownOf_frm e1
        show (if fr.frm = frm then some t else prevText f nm frm i) = none
        rw [if_neg (by omega)]; exact ih

abbrev xNm : ByteArray := ⟨#[120]⟩
def wS : Sp := ⟨3, 1, 0, xNm⟩

theorem hit_watch (f : Nat → M) (k : Nat) : hit f wS k = watchHit f wS k := rfl

/-- What stands behind the moments so far: the state, where the watch stopped, what the outer call showed last. -/
structure WInv (ms : List Mo) (want : List Nat) (s : St) (prev : Option ByteArray) : Prop where
  aft : St.after (momOf ms) ms.length = s
  ok : ∀ i, i < ms.length → MomentOk 2 (momOf ms i) ∧ codeAt (momOf ms) i = 0
  hits : ups (hit (momOf ms) wS) 0 ms.length = want
  prv : prevText (momOf ms) xNm 0 ms.length = prev

theorem WInv.nil : WInv [] [] St.init none := ⟨rfl, fun _ hi => absurd hi (Nat.not_lt_zero _), rfl, rfl⟩

/-- One moment more that shows nothing of x. -/
theorem WInv.mute {ms : List Mo} {want : List Nat} {s : St} {prev : Option ByteArray} (h : WInv ms want s prev) (m : Mo) (hm : MomentOk 2 m.m) (hc : code s m.kind m.task m.fn = 0) (hl : m.l = []) :
    WInv (ms ++ [m]) want (s.step m.kind m.task m.fn m.line ms.length) prev := by
  have hcg : ∀ i, i < ms.length → momOf (ms ++ [m]) i = momOf ms i := fun i hi => momOf_left ms m i hi
  have hlast := momOf_last ms m
  have ha : St.after (momOf (ms ++ [m])) ms.length = s := by rw [after_congr _ hcg]; exact h.aft
  have hsh : shows (momOf (ms ++ [m])) xNm ms.length = none := by
    unfold shows
    rw [hlast]
    show lastText m.m.vars xNm m.l.length = none
    rw [hl]; rfl
  have hno : hit (momOf (ms ++ [m])) wS ms.length = false := by rw [hit_watch]; exact watchHit_none2 hsh
  refine ⟨?_, fun i hi => ?_, ?_, ?_⟩
  · rw [List.length_append, List.length_singleton, after_succ, ha, hlast]; rfl
  · rw [List.length_append, List.length_singleton] at hi
    by_cases e : i = ms.length
    · subst e
      unfold codeAt
      rw [hlast, ha]
      exact ⟨hm, hc⟩
    · unfold codeAt
      rw [hcg i (by omega), after_congr i (fun j hj => hcg j (by omega))]
      exact h.ok i (by omega)
  · rw [List.length_append, List.length_singleton, ups_no hno, ups_congr (Q := hit (momOf ms) wS) (fun i hi => ?_), h.hits]
    rw [hit_watch, hit_watch]; exact watchHit_congr (fun j hj => hcg j (by omega))
  · rw [List.length_append, List.length_singleton, prevText_step, hsh, prevText_congr hcg]
    split
    · rename_i h1 h2; cases h2
    · exact h.prv

/-- One line more that shows x as t, in the call that was opened at frm. -/
theorem WInv.line {ms : List Mo} {want : List Nat} {s : St} {prev : Option ByteArray} (h : WInv ms want s prev) (m : Mo) (hm : MomentOk 2 m.m) (hc : code s m.kind m.task m.fn = 0) (fr : Fr) (t : ByteArray) (hk : m.kind = 1)
    (hown : ((s.step m.kind m.task m.fn m.line ms.length).tasks (s.step m.kind m.task m.fn m.line ms.length).cur).head? = some fr) (hfn : fr.fn = 1) (hsh : lastText m.m.vars xNm m.l.length = some t) :
    WInv (ms ++ [m]) (if prevText (momOf ms) xNm fr.frm ms.length = some t then want else want ++ [ms.length]) (s.step m.kind m.task m.fn m.line ms.length) (if fr.frm = 0 then some t else prev) := by
  have hcg : ∀ i, i < ms.length → momOf (ms ++ [m]) i = momOf ms i := fun i hi => momOf_left ms m i hi
  have hlast := momOf_last ms m
  have ha : St.after (momOf (ms ++ [m])) ms.length = s := by rw [after_congr _ hcg]; exact h.aft
  have ha' : St.after (momOf (ms ++ [m])) (ms.length + 1) = s.step m.kind m.task m.fn m.line ms.length := by rw [after_succ, ha, hlast]; rfl
  have hs2 : shows (momOf (ms ++ [m])) xNm ms.length = some t := by unfold shows; rw [hlast]; exact hsh
  have ho : ownOf (momOf (ms ++ [m])) ms.length = some fr := by
    unfold ownOf runs
    rw [hlast, if_neg (show ¬ m.m.kind = 3 by show ¬ m.kind = 3; omega), ha']
    exact hown
  have hp : prevText (momOf (ms ++ [m])) xNm fr.frm ms.length = prevText (momOf ms) xNm fr.frm ms.length := prevText_congr hcg
  have hw : hit (momOf (ms ++ [m])) wS ms.length = decide (prevText (momOf ms) xNm fr.frm ms.length ≠ some t) := by
    rw [hit_watch, watchHit_some ho hs2]
    show (decide (fr.fn = 1) && decide (prevText (momOf (ms ++ [m])) xNm fr.frm ms.length ≠ some t)) = _
    rw [hp, hfn]; rfl
  have hu : ups (hit (momOf (ms ++ [m])) wS) 0 ms.length = want := by
    rw [ups_congr (Q := hit (momOf ms) wS) (fun i hi => ?_), h.hits]
    rw [hit_watch, hit_watch]; exact watchHit_congr (fun j hj => hcg j (by omega))
  refine ⟨?_, fun i hi => ?_, ?_, ?_⟩
  · rw [List.length_append, List.length_singleton]; exact ha'
  · rw [List.length_append, List.length_singleton] at hi
    by_cases e : i = ms.length
    · subst e
      unfold codeAt
      rw [hlast, ha]
      exact ⟨hm, hc⟩
    · unfold codeAt
      rw [hcg i (by omega), after_congr i (fun j hj => hcg j (by omega))]
      exact h.ok i (by omega)
  · rw [List.length_append, List.length_singleton]
    by_cases e : prevText (momOf ms) xNm fr.frm ms.length = some t
    · rw [if_pos e, ups_no (by rw [hw]; simp [e]), hu]
    · rw [if_neg e, ups_yes (Nat.zero_le _) (by rw [hw]; simp [e]), hu]
  · rw [List.length_append, List.length_singleton, prevText_step, ho, hs2, prevText_congr hcg]
    show (if fr.frm = 0 then some t else prevText (momOf ms) xNm 0 ms.length) = _
    rw [h.prv]

/-- The moments of FnWatch. -/
def oMo (i : Nat) (t : ByteArray) (vv : Value) : Mo := ⟨1, 0, 1, i, ⟨#[]⟩, vv, [⟨xNm, t⟩]⟩
def nMo (t : ByteArray) (vv : Value) : Mo := ⟨1, 0, 1, 7, ⟨#[]⟩, vv, [⟨⟨#[121]⟩, ⟨#[113]⟩⟩, ⟨xNm, t⟩]⟩

theorem cMo_ok : MomentOk 2 cMo.m := ⟨by unfold HeadOk; decide, by show 0 ≤ 200; omega, fun i hi => by exact absurd hi (Nat.not_lt_zero _)⟩
theorem bMo_ok : MomentOk 2 bMo.m := ⟨by unfold HeadOk; decide, by show 0 ≤ 200; omega, fun i hi => by exact absurd hi (Nat.not_lt_zero _)⟩

theorem oMo_ok {i : Nat} {t : ByteArray} {vv : Value} (h1 : 1 ≤ i) (h2 : i ≤ 60) (ht : t.size = 1) : MomentOk 2 (oMo i t vv).m := by
  refine ⟨⟨by show (1 : Int) ≤ 1; omega, by show (1 : Int) ≤ 7; omega, by show (0 : Int) ≤ 0; omega, by show (0 : Int) ≤ 100; omega, by show (0 : Int) ≤ 1; omega, by show (1 : Int) < 2; omega, by show (0 : Int) ≤ (i : Int); omega, by show (i : Int) ≤ 100000; omega, fun ⟨_, h⟩ => by have : (i : Int) = 0 := h; omega, Nat.zero_le _⟩, by show 1 ≤ 200; omega, fun j hj => ?_⟩
  have : j = 0 := by have : j < 1 := hj; omega
  subst this
  exact ⟨by show xNm.size ≠ 0; decide, by show xNm.size ≤ 40; decide, by show t.size ≤ 4000; omega⟩

theorem nMo_ok {t : ByteArray} {vv : Value} (ht : t.size = 1) : MomentOk 2 (nMo t vv).m := by
  refine ⟨⟨by show (1 : Int) ≤ 1; omega, by show (1 : Int) ≤ 7; omega, by show (0 : Int) ≤ 0; omega, by show (0 : Int) ≤ 100; omega, by show (0 : Int) ≤ 1; omega, by show (1 : Int) < 2; omega, by show (0 : Int) ≤ 7; omega, by show (7 : Int) ≤ 100000; omega, fun ⟨_, h⟩ => by have : (7 : Int) = 0 := h; omega, Nat.zero_le _⟩, by show 2 ≤ 200; omega, fun j hj => ?_⟩
  have : j = 0 ∨ j = 1 := by have : j < 2 := hj; omega
  rcases this with rfl | rfl
  · exact ⟨by show (⟨#[121]⟩ : ByteArray).size ≠ 0; decide, by show (⟨#[121]⟩ : ByteArray).size ≤ 40; decide, by show (⟨#[113]⟩ : ByteArray).size ≤ 4000; decide⟩
  · exact ⟨by show xNm.size ≠ 0; decide, by show xNm.size ≤ 40; decide, by show t.size ≤ 4000; omega⟩

abbrev baseFr : Fr := ⟨0, 0, -1⟩

/-- The state between the outer call's lines. -/
def outS (l : Int) : St := dS [⟨1, l, 0⟩, baseFr]

theorem WInv.start : WInv [cMo] [] (outS 0) none := by
  have h := WInv.nil.mute cMo cMo_ok rfl rfl
  have e : St.init.step cMo.kind cMo.task cMo.fn cMo.line (([] : List Mo).length : Nat) = outS 0 := deep_step_c _ _
  rw [e] at h
  exact h

/-- A line of the outer call. -/
theorem WInv.outer {ms : List Mo} {want : List Nat} {l : Int} {prev : Option ByteArray} (h : WInv ms want (outS l) prev) {i : Nat} {t : ByteArray} {vv : Value} (h1 : 1 ≤ i) (h2 : i ≤ 60) (ht : t.size = 1) :
    WInv (ms ++ [oMo i t vv]) (if prev = some t then want else want ++ [ms.length]) (outS i) (some t) := by
  have e : (outS l).step (oMo i t vv).kind (oMo i t vv).task (oMo i t vv).fn (oMo i t vv).line ms.length = outS i := by
    show (dS [⟨1, l, 0⟩, baseFr]).put _ = _
    rw [dS_put]; rfl
  have k := h.line (oMo i t vv) (oMo_ok h1 h2 ht) rfl ⟨1, (i : Int), 0⟩ t rfl (by rw [e]; rfl) rfl rfl
  rw [e, h.prv, if_pos rfl] at k
  exact k

/-- A call of the same fn in between: its call, its line, its leaving. -/
theorem WInv.inner {ms : List Mo} {want : List Nat} {l : Int} {prev : Option ByteArray} (h : WInv ms want (outS l) prev) (h0 : 1 ≤ ms.length) {t : ByteArray} {vv : Value} (ht : t.size = 1) :
    WInv (((ms ++ [cMo]) ++ [nMo t vv]) ++ [bMo]) (want ++ [ms.length + 1]) (outS l) prev := by
  have e1 : (outS l).step cMo.kind cMo.task cMo.fn cMo.line ms.length = dS [⟨1, 0, (ms.length : Int)⟩, ⟨1, l, 0⟩, baseFr] := deep_step_c _ _
  have k1 := h.mute cMo cMo_ok rfl rfl
  rw [e1] at k1
  have e2 : (dS [⟨1, 0, (ms.length : Int)⟩, ⟨1, l, 0⟩, baseFr]).step (nMo t vv).kind (nMo t vv).task (nMo t vv).fn (nMo t vv).line (ms ++ [cMo]).length = dS [⟨1, 7, (ms.length : Int)⟩, ⟨1, l, 0⟩, baseFr] := by
    show (dS [⟨1, 0, (ms.length : Int)⟩, ⟨1, l, 0⟩, baseFr]).put _ = _
    rw [dS_put]; rfl
  have k2 := k1.line (nMo t vv) (nMo_ok ht) rfl ⟨1, 7, (ms.length : Int)⟩ t rfl (by rw [e2]; rfl) rfl rfl
  have hlen : (ms ++ [cMo]).length = ms.length + 1 := by simp
  have hp : prevText (momOf (ms ++ [cMo])) xNm (ms.length : Int) (ms ++ [cMo]).length = none := by
    rw [hlen, prevText_step, prevText_late (Int.le_refl _)]
    have hsh : shows (momOf (ms ++ [cMo])) xNm ms.length = none := by unfold shows; rw [momOf_last]; rfl
    rw [hsh]
    split
    · rename_i h1 h2; cases h2
    · rfl
  rw [e2, hp, if_neg (by simp), if_neg (show ¬ (ms.length : Int) = 0 by omega), hlen] at k2
  have e3 : (dS [⟨1, 7, (ms.length : Int)⟩, ⟨1, l, 0⟩, baseFr]).step bMo.kind bMo.task bMo.fn bMo.line ((ms ++ [cMo]) ++ [nMo t vv]).length = outS l := deep_step_b _ _ _
  have k3 := k2.mute bMo bMo_ok (by
    show (if ((ms.length : Int)) < 0 then (4 : Int) else 0) = 0
    rw [if_neg (by omega)]) rfl
  rw [e3] at k3
  exact k3

/-- At the end: the trace is sound, and the watch stops just where it was said. -/
theorem WInv.sound {ms : List Mo} {want : List Nat} {s : St} {prev : Option ByteArray} (h : WInv ms want s prev) (hl : ms.length ≤ 3000) : Sound 2 deepFns ms.length (momOf ms) := by
  refine ⟨⟨by omega, by omega, hl, fun i hi => ?_⟩, fun j hj => (h.ok j hj).1, fun j hj => (h.ok j hj).2⟩
  rcases (show i = 0 ∨ i = 1 by omega) with rfl | rfl <;> decide

theorem wS_is : StopIs wS := ⟨by decide, by decide, .inr (.inr (.inl ⟨rfl, rfl, by decide, by decide⟩))⟩
end Go.Proofs.Ytoiacbdnkkolmaa
