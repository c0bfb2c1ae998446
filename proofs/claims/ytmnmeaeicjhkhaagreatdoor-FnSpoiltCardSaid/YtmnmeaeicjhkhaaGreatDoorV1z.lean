import Derived.Test.YtmnmeaeicjhkhaaGreatDoorV0z
/-
  Changing a drawn trace in place: the plain lemmas, and pick at any bound.
-/
namespace Go.Proofs.YtmnmeaeicjhkhaaGreatDoor
open Go.RowKit

/-- What stays but the blocks in D. -/
structure Chg (D : Nat → Prop) (w w' : World) : Prop where
  os : w'.os = w.os
  tape : w'.tape = w.tape
  output : w'.output = w.output
  size : w.heap.size ≤ w'.heap.size
  block : ∀ b, b < w.heap.size → ¬ D b → w'.heap[b]? = w.heap[b]?

theorem Chg.refl (D : Nat → Prop) (w : World) : Chg D w w := ⟨rfl, rfl, rfl, Nat.le_refl _, fun _ _ _ => rfl⟩
theorem Chg.trans {D : Nat → Prop} {w w' w'' : World} (h : Chg D w w') (k : Chg D w' w'') : Chg D w w'' :=
  ⟨k.os.trans h.os, k.tape.trans h.tape, k.output.trans h.output, Nat.le_trans h.size k.size, fun b h1 h2 => (k.block b (Nat.lt_of_lt_of_le h1 h.size) h2).trans (h.block b h1 h2)⟩
theorem Chg.mono {D E : Nat → Prop} {w w' : World} (h : Chg D w w') (hE : ∀ b, b < w.heap.size → D b → E b) : Chg E w w' := ⟨h.os, h.tape, h.output, h.size, fun b h1 h2 => h.block b h1 (fun x => h2 (hE b h1 x))⟩
theorem Chg.of_below {D : Nat → Prop} {w w' : World} (h : Below w.heap.size w w') : Chg D w w' := ⟨h.os, h.tape, h.output, h.size, fun b h1 _ => h.block b h1⟩
theorem Chg.of_betw {D : Nat → Prop} {w w' : World} {pc : Nat} (h : Betw pc (pc + 1) w w') (hD : D pc) : Chg D w w' :=
  ⟨h.os, h.tape, h.output, h.size, fun b h1 h2 => h.block b h1 (by
    rcases Nat.lt_trichotomy b pc with x | x | x
    · exact .inl x
    · subst x; exact absurd hD h2
    · exact .inr x)⟩
theorem Chg.set {D : Nat → Prop} {w : World} {q i : Nat} {u : Value} (hD : D q) : Chg D w (w.setCell ⟨q, i, none⟩ u) :=
  ⟨rfl, rfl, rfl, by simp [World.setCell], fun b _ h2 => heap_setCell_other _ _ _ _ (fun e => h2 (by rw [show b = q from e]; exact hD))⟩
theorem Chg.below {D : Nat → Prop} {w w' : World} {B : Nat} (h : Chg D w w') (hB : B ≤ w.heap.size) (hD : ∀ b, b < B → ¬ D b) : Below B w w' := ⟨h.os, h.tape, h.output, h.size, fun b hb => h.block b (Nat.lt_of_lt_of_le hb hB) (hD b hb)⟩

theorem owns_setAt {w : World} {B : Nat} {e : TypeId} {z g n cap : Nat} {xs : List Value} (h : w.ownsRow B e z (.slice (some ⟨g, 0, none⟩) n cap) n xs) (off : Nat) (u : Value) : (w.setCell ⟨g, off, none⟩ u).ownsRow B e z (.slice (some ⟨g, 0, none⟩) n cap) n (xs.set off u) := by
  obtain ⟨h1, h2⟩ := h
  refine ⟨by rw [List.length_set]; exact h1, ?_⟩
  rcases h2 with ⟨e, _⟩ | ⟨g', cap', cur, e, hB, hh, hc, hm, hs, ht⟩
  · cases e
  · cases e
    refine .inr ⟨g, cap, cur.setIfInBounds off u, rfl, hB, by simp [World.setCell, Array.getElem?_modify, hh], hc, hm, by simpa using hs, ?_⟩
    rw [← ht]
    simp [List.take_set]

theorem momCells_set : ∀ (l : List Mo) (i : Nat) (_ : i < l.length) (x : Mo), momCells (l.set i x) = ((((((momCells l).set (i * 6) (.int .i64 x.kind)).set (i * 6 + 1) (.int .i64 x.task)).set (i * 6 + 2) (.int .i64 x.fn)).set (i * 6 + 3) (.int .i64 x.line)).set (i * 6 + 4) (.string x.text)).set (i * 6 + 5) x.vv
  | y :: r, 0, _, x => rfl
  | y :: r, i + 1, h, x => by
    have ih := momCells_set r i (by simpa using h) x
    have e : ∀ l : List Mo, momCells (y :: l) = .int .i64 y.kind :: .int .i64 y.task :: .int .i64 y.fn :: .int .i64 y.line :: .string y.text :: y.vv :: momCells l := fun _ => rfl
    have s : ∀ (t : List Value) (k : Nat) (u : Value), (Value.int .i64 y.kind :: .int .i64 y.task :: .int .i64 y.fn :: .int .i64 y.line :: .string y.text :: y.vv :: t).set (k + 6) u = .int .i64 y.kind :: .int .i64 y.task :: .int .i64 y.fn :: .int .i64 y.line :: .string y.text :: y.vv :: t.set k u := fun _ _ _ => rfl
    show momCells (y :: r.set i x) = _
    rw [e, e, ih, show (i + 1) * 6 = i * 6 + 6 by omega, show i * 6 + 6 + 1 = i * 6 + 1 + 6 by omega, show i * 6 + 6 + 2 = i * 6 + 2 + 6 by omega, show i * 6 + 6 + 3 = i * 6 + 3 + 6 by omega, show i * 6 + 6 + 4 = i * 6 + 4 + 6 by omega, show i * 6 + 6 + 5 = i * 6 + 5 + 6 by omega]
    rw [s, s, s, s, s, s]

/-- The world with a moment's six cells written over. -/
def putMom (w : World) (g i : Nat) (x : Mo) : World := (((((w.setCell ⟨g, i * 6, none⟩ (.int .i64 x.kind)).setCell ⟨g, i * 6 + 1, none⟩ (.int .i64 x.task)).setCell ⟨g, i * 6 + 2, none⟩ (.int .i64 x.fn)).setCell ⟨g, i * 6 + 3, none⟩ (.int .i64 x.line)).setCell ⟨g, i * 6 + 4, none⟩ (.string x.text)).setCell ⟨g, i * 6 + 5, none⟩ x.vv

theorem putMom_other (w : World) (g i : Nat) (x : Mo) (b : Nat) (h : b ≠ g) : (putMom w g i x).heap[b]? = w.heap[b]? := by
  unfold putMom
  rw [heap_setCell_other _ _ _ _ h, heap_setCell_other _ _ _ _ h, heap_setCell_other _ _ _ _ h, heap_setCell_other _ _ _ _ h, heap_setCell_other _ _ _ _ h, heap_setCell_other _ _ _ _ h]

theorem putMom_chg {D : Nat → Prop} (w : World) (g i : Nat) (x : Mo) (h : D g) : Chg D w (putMom w g i x) := by
  unfold putMom
  exact (((((Chg.set h).trans (Chg.set h)).trans (Chg.set h)).trans (Chg.set h)).trans (Chg.set h)).trans (Chg.set h)

theorem owns_put {w : World} {B g i : Nat} {e : TypeId} {z : Nat} {v : Value} {n : Nat} {xs : List Value} {x : Mo} {cs : Array Value} {t : TypeId} {fr : Nat × Nat} (h : w.ownsRow B e z v n xs) (hg : w.heap[g]? = some (.cells cs t fr)) (hne : t ≠ e) : (putMom w g i x).ownsRow B e z v n xs := by
  obtain ⟨h1, h2⟩ := h
  refine ⟨h1, ?_⟩
  rcases h2 with h2 | ⟨g', cap, cur, hv, hB, hh, r⟩
  · exact .inl h2
  · refine .inr ⟨g', cap, cur, hv, hB, ?_, r⟩
    rw [putMom_other _ _ _ _ _ (fun e => by subst e; rw [hg] at hh; cases hh; exact hne rfl)]
    exact hh

theorem mem_set_of {α : Type} : ∀ {l : List α} {i : Nat} {x y : α}, y ∈ l.set i x → y = x ∨ y ∈ l
  | a :: r, 0, x, y, h => by
    rcases List.mem_cons.1 h with e | e
    · exact .inl e
    · exact .inr (List.mem_cons_of_mem _ e)
  | a :: r, i + 1, x, y, h => by
    rcases List.mem_cons.1 h with e | e
    · exact .inr (by rw [e]; exact List.mem_cons_self)
    · rcases mem_set_of (l := r) e with e | e
      · exact .inl e
      · exact .inr (List.mem_cons_of_mem _ e)

/-- A moment written over. -/
theorem TrOwn.put {B : Nat} {w : World} {v1 : Value} {g n cap nf i : Nat} {ms : List Mo} (h : TrOwn B w v1 (.slice (some ⟨g, 0, none⟩) n cap) nf ms) (hn : ms.length = n) (hi : i < ms.length) (x : Mo)
    (hx : w.ownsRow B 40 2 x.vv x.l.length (varCells x.l) ∧ x.l.length ≤ 3 ∧ x.text.size ≤ 1 ∧ ∀ y, y ∈ x.l → y.name.size ≤ 1 ∧ y.text.size ≤ 1) : TrOwn B (putMom w g i x) v1 (.slice (some ⟨g, 0, none⟩) n cap) nf (ms.set i x) := by
  subst hn
  obtain ⟨xs, h1, h2, h3⟩ := h.fns
  obtain ⟨cs, fr, hg⟩ : ∃ cs fr, w.heap[g]? = some (.cells cs 108 fr) := by
    obtain ⟨-, c⟩ := owns_kind h.mom.row g rfl
    exact c
  refine ⟨⟨xs, h1, h2, owns_put h3 hg (by decide)⟩, ?_, fun y hy => ?_⟩
  · have hr := owns_setAt (owns_setAt (owns_setAt (owns_setAt (owns_setAt (owns_setAt h.mom.row (i * 6) (.int .i64 x.kind)) (i * 6 + 1) (.int .i64 x.task)) (i * 6 + 2) (.int .i64 x.fn)) (i * 6 + 3) (.int .i64 x.line)) (i * 6 + 4) (.string x.text)) (i * 6 + 5) x.vv
    rw [← momCells_set ms i hi x] at hr
    rw [List.length_set]
    exact hr
  · rcases mem_set_of hy with rfl | hy
    · exact ⟨owns_put hx.1 hg (by decide), hx.2⟩
    · exact ⟨owns_put (h.mom.vars y hy).1 hg (by decide), (h.mom.vars y hy).2⟩

theorem ownsVars_at {B : Nat} {w : World} {v : Value} {l : List V} (h : w.ownsRow B 40 2 v l.length (varCells l)) (hs : ∀ y, y ∈ l → y.name.size ≤ 1 ∧ y.text.size ≤ 1) (hl : l.length ≤ 3) : VarsAt B w v l.length (fun i => l.getD i V.nul) := by
  obtain ⟨a, cap, rfl⟩ := owns_slice h
  refine ⟨a, cap, rfl, by unfold maxLen; omega, fun i hi => ?_⟩
  obtain ⟨g, cap', e, hB⟩ := owns_at h (by omega)
  cases e
  obtain ⟨e0, e1⟩ := varCells_get l i hi
  obtain ⟨c0, f0⟩ := owns_cell h _ _ e0
  obtain ⟨c1, f1⟩ := owns_cell h _ _ e1
  obtain ⟨z0, z1⟩ := hs l[i] (List.getElem_mem hi)
  refine ⟨g, 0, rfl, ?_, ?_, ?_, ?_, ⟨hB, fun _ => ?_⟩, ⟨hB, fun _ => ?_⟩⟩
  · dsimp only; rw [Nat.zero_add, getD_at _ _ _ hi]; exact c0
  · dsimp only; rw [Nat.zero_add, getD_at _ _ _ hi]; exact c1
  · dsimp only; rw [getD_at _ _ _ hi]; unfold maxLen; omega
  · dsimp only; rw [getD_at _ _ _ hi]; unfold maxLen; omega
  · rw [Nat.zero_add]; exact f0
  · rw [Nat.zero_add]; exact f1

theorem OwnW.momsAt {B : Nat} {w : World} {v : Value} {ms : List Mo} (h : OwnW B w v ms) (hl : ms.length ≤ 5000) : MomsAt B w v ms.length (momOf ms) := by
  obtain ⟨a, cap, rfl⟩ := owns_slice h.row
  refine ⟨a, cap, rfl, by unfold maxLen; omega, fun i hi => ?_⟩
  obtain ⟨g, cap', e, hB⟩ := owns_at h.row (by omega)
  cases e
  obtain ⟨e0, e1, e2, e3, e4, e5⟩ := momCells_get ms i hi
  obtain ⟨c0, f0⟩ := owns_cell h.row _ _ e0
  obtain ⟨c1, f1⟩ := owns_cell h.row _ _ e1
  obtain ⟨c2, f2⟩ := owns_cell h.row _ _ e2
  obtain ⟨c3, f3⟩ := owns_cell h.row _ _ e3
  obtain ⟨c4, f4⟩ := owns_cell h.row _ _ e4
  obtain ⟨c5, f5⟩ := owns_cell h.row _ _ e5
  obtain ⟨hv, hv3, htx, hvs⟩ := h.vars ms[i] (List.getElem_mem hi)
  have em : momOf ms i = ms[i].m := by unfold momOf; rw [getD_at _ _ _ hi]
  rw [em]
  refine ⟨g, 0, ms[i].vv, rfl, ?_, ?_, ?_, ?_, ?_, ?_, ?_, ownsVars_at hv hvs hv3, fun j hj => ⟨hB, fun _ => ?_⟩⟩
  · rw [Nat.zero_add]; exact c0
  · rw [Nat.zero_add]; exact c1
  · rw [Nat.zero_add]; exact c2
  · rw [Nat.zero_add]; exact c3
  · rw [Nat.zero_add]; exact c4
  · rw [Nat.zero_add]; exact c5
  · show ms[i].text.size ≤ maxLen
    unfold maxLen; omega
  · rw [Nat.zero_add]
    rcases (show j = 0 ∨ j = 1 ∨ j = 2 ∨ j = 3 ∨ j = 4 ∨ j = 5 by omega) with rfl | rfl | rfl | rfl | rfl | rfl
    · exact f0
    · exact f1
    · exact f2
    · exact f3
    · exact f4
    · exact f5

theorem TrOwn.strs {B : Nat} {w : World} {v1 v2 : Value} {nf : Nat} {ms : List Mo} (h : TrOwn B w v1 v2 nf ms) (hnf : nf ≤ 600) : ∃ fns, StrsAt B w v1 nf fns := by
  obtain ⟨xs, h1, h2, h3⟩ := h.fns
  refine ⟨fun i => xs.getD i ⟨#[]⟩, ?_⟩
  obtain ⟨a, cap, rfl⟩ := owns_slice h3
  refine ⟨a, cap, rfl, by unfold maxLen; omega, fun i hi => ?_⟩
  obtain ⟨g, cap', e, hB⟩ := owns_at h3 (by omega)
  cases e
  have hix : i < xs.length := by omega
  obtain ⟨c0, f0⟩ := owns_cell h3 i (.string xs[i]) (by rw [List.getElem?_map, List.getElem?_eq_getElem hix]; rfl)
  refine ⟨g, 0, rfl, ?_, ?_, hB, fun _ => ?_⟩
  · dsimp only; rw [Nat.zero_add, getD_at _ _ _ hix]; exact c0
  · dsimp only; rw [getD_at _ _ _ hix]; have := h2 xs[i] (List.getElem_mem hix); unfold maxLen; omega
  · rw [Nat.zero_add]; exact f0

set_option maxRecDepth 100000 in
set_option maxHeartbeats 1000000 in
theorem pick_w (K pc len : Nat) (c : Cu) (n : Nat) (w : World) (h : Cur K w pc len c) (hat : c.at_ ≤ 4000000000000000000) (hn : n ≤ 100000) :
    Calls Tryz.prog 34 #[.pointer (some ⟨pc, 0, none⟩), .int .i64 n] w fun e w' => (∃ (x : Nat) (c' : Cu), e = .returned (.int .i64 (x : Int)) ∧ (x < n ∨ x = 0) ∧ c'.at_ ≤ c.at_ + 2 ∧ Cur K w' pc len c') ∧ Betw pc (pc + 1) w w' := by
  by_cases h1 : n ≤ 1
  · refine (pick_one pc n w (by omega)).mono ?_
    rintro e w' ⟨rfl, rfl⟩
    exact ⟨⟨0, c, rfl, .inr rfl, by omega, h⟩, Betw.refl _ _ _⟩
  by_cases h2 : n ≤ 200
  · refine (pick_any K pc len c n w h (by omega) (by omega) h2).mono ?_
    rintro e w' ⟨⟨x, c', rfl, hd, hc⟩, hb⟩
    exact ⟨⟨x % n, c', rfl, .inl (Nat.mod_lt _ (by omega)), by rw [hd.at1]; omega, hc⟩, hb⟩
  have H := hide h
  clear h
  have hn1 : ¬ (n : Int) ≤ 1 := by omega
  have hn2 : (200 : Int) < (n : Int) := by omega
  go_enter Tryz.func34, Tryz.ntmps34
  go_wp2_with fail
  refine (next_any K pc len c _ (unhide H) (by omega)).mono ?_
  rintro e w1 ⟨⟨x, c1, rfl, hd, hc⟩, hb⟩
  have HC := hide hc
  have HB := hide hb
  have hx0 := hd.x0
  have hx1 := hd.x1
  have ha1 := hd.at1
  clear hd hc hb H
  have wm : IntKind.i64.wrap (x * 256) = x * 256 := by rw [IntKind.wrap_i64]; omega
  go_wp2_with fail
  refine (next_any K pc len c1 _ (unhide HC) (by omega)).mono ?_
  rintro e w2 ⟨⟨y, c2, rfl, hd, hc⟩, hb⟩
  have HC2 := hide hc
  have HB2 := hide ((unhide HB).trans hb)
  have hy0 := hd.x0
  have hy1 := hd.x1
  have ha2 := hd.at1
  clear hd hc hb HB HC
  have wa : IntKind.i64.wrap (x * 256 + y) = x * 256 + y := by rw [IntKind.wrap_i64]; omega
  obtain ⟨z, hz⟩ : ∃ z : Nat, x * 256 + y = (z : Int) := Int.eq_ofNat_of_zero_le (by omega)
  obtain ⟨r, hr⟩ : ∃ r, r = z % n := ⟨_, rfl⟩
  have em : (z : Int) % (n : Int) = (r : Int) := by rw [hr]; exact (Int.natCast_emod z n).symm
  have HEM := hide em
  clear em
  have hrn : r < n := by rw [hr]; exact Nat.mod_lt _ (by omega)
  have hn0 : ¬ (n : Int) = 0 := by omega
  clear hr
  go_wp2
  go_ret
  exact ⟨⟨r, c2, by rw [← unhide HEM]; rfl, .inl hrn, by omega, unhide HC2⟩, unhide HB2⟩
end Go.Proofs.YtmnmeaeicjhkhaaGreatDoor
