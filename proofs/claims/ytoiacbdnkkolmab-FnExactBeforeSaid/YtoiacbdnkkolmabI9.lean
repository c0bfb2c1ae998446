import Derived.Test.YtoiacbdnkkolmabI8
namespace Go.Proofs.Ytoiacbdnkkolmab
open Go.RowKit

theorem ListAt.grown {w w' : World} {g : Nat} {x : Option Addr} (hg : w.grownBy w' (some g)) (h2 : w.cell? ⟨g, 2, none⟩ = some (.pointer x)) : ∀ {l : List Fr} {p : Option Addr}, ListAt w l p → ListAt w' l p
  | [], _, h => h
  | _ :: _, _, h => by
    obtain ⟨b, p', e, k0, k1, k2, k3, k4, k5⟩ := h
    have hne : some b ≠ some g := fun e => by
      cases e
      rw [h2] at k2
      cases k2
    exact ⟨b, p', e, hg.cell k0 hne, hg.cell k1 hne, hg.cell k2 hne, hg.cell k3 hne, hg.cell k4 hne, k5.grown hg h2⟩

theorem PlaceAt.grown {w w' : World} {g : Nat} {x : Option Addr} {y : Int} {s : St} {top : Option Addr} {bw : Nat} (hg : w.grownBy w' (some g)) (h0 : w.cell? ⟨g, 0, none⟩ = some (.int .i64 y)) (h2 : w.cell? ⟨g, 2, none⟩ = some (.pointer x)) (h : PlaceAt w s top bw) : PlaceAt w' s top bw := by
  obtain ⟨h1, ⟨P, h4⟩, h5, h6⟩ := h
  have hne : some bw ≠ some g := fun e => by
    cases e
    have := (h4 0 (by omega)).1
    rw [h0] at this
    cases this
  exact ⟨h1.grown hg h2, ⟨P, fun t ht => ⟨hg.cell (h4 t ht).1 hne, fun e => ((h4 t ht).2 e).grown hg h2⟩⟩, h5, h6⟩

/-- The places up to the k-th, as the cells xs of the program's row. -/
def Pls (w : World) (f : Nat → M) (k : Nat) (xs : List Value) : Prop :=
  ∀ j, j ≤ k → ∃ top bw, xs[j * 3]? = some (.int .i64 (St.after f j).cur) ∧ xs[j * 3 + 1]? = some (.pointer top) ∧ xs[j * 3 + 2]? = some (.pointer (some ⟨bw, 0, none⟩)) ∧ PlaceAt w (St.after f j) top bw

def PlacesAt (lo : Nat) (w : World) (v : Value) (n : Nat) (f : Nat → M) : Prop := ∃ xs, w.ownsRow lo 112 3 v (n + 1) xs ∧ Pls w f n xs

theorem owns_low {w : World} {B B' : Nat} {e : TypeId} {z : Nat} {v : Value} {n : Nat} {xs : List Value} (h : w.ownsRow B e z v n xs) (hB : B' ≤ B) : w.ownsRow B' e z v n xs := by
  refine ⟨h.1, ?_⟩
  rcases h.2 with hn | ⟨g, cap, cur, hv, hb, rest⟩
  · exact .inl hn
  · exact .inr ⟨g, cap, cur, hv, by omega, rest⟩

/-- followMoments on its way: N4 the block of 'now', pv the places so far. -/
structure FInv (N4 : Nat) (f : Nat → M) (w w' : World) (pv : Value) (k : Nat) (s : St) (top : Option Addr) (bw : Nat) (xs : List Value) : Prop where
  one : Below (w.heap.size + 1) (w.alloc (.cells #[.int .i64 0, .int .i64 0] 79)) w'
  hN : w.heap.size < N4
  lt : N4 < w'.heap.size
  z4 : w'.cell? ⟨N4, 4, none⟩ = none
  p0 : w'.cell? ⟨N4, 0, none⟩ = some (.int .i64 s.cur)
  p1 : w'.cell? ⟨N4, 1, none⟩ = some (.pointer top)
  p2 : w'.cell? ⟨N4, 2, none⟩ = some (.pointer (some ⟨bw, 0, none⟩))
  f0 : w'.frozen? ⟨N4, 0, none⟩ = false
  f1 : w'.frozen? ⟨N4, 1, none⟩ = false
  f2 : w'.frozen? ⟨N4, 2, none⟩ = false
  pl : PlaceAt w' s top bw
  own : w'.ownsRow (N4 + 1) 112 3 pv (k + 1) xs
  pls : Pls w' f k xs

theorem owns_below {w w' : World} {B : Nat} {e : TypeId} {z : Nat} {v : Value} {n : Nat} {xs : List Value} (h : w.ownsRow B e z v n xs) (hb : Below w.heap.size w w') : w'.ownsRow B e z v n xs := by
  have hg : w.grownBy w' none := ⟨hb.os, hb.tape, hb.output, hb.size, fun k hk _ => hb.block k hk⟩
  refine h.kept hg ?_
  by_cases e : v.ownBlock = none
  · exact .inl e
  · exact .inr e

theorem FInv.below {N4 : Nat} {f : Nat → M} {w w' w'' : World} {pv : Value} {k : Nat} {s : St} {top : Option Addr} {bw : Nat} {xs : List Value} (h : FInv N4 f w w' pv k s top bw xs) (hb : Below w'.heap.size w' w'') : FInv N4 f w w'' pv k s top bw xs := by
  have hs : w.heap.size + 1 ≤ w'.heap.size := by have := h.one.size; simpa using this
  have hl := h.lt
  refine ⟨h.one.trans (hb.mono hs), h.hN, Nat.lt_of_lt_of_le h.lt hb.size, ?_, cell_below hb h.p0, cell_below hb h.p1, cell_below hb h.p2, ?_, ?_, ?_, h.pl.below hb, owns_below h.own hb, fun j hj => ?_⟩
  · rw [hb.cell hl]; exact h.z4
  · rw [hb.frozen hl]; exact h.f0
  · rw [hb.frozen hl]; exact h.f1
  · rw [hb.frozen hl]; exact h.f2
  · obtain ⟨t, b, h1, h2, h3, h4⟩ := h.pls j hj
    exact ⟨t, b, h1, h2, h3, h4.below hb⟩

/-- 'now' is stored anew. -/
theorem FInv.put {N4 : Nat} {f : Nat → M} {w w' : World} {pv : Value} {k : Nat} {s s' : St} {top top' : Option Addr} {bw bw' : Nat} {xs : List Value} (h : FInv N4 f w w' pv k s top bw xs) (hp : PlaceAt w' s' top' bw') :
    FInv N4 f w (((w'.setCell ⟨N4, 0, none⟩ (.int .i64 s'.cur)).setCell ⟨N4, 1, none⟩ (.pointer top')).setCell ⟨N4, 2, none⟩ (.pointer (some ⟨bw', 0, none⟩))) pv k s' top' bw' xs := by
  have hN := h.hN
  have hz1 := cell_none_set (b := ⟨N4, 0, none⟩) (v := .int .i64 s'.cur) h.z4
  have hz2 := cell_none_set (b := ⟨N4, 1, none⟩) (v := .pointer top') hz1
  have hz3 := cell_none_set (b := ⟨N4, 2, none⟩) (v := .pointer (some ⟨bw', 0, none⟩)) hz2
  have ob : pv.ownBlock ≠ some N4 := fun e => by
    have := (h.own.lt _ e).1
    omega
  refine ⟨((h.one.setCell (p := ⟨N4, 0, none⟩) (by show _ ≤ N4; omega) _).setCell (p := ⟨N4, 1, none⟩) (by show _ ≤ N4; omega) _).setCell (p := ⟨N4, 2, none⟩) (by show _ ≤ N4; omega) _, hN, by simpa using h.lt, hz3, ?_, ?_, ?_, ?_, ?_, ?_, ((hp.setBox h.z4).setBox hz1).setBox hz2, owns_setCell (owns_setCell (owns_setCell h.own ob) ob) ob, fun j hj => ?_⟩
  · rw [World.cell?_setCell_other _ _ _ _ (by simp), World.cell?_setCell_other _ _ _ _ (by simp), World.cell?_setCell_same _ _ _ h.p0]
  · rw [World.cell?_setCell_other _ _ _ _ (by simp)]
    refine World.cell?_setCell_same _ _ _ (u := .pointer top) ?_
    rw [World.cell?_setCell_other _ _ _ _ (by simp)]; exact h.p1
  · refine World.cell?_setCell_same _ _ _ (u := .pointer (some ⟨bw, 0, none⟩)) ?_
    rw [World.cell?_setCell_other _ _ _ _ (by simp), World.cell?_setCell_other _ _ _ _ (by simp)]; exact h.p2
  · rw [World.frozen?_setCell, World.frozen?_setCell, World.frozen?_setCell]; exact h.f0
  · rw [World.frozen?_setCell, World.frozen?_setCell, World.frozen?_setCell]; exact h.f1
  · rw [World.frozen?_setCell, World.frozen?_setCell, World.frozen?_setCell]; exact h.f2
  · obtain ⟨t, b, h1, h2, h3, h4⟩ := h.pls j hj
    exact ⟨t, b, h1, h2, h3, ((h4.setBox h.z4).setBox hz1).setBox hz2⟩

/-- The row's first cells tell it from all that places lead to. -/
theorem row_tells {w : World} {B : Nat} {e : TypeId} {pv : Value} {k : Nat} {xs : List Value} {f : Nat → M} (ho : w.ownsRow B e 3 pv (k + 1) xs) (hp : Pls w f k xs) : ∃ g y x, pv.ownBlock = some g ∧ w.cell? ⟨g, 0, none⟩ = some (.int .i64 y) ∧ w.cell? ⟨g, 2, none⟩ = some (.pointer x) := by
  obtain ⟨t, b, h1, _, h3, _⟩ := hp 0 (by omega)
  have ho' := ho
  rcases ho.2 with ⟨_, h0⟩ | ⟨g, cap, cur, rfl, _⟩
  · omega
  · exact ⟨g, _, _, rfl, (owns_cell ho' _ _ h1).1, (owns_cell ho' _ _ h3).1⟩

/-- 'now' is appended to the places. -/
theorem FInv.push {N4 : Nat} {f : Nat → M} {w w' w'' : World} {pv pv' : Value} {k : Nat} {s : St} {top : Option Addr} {bw : Nat} {xs : List Value} (h : FInv N4 f w w' pv k s top bw xs) (hs : s = St.after f (k + 1))
    (hg : w'.grownBy w'' pv.ownBlock) (ho : w''.ownsRow (N4 + 1) 112 3 pv' (k + 1 + 1) (xs ++ [.int .i64 s.cur, .pointer top, .pointer (some ⟨bw, 0, none⟩)])) :
    FInv N4 f w w'' pv' (k + 1) s top bw (xs ++ [.int .i64 s.cur, .pointer top, .pointer (some ⟨bw, 0, none⟩)]) := by
  obtain ⟨g, y, x, hv, t0, t2⟩ := row_tells h.own h.pls
  have hg' := hg
  rw [hv] at hg'
  have hgB : N4 + 1 ≤ g := (h.own.lt g hv).1
  have hN := h.hN
  have hl := h.lt
  have hne : some N4 ≠ pv.ownBlock := fun e => by rw [hv] at e; cases e; omega
  have hlen : xs.length = (k + 1) * 3 := h.own.1
  have hb : Below (w.heap.size + 1) w' w'' := ⟨hg.os, hg.tape, hg.output, hg.size, fun i hi => hg.block i (by omega) (fun e => by rw [hv] at e; cases e; omega)⟩
  have hblk := hg.block N4 hl hne
  refine ⟨h.one.trans hb, hN, Nat.lt_of_lt_of_le hl hg.size, ?_, hg.cell h.p0 hne, hg.cell h.p1 hne, hg.cell h.p2 hne, ?_, ?_, ?_, h.pl.grown hg' t0 t2, ho, fun j hj => ?_⟩
  · rw [World.cell?_of_block (w := w') (a := ⟨N4, 4, none⟩) hblk]; exact h.z4
  · rw [World.frozen?_of_block (w := w') (a := ⟨N4, 0, none⟩) hblk]; exact h.f0
  · rw [World.frozen?_of_block (w := w') (a := ⟨N4, 1, none⟩) hblk]; exact h.f1
  · rw [World.frozen?_of_block (w := w') (a := ⟨N4, 2, none⟩) hblk]; exact h.f2
  · by_cases hjk : j ≤ k
    · obtain ⟨t, b, h1, h2, h3, h4⟩ := h.pls j hjk
      refine ⟨t, b, ?_, ?_, ?_, h4.grown hg' t0 t2⟩
      · rw [List.getElem?_append_left (by omega)]; exact h1
      · rw [List.getElem?_append_left (by omega)]; exact h2
      · rw [List.getElem?_append_left (by omega)]; exact h3
    · have e : j = k + 1 := by omega
      subst e
      refine ⟨top, bw, ?_, ?_, ?_, by rw [← hs]; exact h.pl.grown hg' t0 t2⟩
      · rw [List.getElem?_append_right (by omega), hlen, ← hs, Nat.sub_self]; rfl
      · rw [List.getElem?_append_right (by omega), hlen, show (k + 1) * 3 + 1 - (k + 1) * 3 = 1 by omega]; rfl
      · rw [List.getElem?_append_right (by omega), hlen, show (k + 1) * 3 + 2 - (k + 1) * 3 = 2 by omega]; rfl

end Go.Proofs.Ytoiacbdnkkolmab
