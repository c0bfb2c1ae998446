import Derived.Test.YtoiacbdnkkolmaaW1
import Derived.Test.YtoiacbdnkkolmaaD6
namespace Go.Proofs.Ytoiacbdnkkolmaa
open Go.RowKit

/-- A slice of bytes. -/
def BytesAt (w : World) (v : Value) (len : Nat) : Prop :=
  ∃ a cap, v = .slice a len cap ∧ ∀ i, i < len → ∃ b o x, a = some ⟨b, o, none⟩ ∧ w.cell? ⟨b, o + i, none⟩ = some (.int .u8 x) ∧ 0 ≤ x ∧ x < 256

/-- The drawing's contract. -/
def DrawsWell : Prop := ∀ (v : Value) (len : Nat) (w : World), BytesAt w v len → len ≤ 1048576 →
    Calls Try.prog 12 #[v] w fun e w' => (∃ v1 v2 n ms, e = .returned (.agg #[v1, v2]) ∧ n < 90 ∧ StrsAt w.heap.size w' v1 4 drawnFns ∧ MomsAt w.heap.size w' v2 n (momOf ms) ∧ Sound 4 drawnFns n (momOf ms)) ∧ Below w.heap.size w w'

/-- What a moment makes of a task's open calls, told as the law tells it. -/
def wantOf (l : List Fr) (kind fn line k : Int) : List Fr :=
  if kind = 2 then ⟨fn, 0, k⟩ :: l else if kind = 3 then l.tail else if kind = 1 then setLine line l else l

theorem wantOf_2 (l : List Fr) {kind fn line k : Int} (h : kind = 2) : wantOf l kind fn line k = ⟨fn, 0, k⟩ :: l := by unfold wantOf; rw [if_pos h]
theorem wantOf_3 (l : List Fr) {kind fn line k : Int} (h : kind = 3) : wantOf l kind fn line k = l.tail := by unfold wantOf; rw [if_neg (by omega), if_pos h]
theorem wantOf_1 (l : List Fr) {kind fn line k : Int} (h : kind = 1) : wantOf l kind fn line k = setLine line l := by unfold wantOf; rw [if_neg (by omega), if_neg (by omega), if_pos h]
theorem wantOf_0 (l : List Fr) {kind fn line k : Int} (h2 : kind ≠ 2) (h3 : kind ≠ 3) (h1 : kind ≠ 1) : wantOf l kind fn line k = l := by unfold wantOf; rw [if_neg h2, if_neg h3, if_neg h1]

theorem after_task {nf : Nat} {fns : Nat → ByteArray} {n : Nat} {f : Nat → M} (h : Sound nf fns n f) (k : Nat) (hk : k < n) (j : Nat) :
    (St.after f (k + 1)).tasks j = if (j : Int) = (f k).task then wantOf ((St.after f k).tasks j) (f k).kind (f k).fn (f k).line k else (St.after f k).tasks j := by
  have hc := h.2.2 k hk
  unfold codeAt code at hc
  show ((St.after f k).step _ _ _ _ _).tasks j = _
  unfold St.step
  by_cases k7 : (f k).kind = 7
  · rw [if_pos k7, wantOf_0 _ (by omega) (by omega) (by omega)]
    simp
  · rw [if_neg k7] at hc
    rw [if_neg k7]
    have ht : (f k).task = (St.after f k).cur := by
      by_cases e : (f k).task = (St.after f k).cur
      · exact e
      · rw [if_pos e] at hc; omega
    have hp : ∀ l, ((St.after f k).put l).tasks j = if (j : Int) = (f k).task then l else (St.after f k).tasks j := fun l => by
      simp only [St.put, ht]
      by_cases e : j = (St.after f k).cur
      · rw [if_pos e, if_pos (by omega)]
      · rw [if_neg e, if_neg (by omega)]
    have hq : (j : Int) = (f k).task → (St.after f k).tasks (St.after f k).cur = (St.after f k).tasks j := fun e => by
      rw [show j = (St.after f k).cur by omega]
    by_cases k2 : (f k).kind = 2
    · rw [if_pos k2, hp, wantOf_2 _ k2]
      by_cases e : (j : Int) = (f k).task
      · rw [if_pos e, if_pos e, hq e]
      · rw [if_neg e, if_neg e]
    · rw [if_neg k2]
      by_cases k1 : (f k).kind = 1
      · rw [if_pos k1, hp, wantOf_1 _ k1]
        by_cases e : (j : Int) = (f k).task
        · rw [if_pos e, if_pos e, hq e]
        · rw [if_neg e, if_neg e]
      · rw [if_neg k1]
        by_cases k3 : (f k).kind = 3
        · rw [if_pos k3, hp, wantOf_3 _ k3]
          by_cases e : (j : Int) = (f k).task
          · rw [if_pos e, if_pos e, hq e]
          · rw [if_neg e, if_neg e]
        · rw [if_neg k3, wantOf_0 _ k2 k3 k1]; simp

theorem after_cur {n : Nat} {f : Nat → M} (k : Nat) (_ : k < n) :
    (St.after f (k + 1)).cur = if (f k).kind = 7 then (f k).task.toNat else (St.after f k).cur := by
  show ((St.after f k).step _ _ _ _ _).cur = _
  unfold St.step
  repeat' split
  all_goals first | rfl | omega

/-- At a line, and at a leaving, something is open in the moment's task. -/
theorem after_open {nf : Nat} {fns : Nat → ByteArray} {n : Nat} {f : Nat → M} (h : Sound nf fns n f) (k : Nat) (hk : k < n) (j : Nat) (hj : (j : Int) = (f k).task) (h1 : (f k).kind = 1 ∨ (f k).kind = 3) :
    (St.after f k).tasks j ≠ [] := by
  have hc := h.2.2 k hk
  unfold codeAt code at hc
  rw [if_neg (by omega)] at hc
  have ht : (f k).task = (St.after f k).cur := by
    by_cases e : (f k).task = (St.after f k).cur
    · exact e
    · rw [if_pos e] at hc; omega
  have ej : j = (St.after f k).cur := by omega
  rw [if_neg (by omega), if_neg (by omega)] at hc
  intro e
  rw [ej] at e
  by_cases hf : (f k).fn = topFn ((St.after f k).tasks (St.after f k).cur)
  · rw [if_neg (by simpa using hf), e] at hc
    rcases h1 with h1 | h1
    · rw [if_pos h1] at hc; simp at hc
    · rw [if_neg (by omega), if_pos h1] at hc; simp [topFrom] at hc
  · rw [if_pos hf] at hc; omega

/-- The law's memory: the drawn trace's box stands at D, the three slices at D + 1. -/
structure L4At (Wd W : World) (v1 v2 : Value) (V : Nat → Value) (l : Nat → List Fr) (q : Nat) : Prop where
  bd : Below Wd.heap.size Wd W
  b0 : W.cell? ⟨Wd.heap.size, 0, none⟩ = some v1
  b1 : W.cell? ⟨Wd.heap.size, 1, none⟩ = some v2
  row : W.rowIs (Wd.heap.size + 1) 45 3 V
  fr : ∀ t, t < q → FrsAt (Wd.heap.size + 2) W (V t) (l t) ∧ (l t).length ≤ 200

theorem L4At.below {Wd W W' : World} {v1 v2 : Value} {V : Nat → Value} {l : Nat → List Fr} {q : Nat} (h : L4At Wd W v1 v2 V l q) (hb : Below W.heap.size W W') : L4At Wd W' v1 v2 V l q :=
  ⟨h.bd.trans (hb.mono h.bd.size), cell_below hb h.b0, cell_below hb h.b1, h.row.of_block (hb.block _ h.row.lt), fun t ht => ⟨(h.fr t ht).1.below hb, (h.fr t ht).2⟩⟩

theorem L4At.start (Wd : World) (v1 v2 : Value) (l : Nat → List Fr) :
    L4At Wd ((Wd.alloc (.cells #[v1, v2] 26)).alloc (.cells #[.slice none 0 0, .slice none 0 0, .slice none 0 0] 45)) v1 v2 (fun _ => .slice none 0 0) l 0 := by
  have hs : (Wd.alloc (.cells #[v1, v2] 26)).heap.size = Wd.heap.size + 1 := by simp
  have hb := below_new (Wd.alloc (.cells #[v1, v2] 26)) (.cells #[.slice none 0 0, .slice none 0 0, .slice none 0 0] 45)
  have h0 : ((Wd.alloc (.cells #[v1, v2] 26)).alloc (.cells #[.slice none 0 0, .slice none 0 0, .slice none 0 0] 45)).heap[Wd.heap.size]? = some (.cells #[v1, v2] 26 (0, 0)) := by
    rw [hb.block _ (by omega)]; exact heap_alloc_new Wd _
  have h1 := heap_alloc_new (Wd.alloc (.cells #[v1, v2] 26)) (.cells #[.slice none 0 0, .slice none 0 0, .slice none 0 0] 45)
  rw [hs] at h1
  refine ⟨(below_new Wd _).trans (hb.mono (by omega)), ?_, ?_, ⟨_, h1, rfl, fun i hi => ?_⟩, fun t ht => absurd ht (Nat.not_lt_zero _)⟩
  · rw [cell_of_row _ _ 0 _ _ _ h0]; rfl
  · rw [cell_of_row _ _ 1 _ _ _ h0]; rfl
  · rcases (show i = 0 ∨ i = 1 ∨ i = 2 by omega) with rfl | rfl | rfl
    all_goals rfl

theorem L4At.put {Wd W : World} {v1 v2 v : Value} {V : Nat → Value} {l l' : Nat → List Fr} {q q' j : Nat} (h : L4At Wd W v1 v2 V l q) (hv : FrsAt (Wd.heap.size + 2) W v (l' j)) (hl : (l' j).length ≤ 200) (hq : ∀ t, t < q' → t ≠ j → t < q ∧ l' t = l t) :
    L4At Wd (W.setCell ⟨Wd.heap.size + 1, j, none⟩ v) v1 v2 (fun t => if t = j then v else V t) l' q' := by
  have hfs2 : ∀ {u : Value} {l : List Fr}, FrsAt (Wd.heap.size + 2) W u l → FrsAt (Wd.heap.size + 2) (W.setCell ⟨Wd.heap.size + 1, j, none⟩ v) u l := fun h => owns_setCell h (fun e => by have := (h.lt _ e).1; simp only at this; omega)
  refine ⟨h.bd.setCell (p := ⟨Wd.heap.size + 1, j, none⟩) (by simp) _, ?_, ?_, h.row.set j v, fun t ht => ?_⟩
  · exact cell_set_ne (by simp) h.b0
  · exact cell_set_ne (by simp) h.b1
  · by_cases e : t = j
    · subst e
      rw [if_pos rfl]
      exact ⟨hfs2 hv, hl⟩
    · obtain ⟨h1, h2⟩ := hq t ht e
      rw [if_neg e, h2]
      exact ⟨hfs2 (h.fr t h1).1, (h.fr t h1).2⟩

theorem L4At.lt {Wd W : World} {v1 v2 : Value} {V : Nat → Value} {l : Nat → List Fr} {q : Nat} (h : L4At Wd W v1 v2 V l q) : Wd.heap.size + 2 ≤ W.heap.size := h.row.lt
end Go.Proofs.Ytoiacbdnkkolmaa
