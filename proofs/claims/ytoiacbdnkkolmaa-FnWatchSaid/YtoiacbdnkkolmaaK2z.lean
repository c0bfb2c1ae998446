import Derived.Test.YtoiacbdnkkolmaaK1z
import Derived.Test.YtoiacbdnkkolmaaH2z
namespace Go.Proofs.Ytoiacbdnkkolmaa
open Go.RowKit

theorem own_moms {B : Nat} {w : World} {v : Value} {ms : List Mo} (h : OwnM B w v ms) (hl : ms.length ≤ 1000) : MomsAt B w v ms.length (momOf ms) := by
  obtain ⟨a, cap, rfl⟩ := owns_slice h.row
  refine ⟨a, cap, rfl, by unfold maxLen; omega, fun i hi => ?_⟩
  obtain ⟨g, cap', e, hB⟩ := owns_at h.row (by omega)
  cases e
  obtain ⟨e0, e1, e2, e3, e4, e5⟩ := momCells_get ms i hi
  obtain ⟨c0, f0⟩ := owns_cell h.row _ _ e0
  obtain ⟨c1, f1⟩ := owns_cell h.row _ _ e1
  obtain ⟨c2, f2⟩ := owns_cell h.row _ _ e2
  obtain ⟨c3, f3⟩ := owns_cell h.row _ _ e3
  obtain ⟨c4, f4⟩ := owns_cell h.row _ _ e4
  obtain ⟨c5, f5⟩ := owns_cell h.row _ _ e5
  obtain ⟨hv, hv3, htx⟩ := h.vars ms[i] (List.getElem_mem hi)
  have em : momOf ms i = ms[i].m := by unfold momOf; rw [getD_at _ _ _ hi]
  rw [em]
  refine ⟨g, 0, ms[i].vv, rfl, ?_, ?_, ?_, ?_, ?_, ?_, ?_, hv.varsAt hv3, fun j hj => ⟨hB, fun _ => ?_⟩⟩
  · rw [Nat.zero_add]; exact c0
  · rw [Nat.zero_add]; exact c1
  · rw [Nat.zero_add]; exact c2
  · rw [Nat.zero_add]; exact c3
  · rw [Nat.zero_add]; exact c4
  · rw [Nat.zero_add]; exact c5
  · show ms[i].text.size ≤ maxLen
    unfold maxLen; omega
  · rw [Nat.zero_add]
    rcases (show j = 0 ∨ j = 1 ∨ j = 2 ∨ j = 3 ∨ j = 4 ∨ j = 5 by omega) with rfl | rfl | rfl | rfl | rfl | rfl
    · exact f0
    · exact f1
    · exact f2
    · exact f3
    · exact f4
    · exact f5

/-- FnWatch's trace and list while they are built. -/
structure WT (w : World) (ms : List Mo) (want : List Nat) (mv wv : Value) (W : World) : Prop where
  fs : W.heap[w.heap.size]? = some (.cells #[.string ⟨#[109, 97, 105, 110]⟩, .string ⟨#[102]⟩] 9 (0, 0))
  tr : W.heap[w.heap.size + 1]? = some (.cells #[deepFv w, mv] 26 (0, 0))
  mom : OwnM (w.heap.size + 2) W mv ms
  wan : IntsOwn (w.heap.size + 2) W wv want
  below : Below w.heap.size w W

section
variable {w W W' : World} {ms : List Mo} {want : List Nat} {mv wv : Value} (h : WT w ms want mv wv W)
include h
theorem WT.size : w.heap.size + 2 ≤ W.heap.size := heap_lt h.tr
theorem WT.t0 : W.cell? ⟨w.heap.size + 1, 0, none⟩ = some (deepFv w) := by rw [cell_of_row W _ 0 _ _ _ h.tr]; rfl
theorem WT.t1 : W.cell? ⟨w.heap.size + 1, 1, none⟩ = some mv := by rw [cell_of_row W _ 1 _ _ _ h.tr]; rfl
theorem WT.go (hb : Below W.heap.size W W') : WT w ms want mv wv W' :=
  ⟨(hb.block _ (heap_lt h.fs)).trans h.fs, (hb.block _ (heap_lt h.tr)).trans h.tr, h.mom.below hb, h.wan.below hb, h.below.trans (hb.mono h.below.size)⟩
theorem WT.strs : StrsAt 0 W (deepFv w) 2 deepFns := by
  refine ⟨_, _, rfl, by unfold maxLen; omega, fun i hi => ⟨w.heap.size, 0, rfl, ?_, ?_, Nat.zero_le _, fun e => absurd rfl e⟩⟩
  · rcases (show i = 0 ∨ i = 1 by omega) with rfl | rfl
    · rw [cell_of_row W _ _ _ _ _ h.fs]; rfl
    · rw [cell_of_row W _ _ _ _ _ h.fs]; rfl
  · rcases (show i = 0 ∨ i = 1 by omega) with rfl | rfl <;> (unfold maxLen; decide)
theorem WT.moms (hk : ms.length ≤ 1000) : MomsAt 0 W mv ms.length (momOf ms) := (own_moms h.mom hk).low (Nat.zero_le _)

/-- The moments are grown and put back. -/
theorem WT.putM {mv' : Value} {news : List Mo} (hg : W.grownBy W' mv.ownBlock) (ho : W'.ownsRow (w.heap.size + 2) 30 6 mv' (ms ++ news).length (momCells (ms ++ news)))
    (hv : ∀ x, x ∈ news → OwnV (w.heap.size + 2) W x.vv x.l ∧ x.l.length ≤ 3 ∧ x.text.size ≤ 1) :
    W'.heap[w.heap.size + 1]? = some (.cells #[deepFv w, mv] 26 (0, 0)) ∧ WT w (ms ++ news) want mv' wv (W'.setCell ⟨w.heap.size + 1, 1, none⟩ mv') := by
  have hrow := owns_kind h.mom.row
  have hne : ∀ b, b < w.heap.size + 2 → some b ≠ mv.ownBlock := fun b hb e => by
    have := (hrow b e.symm).1
    omega
  have hlow : ∀ {e : TypeId} {z : Nat} {v : Value} {n : Nat} {xs : List Value} {X : World}, X.ownsRow (w.heap.size + 2) e z v n xs → (X.setCell ⟨w.heap.size + 1, 1, none⟩ mv').ownsRow (w.heap.size + 2) e z v n xs := fun hx =>
    owns_setCell hx (fun e => by have := (owns_kind hx _ e).1; simp at this)
  have hs := h.size
  have hvar : ∀ v l, OwnV (w.heap.size + 2) W v l → OwnV (w.heap.size + 2) (W'.setCell ⟨w.heap.size + 1, 1, none⟩ mv') v l := fun v l hx =>
    ⟨hlow (owns_apart hx.1 hg (fun g e => (hrow g e).2) (by decide)), hx.2⟩
  have t1 : W'.heap[w.heap.size + 1]? = some (.cells #[deepFv w, mv] 26 (0, 0)) := by
    rw [hg.block _ (by omega) (hne _ (by omega))]; exact h.tr
  have t0 : W'.heap[w.heap.size]? = some (.cells #[.string ⟨#[109, 97, 105, 110]⟩, .string ⟨#[102]⟩] 9 (0, 0)) := by
    rw [hg.block _ (by omega) (hne _ (by omega))]; exact h.fs
  refine ⟨t1, ⟨?_, setCells_two _ _ _ _ _ _ t1, ⟨hlow ho, fun x hx => ?_⟩, hlow (owns_apart h.wan hg (fun g e => (hrow g e).2) (by decide)), ?_⟩⟩
  · rw [heap_setCell_other _ _ _ _ (by show w.heap.size ≠ w.heap.size + 1; omega)]; exact t0
  · rcases List.mem_append.1 hx with hx | hx
    · obtain ⟨a1, a2⟩ := h.mom.vars x hx
      exact ⟨hvar _ _ a1, a2⟩
    · obtain ⟨a1, a2⟩ := hv x hx
      exact ⟨hvar _ _ a1, a2⟩
  · exact (Below.grown h.below hg h.below.size (fun b e => by have := (hrow b e).1; omega)).setCell (p := ⟨w.heap.size + 1, 1, none⟩) (by show w.heap.size ≤ w.heap.size + 1; omega) _

/-- The list is grown. -/
theorem WT.putW {wv' : Value} {k : Nat} (hg : W.grownBy W' wv.ownBlock) (ho : IntsOwn (w.heap.size + 2) W' wv' (want ++ [k])) : WT w ms (want ++ [k]) mv wv' W' := by
  have hrow := owns_kind h.wan
  have hne : ∀ b, b < w.heap.size + 2 → some b ≠ wv.ownBlock := fun b hb e => by
    have := (hrow b e.symm).1
    omega
  have hs := h.size
  refine ⟨?_, ?_, ⟨owns_apart h.mom.row hg (fun g e => (hrow g e).2) (by decide), fun x hx => ?_⟩, ho, Below.grown h.below hg h.below.size (fun b e => by have := (hrow b e).1; omega)⟩
  · rw [hg.block _ (by omega) (hne _ (by omega))]; exact h.fs
  · rw [hg.block _ (by omega) (hne _ (by omega))]; exact h.tr
  · obtain ⟨a1, a2⟩ := h.mom.vars x hx
    exact ⟨⟨owns_apart a1.1 hg (fun g e => (hrow g e).2) (by decide), a1.2⟩, a2⟩
end

theorem ownV_nil (B : Nat) (W : World) : OwnV B W (.slice none 0 0) [] := ⟨World.ownsRow_nil _ _ _ _, fun x hx => by cases hx⟩

theorem ownV_one {B b : Nat} {W : World} {n1 t1 : ByteArray} (h : W.heap[b]? = some (.cells #[.string n1, .string t1] 64 (0, 0))) (hB : B ≤ b) (a1 : n1.size = 1) (a2 : t1.size = 1) : OwnV B W (.slice (some ⟨b, 0, none⟩) 1 1) [⟨n1, t1⟩] := by
  refine ⟨⟨rfl, .inr ⟨b, 1, _, rfl, hB, h, Nat.le_refl _, by unfold maxLen; omega, rfl, rfl⟩⟩, fun x hx => ?_⟩
  rw [List.mem_singleton.1 hx]; exact ⟨a1, a2⟩

theorem ownV_two {B b : Nat} {W : World} {n1 t1 n2 t2 : ByteArray} (h : W.heap[b]? = some (.cells #[.string n1, .string t1, .string n2, .string t2] 64 (0, 0))) (hB : B ≤ b) (a1 : n1.size = 1) (a2 : t1.size = 1) (a3 : n2.size = 1) (a4 : t2.size = 1) : OwnV B W (.slice (some ⟨b, 0, none⟩) 2 2) [⟨n1, t1⟩, ⟨n2, t2⟩] := by
  refine ⟨⟨rfl, .inr ⟨b, 2, _, rfl, hB, h, Nat.le_refl _, by unfold maxLen; omega, rfl, rfl⟩⟩, fun x hx => ?_⟩
  rcases List.mem_cons.1 hx with e | hx
  · rw [e]; exact ⟨a1, a2⟩
  · rw [List.mem_singleton.1 hx]; exact ⟨a3, a4⟩

/-- A digit's text. -/
def digit (d : Nat) : ByteArray := strOfNums [48 + (d : Int)]

theorem digit_size (d : Nat) : (digit d).size = 1 := rfl

theorem digit_inj {a b : Nat} (ha : a < 3) (hb : b < 3) (h : digit a = digit b) : a = b := by
  rcases (show a = 0 ∨ a = 1 ∨ a = 2 by omega) with rfl | rfl | rfl <;> rcases (show b = 0 ∨ b = 1 ∨ b = 2 by omega) with rfl | rfl | rfl <;> first | rfl | (exfalso; revert h; decide)

attribute [local go_sem ↓] Go.wp_at_zero Go.wp_at_succ

set_option maxHeartbeats 1000000 in
theorem wDigit_any (d : Nat) (w : World) (hd : d ≤ 3) :
    Calls Try.prog 35 #[.int .i64 (d : Int)] w fun e w' => e = .returned (.string (digit d)) ∧ Below w.heap.size w w' := by
  have wl : IntKind.i64.wrap (48 + (d : Int)) = 48 + (d : Int) := by rw [IntKind.wrap_i64]; omega
  have wu : IntKind.u8.wrap (48 + (d : Int)) = 48 + (d : Int) := by rw [wrap_u8']; omega
  have ec := conv_one (w.alloc (.cells #[.int .u8 (48 + (d : Int))] 5)) w.heap.size (48 + (d : Int)) (by rw [cell_of_row _ _ 0 _ _ _ (heap_alloc_new w _)]; rfl)
  go_enter Try.func35, Try.ntmps35
  go_wp2
  go_ret
  exact ⟨rfl, below_new _ _⟩
end Go.Proofs.Ytoiacbdnkkolmaa
