import Derived.Test.YtoiacbdnkkolmabC16
import Derived.Test.YtoiacbdnkkolmabC14
namespace Go.Proofs.Ytoiacbdnkkolmab
open Go.RowKit Go.Lib Go.Maps

theorem TreeAt.mono {lo : Nat} {W : World} {g N N' : Nat} {T : Tree} {S S' : Int → Prop} (h : TreeAt lo W g N T S) (hN : N ≤ N') (hS : ∀ x, S' x → S x) : TreeAt lo W g N' T S' := by
  obtain ⟨nb, ni, om, of, mv, num, h1, h2⟩ := h
  exact ⟨nb, ni, om, of, mv, num, h1.mono hN, fun x hx => h2 x (hS x hx)⟩

/-- The tree of no branches. -/
def Tree.none : Tree := ⟨[], fun _ => 0⟩

theorem none_call : Tree.none.call (-1) 0 (-1) = Tree.init := by
  unfold Tree.none Tree.call Tree.init brMake brFind
  simp [Br.called, List.modify_zero_cons]

theorem none_at (w : World) : ImT w.heap.size ((((w.alloc (.map #[] 0)).alloc (.cells #[.int .i64 0, .pointer none, .map (some w.heap.size), .int .i64 0, .int .i64 0, .int .i64 (-1)] 127)).alloc (.map #[] 0)).alloc (.cells #[.pointer (some ⟨w.heap.size + 1, 0, none⟩), .slice none 0 0, .map (some (w.heap.size + 1 + 1))] 175))
    (w.heap.size + 1 + 1 + 1) 0 Tree.none (fun _ => w.heap.size + 1) (fun _ => w.heap.size) (w.heap.size + 1 + 1) (fun _ => none) (.slice none 0 0) (fun _ => 0) := by
  obtain ⟨A, hA⟩ : ∃ A, A = w.alloc (.map #[] 0) := ⟨_, rfl⟩
  have sA : A.heap.size = w.heap.size + 1 := by rw [hA]; simp
  have pA : PtrMap A w.heap.size 0 (fun _ => none) := by rw [hA]; exact PtrMap.made w
  rw [← hA]
  obtain ⟨B, hB⟩ : ∃ B, B = A.alloc (.cells #[.int .i64 0, .pointer none, .map (some w.heap.size), .int .i64 0, .int .i64 0, .int .i64 (-1)] 127) := ⟨_, rfl⟩
  have sB : B.heap.size = w.heap.size + 1 + 1 := by rw [hB]; simp [sA]
  have bB : Below A.heap.size A B := by rw [hB]; exact below_new _ _
  have kB : B.heap[w.heap.size + 1]? = some (.cells #[.int .i64 0, .pointer none, .map (some w.heap.size), .int .i64 0, .int .i64 0, .int .i64 (-1)] 127 (0, 0)) := by rw [hB, ← sA]; exact heap_alloc_new A _
  rw [← hB]
  obtain ⟨C, hC⟩ : ∃ C, C = B.alloc (.map #[] 0) := ⟨_, rfl⟩
  have sC : C.heap.size = w.heap.size + 1 + 1 + 1 := by rw [hC]; simp [sB]
  have bC : Below B.heap.size B C := by rw [hC]; exact below_new _ _
  have pC : PtrMap C (w.heap.size + 1 + 1) 0 (fun _ => none) := by rw [hC, ← sB]; exact PtrMap.made B
  rw [← hC]
  obtain ⟨D, hD⟩ : ∃ D, D = C.alloc (.cells #[.pointer (some ⟨w.heap.size + 1, 0, none⟩), .slice none 0 0, .map (some (w.heap.size + 1 + 1))] 175) := ⟨_, rfl⟩
  have bD : Below C.heap.size C D := by rw [hD]; exact below_new _ _
  have kD : D.heap[w.heap.size + 1 + 1 + 1]? = some (.cells #[.pointer (some ⟨w.heap.size + 1, 0, none⟩), .slice none 0 0, .map (some (w.heap.size + 1 + 1))] 175 (0, 0)) := by rw [hD, ← sC]; exact heap_alloc_new C _
  rw [← hD]
  have z : Tree.none.bs.length = 0 := rfl
  refine ⟨kD, by omega, fun _ _ => by omega, fun _ _ => by omega, by omega, World.ownsRow_nil _ _ _ _, ?_, fun i hi => absurd hi (Nat.not_lt_zero _), fun i hi => absurd hi (Nat.not_lt_zero _), fun j hj => ?_, ?_, fun i j hi hj _ => by omega, fun i j hi hj _ => by omega, fun j _ => by omega⟩
  · rw [bD.block _ (by omega), bC.block _ (by omega)]; exact kB
  · exact (pA.of_block (by rw [bD.block _ (by omega), bC.block _ (by omega), bB.block _ (by omega)])).congr (fun x => by unfold nodeOf; rw [if_neg (by omega)])
  · exact pC.of_block (bD.block _ (by omega))

set_option maxRecDepth 100000 in
set_option maxHeartbeats 1000000 in
theorem newTree_any (w : World) : Calls Try.prog 81 #[] w fun e w' => (∃ g, e = .returned (.pointer (some ⟨g, 0, none⟩)) ∧ TreeAt w.heap.size w' g 2 Tree.init (fun x => x = -1)) ∧ Below w.heap.size w w' := by
  have HT := hide (none_at w)
  have HB : Hid (Below w.heap.size w ((((w.alloc (.map #[] 0)).alloc (.cells #[.int .i64 0, .pointer none, .map (some w.heap.size), .int .i64 0, .int .i64 0, .int .i64 (-1)] 127)).alloc (.map #[] 0)).alloc (.cells #[.pointer (some ⟨w.heap.size + 1, 0, none⟩), .slice none 0 0, .map (some (w.heap.size + 1 + 1))] 175))) :=
    hide (((((Below.refl _ _).alloc (Nat.le_refl _) _).alloc (by simp) _).alloc (by simp; omega) _).alloc (by simp; omega) _)
  have hmm := @run_makeMap Try.prog
  go_enter Try.func81, Try.ntmps81
  go_upto_region 2 with fail
  generalize (((w.alloc (.map #[] 0)).alloc (.cells #[.int .i64 0, .pointer none, .map (some w.heap.size), .int .i64 0, .int .i64 0, .int .i64 (-1)] 127)).alloc (.map #[] 0)).alloc (.cells #[.pointer (some ⟨w.heap.size + 1, 0, none⟩), .slice none 0 0, .map (some (w.heap.size + 1 + 1))] 175) = W at HT HB ⊢
  clear hmm
  go_wp2_with fail
  refine (call_any (lo := w.heap.size) (N := 0) (T := Tree.none) (S := fun _ => False) (-1) 0 [] none W ⟨_, _, _, _, _, _, unhide HT, fun x hx => hx.elim⟩ rfl (unhide HB).size (fun fr r e => by cases e) (by omega) (by decide) (fun x hx => hx.elim) (fun b hb => by cases hb) (by omega) (by omega)).mono ?_
  rintro e w1 ⟨rfl, ht, hb, -⟩
  have HT1 := hide ht
  have HB1 := hide ((unhide HB).trans hb)
  clear ht hb HT HB
  go_wp2_with fail
  go_ret
  refine ⟨⟨_, rfl, ?_⟩, unhide HB1⟩
  have h := unhide HT1
  rw [show Tree.none.parOf [] = -1 from rfl, none_call] at h
  exact h.mono (by omega) (fun x hx => .inr hx)
end Go.Proofs.Ytoiacbdnkkolmab
