/-
  Slices of structs of integers, read by index: no dump is named here.
-/
import Derived.Test.YtoiacbdnkkolmabBase
import Derived.Test.YtoiacbdnkkolmabS8
namespace Go.Proofs.Ytoiacbdnkkolmab
open Go.RowKit

/-- A slice of n structs of z integers. -/
def RowsAt (lo : Nat) (w : World) (v : Value) (z n : Nat) (F : Nat → Nat → Int) : Prop :=
  ∃ a cap, v = .slice a n cap ∧ ∀ i, i < n → ∃ b, a = some ⟨b, 0, none⟩ ∧ lo ≤ b ∧ ∀ j, j < z → w.cell? ⟨b, i * z + j, none⟩ = some (.int .i64 (F i j)) ∧ w.frozen? ⟨b, i * z + j, none⟩ = false

theorem RowsAt.below {lo : Nat} {w w' : World} {v : Value} {z n : Nat} {F : Nat → Nat → Int} (h : RowsAt lo w v z n F) (hb : Below w.heap.size w w') : RowsAt lo w' v z n F := by
  obtain ⟨a, cap, hv, h⟩ := h
  refine ⟨a, cap, hv, fun i hi => ?_⟩
  obtain ⟨b, ha, hl, hc⟩ := h i hi
  exact ⟨b, ha, hl, fun j hj => ⟨cell_below hb (hc j hj).1, by rw [hb.frozen (cell_lt (hc j hj).1)]; exact (hc j hj).2⟩⟩

/-- What is written below or beside it leaves it as it is. -/
theorem RowsAt.keep {lo B : Nat} {w w' : World} {v : Value} {z n : Nat} {F : Nat → Nat → Int} (h : RowsAt lo w v z n F) (hb : Below B w w') (hB : w.heap.size ≤ B) : RowsAt lo w' v z n F := h.below (hb.mono hB)

theorem RowsAt.low {lo lo' : Nat} {w : World} {v : Value} {z n : Nat} {F : Nat → Nat → Int} (h : RowsAt lo w v z n F) (hl : lo' ≤ lo) : RowsAt lo' w v z n F := by
  obtain ⟨a, cap, hv, h⟩ := h
  refine ⟨a, cap, hv, fun i hi => ?_⟩
  obtain ⟨b, ha, h1, hc⟩ := h i hi
  exact ⟨b, ha, by omega, hc⟩

theorem RowsAt.congr {lo : Nat} {w : World} {v : Value} {z n : Nat} {F G : Nat → Nat → Int} (h : RowsAt lo w v z n F) (e : ∀ i j, i < n → j < z → F i j = G i j) : RowsAt lo w v z n G := by
  obtain ⟨a, cap, hv, h⟩ := h
  refine ⟨a, cap, hv, fun i hi => ?_⟩
  obtain ⟨b, ha, h1, hc⟩ := h i hi
  exact ⟨b, ha, h1, fun j hj => by rw [← e i j hi hj]; exact hc j hj⟩

theorem RowsAt.nil (lo : Nat) (w : World) (z : Nat) (F : Nat → Nat → Int) : RowsAt lo w (.slice none 0 0) z 0 F := ⟨none, 0, rfl, fun _ hi => absurd hi (Nat.not_lt_zero _)⟩

theorem place_inj {z i j i' j' : Nat} (hj : j < z) (hj' : j' < z) (h : i * z + j = i' * z + j') : i = i' ∧ j = j' := by
  have h1 : (i * z + j) / z = i := by rw [Nat.add_comm, Nat.add_mul_div_right _ _ (by omega), Nat.div_eq_of_lt hj]; omega
  have h2 : (i' * z + j') / z = i' := by rw [Nat.add_comm, Nat.add_mul_div_right _ _ (by omega), Nat.div_eq_of_lt hj']; omega
  have : i = i' := by rw [← h1, ← h2, h]
  subst this
  exact ⟨rfl, by omega⟩

/-- One cell is written. -/
theorem RowsAt.set {lo : Nat} {w : World} {a : Option Addr} {cap z n b i j : Nat} {F : Nat → Nat → Int} (h : RowsAt lo w (.slice a n cap) z n F) (ha : a = some ⟨b, 0, none⟩) (hj : j < z) (x : Int) :
    RowsAt lo (w.setCell ⟨b, i * z + j, none⟩ (.int .i64 x)) (.slice a n cap) z n (fun i' j' => if i' = i ∧ j' = j then x else F i' j') := by
  obtain ⟨a', cap', hv, h⟩ := h
  cases hv
  refine ⟨a, cap, rfl, fun i' hi' => ?_⟩
  obtain ⟨b', ha', hl, hc⟩ := h i' hi'
  rw [ha] at ha'
  cases ha'
  refine ⟨b, ha, hl, fun j' hj' => ⟨?_, by rw [World.frozen?_setCell]; exact (hc j' hj').2⟩⟩
  dsimp only
  by_cases e : i' = i ∧ j' = j
  · obtain ⟨rfl, rfl⟩ := e
    rw [if_pos ⟨rfl, rfl⟩]
    exact World.cell?_setCell_same _ _ _ (hc j' hj').1
  · rw [if_neg e, World.cell?_setCell_other _ _ _ _ (fun h => e (place_inj hj' hj (by simpa using (congrArg Addr.off h).symm)))]
    exact (hc j' hj').1

theorem RowsAt.at_ {lo : Nat} {w : World} {a : Option Addr} {cap z n : Nat} {F : Nat → Nat → Int} (h : RowsAt lo w (.slice a n cap) z n F) (i : Nat) (hi : i < n) :
    ∃ b, a = some ⟨b, 0, none⟩ ∧ lo ≤ b ∧ ∀ j, j < z → w.cell? ⟨b, i * z + j, none⟩ = some (.int .i64 (F i j)) ∧ w.frozen? ⟨b, i * z + j, none⟩ = false := by
  obtain ⟨a', cap', hv, h⟩ := h
  cases hv
  exact h i hi

theorem RowsAt.shape {lo : Nat} {w : World} {v : Value} {z n : Nat} {F : Nat → Nat → Int} (h : RowsAt lo w v z n F) : ∃ a cap, v = .slice a n cap := by
  obtain ⟨a, cap, hv, _⟩ := h
  exact ⟨a, cap, hv⟩

/-- What an owned row of integers reads as. -/
theorem RowsAt.of_owns {B : Nat} {w : World} {e : TypeId} {z n : Nat} {v : Value} {xs : List Value} {F : Nat → Nat → Int} (h : w.ownsRow B e z v n xs) (hx : ∀ i j, i < n → j < z → xs[i * z + j]? = some (.int .i64 (F i j))) : RowsAt B w v z n F := by
  obtain ⟨a, cap, rfl⟩ := owns_slice h
  refine ⟨a, cap, rfl, fun i hi => ?_⟩
  rcases h.2 with ⟨_, h0⟩ | ⟨g, cap', cur, hv, hB, _⟩
  · omega
  · cases hv
    exact ⟨g, rfl, hB, fun j hj => owns_cell h _ _ (hx i j hi hj)⟩
end Go.Proofs.Ytoiacbdnkkolmab
