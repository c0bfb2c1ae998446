/-
  maps.Keys over the map of LineCounts; slices.AppendSeq, slices.Collect of its keys.
-/
import Derived.Test.YtoiacbdnkkolmabJ3
import Derived.RangeFuncSeq
import Derived.RangeFuncKeeps
import Derived.RangeFuncWrites
import Derived.RangeFuncBox
import Derived.RangeFuncLeaves
import Derived.Sort.MapsRangeIn
import Derived.Shelf.Abstract
import Derived.WalkKit
import Derived.OwnWalkIn
import Derived.TacticsInMore
import Derived.RegionIn
import Derived.LoopNIn
import Derived.LoopIn
import Derived.Maps.AppendAt
namespace Go.Proofs.Ytoiacbdnkkolmab
open Go.RowKit Go.Shelf Go.Maps

attribute [local go_sem] Oper.semAt_some

/-- The keys of the map, each once. -/
structure KeysAre (g : Int → Int → Int) (nn : Nat) (ss : List (Lk)) : Prop where
  nodup : ss.Nodup
  has : ∀ p, p ∈ ss → 1 ≤ g p.fn p.line
  all : ∀ p : Lk, (Lit.int .i64 p.fn).wf = true → (Lit.int .i64 p.line).wf = true → 1 ≤ g p.fn p.line → p ∈ ss
  len : ss.length ≤ nn

set_option maxRecDepth 100000 in
set_option maxHeartbeats 2000000 in
theorem keys1_in (m : Nat) (hm : 1 ≤ m) (l Bm b nn : Nat) (D : DataW Unit) (g : Int → Int → Int) (J Jx : List (Lk) → World → Prop)
    (hY : ∀ pre x W, J pre W → pre.length < nn → YieldAt Fence.wide (m - 1) Try.prog l #[lkV x] W fun e W' => (e = .returned (.bool true) ∧ J (pre ++ [x]) W' ∧ KeepsWalks W W') ∨ (e = .returned (.bool false) ∧ Jx (pre ++ [x]) W'))
    (W : World) (hJ : AbidesFrom W.heap.size J) (hc : W.cell? ⟨Bm, 0, none⟩ = some (.map (some b))) (hown : LineMap W b nn D g) (h0 : J [] W) :
    CallsIn Fence.wide m Try.prog 109 #[.func (.yield l) #[] #[], .pointer (some ⟨Bm, 0, none⟩)] W fun e W' => (∃ v, e = .returned v) ∧ ((∃ ss, KeysAre g nn ss ∧ J ss W') ∨ (∃ pre, True ∧ Jx pre W')) := by
  refine callsIn_of_wp Try.func109 rfl trivial ?_ rfl
  simp only [Try.ntmps109, List.size_toArray, List.length_cons, List.length_nil, Nat.reduceAdd, Nat.reduceSub, Array.replicate_succ, Array.replicate_zero, List.push_toArray, List.append_toArray, List.nil_append, List.cons_append]
  gi_wp2_with (first
    | (gi_at_range; refine wpListIn_range_own _ rfl _ 81 rfl 83 3 lawN Try.underlying81 _ b nn _ rfl hown.1 ?_; intro w0 hrg0 hg0 hs0)
    | gi_in)
  go_frame
  gi_loopw [3] (fun _ wr => ∃ (left : Lit → Bool) (cnt : Nat) (ss : List (Lk)), wr.ranges Try.prog 83 (plainElem Try.prog 3) b W.heap.size nn D left cnt ∧ ss.length + cnt ≤ Maps.size D ∧ GotKeys D left ss ∧ J ss wr)
    (fun _ wr => wr.rangeLeft b W.heap.size)
  case atStart =>
    exact ⟨_, _, [], hrg0, by simp, GotKeys.start D, hJ [] W w0 none h0 hg0 (fun r e => by cases e)⟩
  case round =>
    obtain ⟨left, cnt, ss, hrg, hcs, hC, hJs⟩ := hrel
    have hsz : Maps.size D ≤ nn := hown.1.size_le
    gi_wp2_with (first
      | (gi_at_next; refine wpListIn_next_ranges _ rfl _ rfl 83 lawN (plainElem Try.prog 3) lkV id (fun key kl hk => by obtain ⟨x, hx, _⟩ := lk_inv hk; exact ⟨x, hx⟩) (fun v _ _ => ⟨v, rfl⟩) b W.heap.size nn _ _ _ rfl hrg ?_ ?_)
      | gi_in)
    · intro hc0 hl0
      gi_wp2
      go_end0
      obtain ⟨q1, q2, q3⟩ := hC.all hown hl0
      exact ⟨⟨_, rfl⟩, .inl ⟨ss, ⟨q1, q2, q3, by omega⟩, hJs⟩⟩
    · intro x c kl yd yp w2 cnt2 hkey hlk hv hat hrg2 hlt hg2 hs2 hen
      obtain ⟨x', ex, wa, wb⟩ := lk_inv hkey
      obtain rfl : x = x' := lkV_inj ex
      obtain rfl : kl = lkLit x := by rw [lk_ok x wa wb] at hkey; exact (Option.some.inj hkey).symm
      have hJ2 : J ss w2 := hJ ss wr w2 (some W.heap.size) hJs hg2 (fun r e => by cases e; exact ⟨Nat.le_refl _, hrg.iter_walk⟩)
      obtain ⟨w3, hw3⟩ : ∃ w3, w3 = w2.alloc (.cells #[.int .i64 x.fn, .int .i64 x.line] 83) := ⟨_, rfl⟩
      have hJ3 : J ss w3 := by rw [hw3]; exact hJ ss w2 _ none hJ2 (World.grownBy_alloc _ _ _) (fun r e => by cases e)
      have hrg3 : w3.ranges Try.prog 83 (plainElem Try.prog 3) b W.heap.size nn D (fun z => left z && !z.sameKey (lkLit x)) cnt2 := by rw [hw3]; exact hrg2.alloc _
      obtain ⟨fn, tmps, assign, body, hy, hR⟩ := hY ss x w3 hJ3 (by omega)
      rw [hw3] at hy hR
      have HW3 := hide hw3
      clear hs2 hw3
      gi_wp2
      refine hR.mono ?_
      have hC2 := hC.step wa wb hlk hat
      rw [← unhide HW3]
      rintro e W3 (⟨rfl, hJ4, hk3⟩ | ⟨rfl, hJx3⟩)
      · gi_wp2
        have hrg4 := hrg3.of_walks hk3
        go_roundw
        case rel => exact ⟨_, cnt2, ss ++ [x], hrg4, by simp; omega, hC2, hJ4⟩
        case measure => rw [hrg4.left_eq, hrg.left_eq]; exact hlt
      · gi_wp2
        refine bodyPost_ret (results_none rfl _ _ _) rfl ?_
        exact ⟨⟨_, rfl⟩, .inr ⟨ss ++ [x], trivial, hJx3⟩⟩

set_option maxHeartbeats 1000000 in
/-- maps.Keys(m): the map is boxed, the function value captures the box. -/
theorem keys_in (m : Nat) (mb : Option Nat) (w : World) :
    CallsIn Fence.wide m Try.prog 67 #[.map mb] w fun e w' => e = .returned (.func (.func 109) #[] #[.pointer (some ⟨w.heap.size, 0, none⟩)]) ∧ w' = w.alloc (.cells #[.map mb] 81) := by
  refine callsIn_of_wp Try.func67 rfl trivial ?_ rfl
  simp only [Try.ntmps67, List.size_toArray, List.length_cons, List.length_nil, Nat.reduceAdd, Nat.reduceSub, Array.replicate_succ, Array.replicate_zero, List.push_toArray, List.append_toArray, List.nil_append, List.cons_append]
  gi_wp2
  go_ret
  exact ⟨rfl, rfl⟩

theorem keys_stops (m : Nat) (hm : 1 ≤ m) (Bm b nn : Nat) (D : DataW Unit) (g : Int → Int → Int) (w : World) (hBm : Bm < w.heap.size) (hc : w.cell? ⟨Bm, 0, none⟩ = some (.map (some b))) (hown : LineMap w b nn D g) :
    SeqStopsK Fence.wide m Try.prog 109 #[.pointer (some ⟨Bm, 0, none⟩)] (fun x : Lk => #[lkV x]) KeepsWalks (KeysAre g nn) (fun _ => True) nn w := fun l J Jx W hW hJ _ hY h0 =>
  keys1_in m hm l Bm b nn D g J Jx hY W hJ ((hW.cell (p := ⟨Bm, 0, none⟩) hBm).trans hc) (hown.below hW) h0
end Go.Proofs.Ytoiacbdnkkolmab
