/-
  slices.SortFunc and slices.SortedFunc at the keys of LineCounts.
-/
import Derived.Test.YtoiacbdnkkolmabJ6
import Derived.Sort.Row
import Derived.Sort.Grow
namespace Go.Proofs.Ytoiacbdnkkolmab
open Go.RowKit Go.Shelf Go.Maps Go.Sort

attribute [local go_sem ↓] Go.wp_at_zero Go.wp_at_succ

set_option maxRecDepth 100000 in
set_option maxHeartbeats 1000000 in
theorem bitsLen64_zero (w : World) : Calls Try.prog 169 #[.int .u64 0] w fun e w' => e = .returned (.int .i64 0) ∧ w' = w := by
  go_enter Try.func169, Try.ntmps169
  go_wp2
  go_ret
  exact ⟨by kernel_rfl, rfl⟩

theorem bitsLen_zero (w : World) : Calls Try.prog 139 #[.int .u64 0] w fun e w' => e = .returned (.int .i64 0) ∧ w' = w := by
  go_enter Try.func139, Try.ntmps139
  go_wp2_with fail
  refine (bitsLen64_zero _).mono ?_
  rintro e w1 ⟨rfl, rfl⟩
  go_wp2
  go_ret
  exact ⟨rfl, rfl⟩

set_option maxHeartbeats 1000000 in
theorem insertion_zero (fv : Value) (w : World) : Calls Try.prog 160 #[.slice none 0 0, .int .i64 0, .int .i64 0, fv] w fun e w' => e = .returned (.tuple #[]) ∧ w' = w := by
  go_enter Try.func160, Try.ntmps160
  go_wp2_with fail
  go_loopg [8] 0 (fun _ i W => i = .int .i64 1 ∧ W = w)
  case atStart => exact ⟨by go_num, rfl⟩
  case round =>
    obtain ⟨rfl, rfl⟩ := hrel
    go_wp2
    go_end0
    exact ⟨rfl, rfl⟩

set_option maxRecDepth 100000 in
set_option maxHeartbeats 1000000 in
theorem pdq_zero (fv : Value) (w : World) : Calls Try.prog 138 #[.slice none 0 0, .int .i64 0, .int .i64 0, .int .i64 0, fv] w fun e w' => e = .returned (.tuple #[]) ∧ w' = w := by
  go_enter Try.func138, Try.ntmps138
  go_wp2_with fail
  go_loopg [1, 2] 0 (fun _ a b W => a = .int .i64 0 ∧ b = .int .i64 0 ∧ W = w)
  case atStart => exact ⟨rfl, rfl, rfl⟩
  case round =>
    obtain ⟨rfl, rfl, rfl⟩ := hrel
    go_wp2_with fail
    refine (insertion_zero fv _).mono ?_
    rintro e w1 ⟨rfl, rfl⟩
    go_wp2
    refine bodyPost_ret (results_none rfl _ _ _) rfl ?_
    exact ⟨rfl, rfl⟩

theorem sortFunc_zero (fv : Value) (w : World) : Calls Try.prog 108 #[.slice none 0 0, fv] w fun e w' => e = .returned (.tuple #[]) ∧ w' = w := by
  go_enter Try.func108, Try.ntmps108
  go_wp2_with fail
  refine (bitsLen_zero _).mono ?_
  rintro e w1 ⟨rfl, rfl⟩
  go_wp2_with fail
  refine (pdq_zero fv _).mono ?_
  rintro e w1 ⟨rfl, rfl⟩
  go_wp2
  go_end0
  exact ⟨rfl, rfl⟩

theorem toList_at (d : Array Lk) (i : Nat) : d.toList[i]! = d[i]! := by cases d; simp

def lkRow (rs : List Lk) (i j : Nat) : Int := if j = 0 then rs[i]!.fn else rs[i]!.line

theorem below_putRowK {B : Nat} {w : World} {blk off n : Nat} {d : Array Lk} (hB : B ≤ blk) : Below B w (putRowK lkEnc 2 (Sort.ahead w n) blk off d) := by
  refine ⟨rfl, rfl, rfl, by simp [putRowK, Sort.ahead], fun b hb => ?_⟩
  unfold putRowK putRow mapBlock
  simp [Sort.ahead, Array.getElem?_modify]
  intro h; omega

theorem below_growK {B : Nat} {w : World} {os : Array Obj} (hB : B ≤ w.heap.size) : Below B w (Sort.grow w os) := by
  refine ⟨rfl, rfl, rfl, by simp [Sort.grow], fun b hb => ?_⟩
  simp [Sort.grow]
  rw [Array.getElem?_append_left (by omega)]

theorem lkHolds {B : Nat} {w : World} {g cap : Nat} {ss : List Lk} (h : w.ownsRow B 83 2 (.slice (some ⟨g, 0, none⟩) ss.length cap) ss.length (lkCells ss)) : HoldsK lkEnc 2 w g 0 ss.toArray := by
  intro j hj
  rw [size_flatK, List.size_toArray] at hj
  rw [get_flatK _ _ _ _ (by rw [List.size_toArray]; exact hj), Nat.zero_add]
  refine owns_cell h j _ ?_
  have hd : j / 2 < ss.length := by omega
  have hall : ∀ (l : List Lk) (i : Nat), i < l.length → (lkCells l)[i * 2]? = some (.int .i64 (l[i]!).fn) ∧ (lkCells l)[i * 2 + 1]? = some (.int .i64 (l[i]!).line) := by
    intro l
    induction l with
    | nil => intro i hi; exact absurd hi (Nat.not_lt_zero _)
    | cons x r ih =>
      intro i hi
      cases i with
      | zero => exact ⟨rfl, rfl⟩
      | succ i =>
        have := ih i (by simpa using hi)
        rw [show lkCells (x :: r) = .int .i64 x.fn :: .int .i64 x.line :: lkCells r from rfl, show (i + 1) * 2 = i * 2 + 1 + 1 by omega]
        simpa only [List.getElem?_cons_succ, List.getElem!_cons_succ] using this
  obtain ⟨h0, h1⟩ := hall ss (j / 2) hd
  have hg : ss.toArray[j / 2]! = ss[j / 2]! := by simp
  rw [hg]
  rcases (show j % 2 = 0 ∨ j % 2 = 1 by omega) with e | e
  · rw [e, show j = j / 2 * 2 by omega]
    rw [show (j / 2 * 2) / 2 = j / 2 by omega]
    exact h0
  · rw [e, show j = j / 2 * 2 + 1 by omega]
    rw [show (j / 2 * 2 + 1) / 2 = j / 2 by omega]
    exact h1

set_option maxRecDepth 100000 in
set_option maxHeartbeats 2000000 in
theorem sortedFunc_any (gf : Nat) (lb : Array Value) (N : Nat) (S Sp : List Lk → Prop) (w w0 : World) (eg : ∀ args w, (callFunc gf args).run Try.prog w = .ok (.enter gf args) w) (hN : N ≤ 1048576) (hb0 : Below w0.heap.size w0 w) (hSN : ∀ ss, S ss → ss.length ≤ N)
    (hseq : SeqStopsK Fence.wide 5 Try.prog gf lb (fun x : Lk => #[lkV x]) KeepsWalks S Sp N w0) :
    Calls Try.prog 66 #[.func (.func gf) #[] lb, .func (.func 68) #[] #[]] w fun e w' => (∃ v rs, e = .returned v ∧ (∃ ss, S ss ∧ rs.Perm ss) ∧ (∀ i j, i < j → j < rs.length → ¬ lkLt rs[j]! rs[i]!) ∧ RowsAt w.heap.size w' v 2 rs.length (lkRow rs)) ∧ Below w.heap.size w w' := by
  have HQ := hide hseq
  have HG := hide eg
  have HB0 := hide hb0
  have HSN := hide hSN
  clear hseq eg hb0 hSN
  go_enter Try.func66, Try.ntmps66
  go_wp2_with fail
  refine (collect_lk gf lb N S Sp _ w0 (unhide HG) hN (unhide HB0) (unhide HQ)).mono ?_
  rintro e w1 ⟨⟨v, ss, rfl, hS, ho, va, vm, vc, rfl⟩, hb1⟩
  have HS := hide hS
  have HB := hide hb1
  have hlen := unhide HSN ss hS
  clear hS hb1
  rcases ho.2 with ⟨e1, e2⟩ | ⟨g, cap, cur, e1, hgB, hgh, -⟩
  · cases e1
    have HN : Hid (ss = []) := hide (List.eq_nil_of_length_eq_zero e2)
    clear ho e2
    go_wp2_with fail
    refine (sortFunc_zero _ _).mono ?_
    rintro e w2 ⟨rfl, rfl⟩
    go_wp2
    go_ret
    refine ⟨⟨_, [], rfl, ⟨ss, unhide HS, by rw [unhide HN]⟩, fun i j _ h => absurd h (Nat.not_lt_zero _), RowsAt.nil _ _ _ _⟩, unhide HB⟩
  · cases e1
    have HH := hide (lkHolds ho)
    have hgl : g < w1.heap.size := (Array.getElem?_eq_some_iff.1 hgh).1
    have HGB := hide hgB
    have hcon := Try.slices_SortFunc_lk lkEnc (fun _ => rfl) (fun x v hv => by simp [lkEnc] at hv; rcases hv with rfl | rfl <;> rfl) lkCmp lkSwo 68 #[] g 0 vc ss.toArray w1 (enters_of Try.func68 (by kernel_rfl) rfl) (lkCmpLays _ _ _ _) (unhide HH) hgl (by simp; omega)
    rw [List.size_toArray] at hcon
    have HC := hide hcon
    clear ho hgh hgB hcon
    go_wp2_with fail
    refine (unhide HC).mono ?_
    rintro e w2 ⟨rfl, d', n1, os, ⟨hp1, -, hp2⟩, hso, hw2⟩
    replace hp1 : d'.size = ss.length := hp1
    have hpm : d'.toList.Perm ss := by
      have e1 : d'.extract 0 ss.length = d' := by rw [← hp1]; simp
      have e2 : ss.toArray.extract 0 ss.length = ss.toArray := by simp
      rw [e1, e2] at hp2
      exact hp2
    have hHK : HoldsK lkEnc 2 w2 g 0 d' := by
      have h0 : Holds id (putRow id (Sort.ahead w1 n1) g 0 (flatK lkEnc 2 d')) g 0 (flatK lkEnc 2 d') := Sort.holds_putRow _ _ _ _ _ _ (show Holds id (Sort.ahead w1 n1) g 0 (flatK lkEnc 2 ss.toArray) from fun j hj => unhide HH j hj) (by rw [size_flatK, size_flatK, hp1]; rfl)
      intro j hj
      obtain ⟨c1, c2⟩ := h0 j hj
      have hb : Below (putRow id (Sort.ahead w1 n1) g 0 (flatK lkEnc 2 d')).heap.size (putRow id (Sort.ahead w1 n1) g 0 (flatK lkEnc 2 d')) w2 := by rw [hw2]; exact below_growK (Nat.le_refl _)
      exact ⟨cell_below hb c1, by rw [hb.frozen (cell_lt c1)]; exact c2⟩
    have HB2 : Hid (Below w.heap.size w w2) := hide (by
      rw [hw2]
      refine ((unhide HB).trans (below_putRowK (unhide HGB))).trans (below_growK ?_)
      have := (unhide HB).size
      simp [putRowK, Sort.ahead]
      omega)
    have HHK := hide hHK
    have HPM := hide hpm
    have HSO := hide hso
    have HLE : Hid (d'.toList.length = ss.length) := hide (by rw [Array.length_toList]; exact hp1)
    clear hw2 hHK hpm hp1 hp2 hso
    go_wp2
    go_ret
    refine ⟨⟨_, d'.toList, rfl, ⟨ss, unhide HS, unhide HPM⟩, fun i j hij hj => ?_, ?_⟩, unhide HB2⟩
    · have := unhide HSO i j (Nat.zero_le _) hij (by rw [← unhide HLE]; exact hj)
      rw [lkCmp_not] at this
      rw [toList_at, toList_at]
      exact this
    · rw [unhide HLE]
      refine ⟨_, _, rfl, fun i hi => ⟨g, rfl, unhide HGB, fun j hj => ?_⟩⟩
      have hz : d'.size = ss.length := by rw [← Array.length_toList]; exact unhide HLE
      obtain ⟨c1, c2⟩ := unhide HHK (i * 2 + j) (by rw [size_flatK, hz]; omega)
      rw [Nat.zero_add] at c1 c2
      refine ⟨?_, c2⟩
      rw [c1, get_flatK _ _ _ _ (by rw [hz]; omega), show (i * 2 + j) / 2 = i by omega, show (i * 2 + j) % 2 = j by omega]
      unfold lkRow
      rw [toList_at]
      rcases (show j = 0 ∨ j = 1 by omega) with rfl | rfl
      · rfl
      · rfl
end Go.Proofs.Ytoiacbdnkkolmab
