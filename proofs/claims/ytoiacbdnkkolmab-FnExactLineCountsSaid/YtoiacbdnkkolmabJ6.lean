/-
  cmp.Compare, cmp.Or, compareLines; slices.SortedFunc of the keys of LineCounts.
-/
import Derived.Test.YtoiacbdnkkolmabJ5
import Derived.Test.YtoiacbdnkkolmabShelfQ
import Derived.Test.YtoiacbdnkkolmabS6
import Derived.Deep.LoopGhost
import Derived.Deep.RegionHeld3
namespace Go.Proofs.Ytoiacbdnkkolmab
open Go.RowKit Go.Shelf Go.Maps Go.Sort

attribute [local go_sem ↓] Go.wp_at_zero Go.wp_at_succ

def cmpI (x y : Int) : Int := if x < y then -1 else if y < x then 1 else 0

def lkCmp (x y : Lk) : Int := if cmpI x.fn y.fn = 0 then cmpI x.line y.line else cmpI x.fn y.fn

def orI (x y : Int) : Int := if x = 0 then y else x

theorem isNaN_any (x : Int) (w : World) : Calls Try.prog 140 #[.int .i64 x] w fun e w' => e = .returned (.bool false) ∧ w' = w := by
  go_enter Try.func140, Try.ntmps140
  go_wp2
  go_ret
  exact ⟨by simp, rfl⟩

set_option maxHeartbeats 1000000 in
theorem compare_any (x y : Int) (w : World) : Calls Try.prog 111 #[.int .i64 x, .int .i64 y] w fun e w' => e = .returned (.int .i64 (cmpI x y)) ∧ w' = w := by
  go_enter Try.func111, Try.ntmps111
  go_wp2_with fail
  refine (isNaN_any x _).mono ?_
  rintro e w1 ⟨rfl, rfl⟩
  go_wp2_with fail
  refine (isNaN_any y _).mono ?_
  rintro e w2 ⟨rfl, rfl⟩
  by_cases h1 : x < y
  · have HE : Hid (cmpI x y = -1) := hide (by unfold cmpI; rw [if_pos h1])
    go_wp2
    go_ret
    exact ⟨by rw [unhide HE]; rfl, rfl⟩
  · by_cases h2 : y < x
    · have HE : Hid (cmpI x y = 1) := hide (by unfold cmpI; rw [if_neg h1, if_pos h2])
      go_wp2
      go_ret
      exact ⟨by rw [unhide HE]; rfl, rfl⟩
    · have HE : Hid (cmpI x y = 0) := hide (by unfold cmpI; rw [if_neg h1, if_neg h2])
      go_wp2
      go_ret
      exact ⟨by rw [unhide HE]; rfl, rfl⟩

set_option maxHeartbeats 1000000 in
theorem or_any (x y : Int) (b : Nat) (t : TypeId) (w : World) (h : w.heap[b]? = some (.cells #[.int .i64 x, .int .i64 y] t (0, 0))) :
    Calls Try.prog 110 #[.slice (some ⟨b, 0, none⟩) 2 2] w fun e w' => e = .returned (.int .i64 (orI x y)) ∧ w' = w := by
  have c0 : w.cell? ⟨b, 0, none⟩ = some (.int .i64 x) := by rw [cell_of_row w _ 0 _ _ _ h]; rfl
  have c1 : w.cell? ⟨b, 1, none⟩ = some (.int .i64 y) := by rw [cell_of_row w _ 1 _ _ _ h]; rfl
  clear h
  go_enter Try.func110, Try.ntmps110
  go_wp2_with fail
  go_loopg [5, 8] 2 (fun gg _ i W => ∃ q : Nat, q + gg = 2 ∧ i = .int .i64 q ∧ W = w ∧ Hid (1 ≤ q → x = 0) ∧ Hid (2 ≤ q → y = 0))
  case atStart => exact ⟨0, by omega, rfl, rfl, hide (by omega), hide (by omega)⟩
  case round =>
    obtain ⟨q, hq, rfl, rfl, H1, H2⟩ := hrel
    rcases (show q = 0 ∨ q = 1 ∨ q = 2 by omega) with rfl | rfl | rfl
    · by_cases hx : x = 0
      · have hb : (x != 0) = false := by simpa using hx
        have HX := hide hx
        clear hx
        go_wp2
        go_roundg 1
        case measure => omega
        case rel => exact ⟨1, by omega, by go_num, rfl, hide (fun _ => unhide HX), hide (by omega)⟩
      · have hb : (x != 0) = true := by simpa using hx
        have HE : Hid (orI x y = x) := hide (by unfold orI; rw [if_neg hx])
        clear hx
        go_wp2
        go_ret
        exact ⟨by rw [unhide HE]; rfl, rfl⟩
    · have HE : Hid (orI x y = y) := hide (by unfold orI; rw [if_pos (unhide H1 (by omega))])
      by_cases hy : y = 0
      · have hb : (y != 0) = false := by simpa using hy
        have HY := hide hy
        clear hy
        go_wp2
        go_roundg 0
        case measure => omega
        case rel => exact ⟨2, by omega, by go_num, rfl, hide (fun _ => unhide H1 (by omega)), hide (fun _ => unhide HY)⟩
      · have hb : (y != 0) = true := by simpa using hy
        clear hy
        go_wp2
        go_ret
        exact ⟨by rw [unhide HE]; rfl, rfl⟩
    · have HE : Hid (orI x y = 0) := hide (by unfold orI; rw [if_pos (unhide H1 (by omega)), unhide H2 (by omega)])
      go_wp2
      go_ret
      exact ⟨by rw [unhide HE]; rfl, rfl⟩

/-- The two boxes of compareLines. -/
abbrev lkBox (x : Lk) : Obj := .cells #[.int .i64 x.fn, .int .i64 x.line] 83

set_option maxRecDepth 100000 in
set_option maxHeartbeats 2000000 in
theorem compareLines_any (x y : Lk) (w : World) : Calls Try.prog 68 #[.agg #[.int .i64 x.fn, .int .i64 x.line], .agg #[.int .i64 y.fn, .int .i64 y.line]] w fun e w' => e = .returned (.int .i64 (lkCmp x y)) ∧ ∃ q os', w' = grow (w.drewN q) os' := by
  go_enter Try.func68, Try.ntmps68
  go_upto_region 1 with fail
  have a0 : ((w.alloc (lkBox x)).alloc (lkBox y)).heap[w.heap.size]? = some (lkBox x) := by rw [Below.heap_alloc _ _ _ (by simp)]; exact heap_alloc_new w _
  have a1 : ((w.alloc (lkBox x)).alloc (lkBox y)).heap[w.heap.size + 1]? = some (lkBox y) := by have := heap_alloc_new (w.alloc (lkBox x)) (lkBox y); rw [World.size_alloc] at this; exact this
  obtain ⟨W, hW⟩ : ∃ W, W = (w.alloc (lkBox x)).alloc (lkBox y) := ⟨_, rfl⟩
  rw [← hW] at a0 a1 ⊢
  have HW := hide hW
  have hsz : W.heap.size = w.heap.size + 2 := by rw [hW]; simp
  have x0 : W.cell? ⟨w.heap.size, 0, none⟩ = some (.int .i64 x.fn) := by rw [cell_of_row W _ 0 _ _ _ a0]; rfl
  have x1 : W.cell? ⟨w.heap.size, 1, none⟩ = some (.int .i64 x.line) := by rw [cell_of_row W _ 1 _ _ _ a0]; rfl
  have y0 : W.cell? ⟨w.heap.size + 1, 0, none⟩ = some (.int .i64 y.fn) := by rw [cell_of_row W _ 0 _ _ _ a1]; rfl
  have y1 : W.cell? ⟨w.heap.size + 1, 1, none⟩ = some (.int .i64 y.line) := by rw [cell_of_row W _ 1 _ _ _ a1]; rfl
  clear hW a0 a1
  refine wp_region_held_drew (S := fun w' => w'.cell? ⟨w.heap.size, 0, none⟩ = some (.int .i64 x.fn) ∧ w'.cell? ⟨w.heap.size, 1, none⟩ = some (.int .i64 x.line) ∧ w'.cell? ⟨w.heap.size + 1, 0, none⟩ = some (.int .i64 y.fn) ∧ w'.cell? ⟨w.heap.size + 1, 1, none⟩ = some (.int .i64 y.line)) (by kernel_rfl) ⟨x0, x1, y0, y1⟩ (fun hHeld => ?_)
  refine takeAt 0 (some 5) (v := ?v0c) (by decide) rfl (by kernel_rfl) (by kernel_rfl) (by kernel_rfl) (fun _ _ _ h => h) (by rfl) ?hy0c (by assumption) ?r0c
  case hy0c => (intro wx hSw; go_simp; with_reducible rfl)
  simp only [Act.put, List.setIfInBounds_toArray, List.set_cons_zero, List.set_cons_succ]
  refine takeAt 1 (some 6) (v := ?v1c) (by decide) rfl (by kernel_rfl) (by kernel_rfl) (by kernel_rfl) (fun _ _ _ h => h) (by rfl) ?hy1c (by assumption) ?r1c
  case hy1c => (intro wx hSw; go_simp; with_reducible rfl)
  simp only [Act.put, List.setIfInBounds_toArray, List.set_cons_zero, List.set_cons_succ]
  refine takeAt 2 (some 7) (v := ?v2c) (by decide) rfl (by kernel_rfl) (by kernel_rfl) (by kernel_rfl) (fun _ _ _ h => h) (by rfl) ?hy2c (by assumption) ?r2c
  case hy2c => (intro wx hSw; go_simp; with_reducible rfl)
  simp only [Act.put, List.setIfInBounds_toArray, List.set_cons_zero, List.set_cons_succ]
  refine takeAt 3 (some 8) (v := ?v3c) (by decide) rfl (by kernel_rfl) (by kernel_rfl) (by kernel_rfl) (fun _ _ _ h => h) (by rfl) ?hy3c (by assumption) ?r3c
  case hy3c => (intro wx hSw; go_simp; with_reducible rfl)
  simp only [Act.put, List.setIfInBounds_toArray, List.set_cons_zero, List.set_cons_succ]
  refine takeAt 5 (some 10) (v := ?v5c) (by decide) rfl (by kernel_rfl) (by kernel_rfl) (by kernel_rfl) (fun _ _ _ h => h) (by rfl) ?hy5c (by assumption) ?r5c
  case hy5c => (intro wx hSw; go_simp; with_reducible rfl)
  simp only [Act.put, List.setIfInBounds_toArray, List.set_cons_zero, List.set_cons_succ]
  refine takeAt 6 (some 11) (v := ?v6c) (by decide) rfl (by kernel_rfl) (by kernel_rfl) (by kernel_rfl) (fun _ _ _ h => h) (by rfl) ?hy6c (by assumption) ?r6c
  case hy6c => (intro wx hSw; go_simp; with_reducible rfl)
  simp only [Act.put, List.setIfInBounds_toArray, List.set_cons_zero, List.set_cons_succ]
  refine takeAt 7 (some 12) (v := ?v7c) (by decide) rfl (by kernel_rfl) (by kernel_rfl) (by kernel_rfl) (fun _ _ _ h => h) (by rfl) ?hy7c (by assumption) ?r7c
  case hy7c => (intro wx hSw; go_simp; with_reducible rfl)
  simp only [Act.put, List.setIfInBounds_toArray, List.set_cons_zero, List.set_cons_succ]
  refine takeAt 8 (some 13) (v := ?v8c) (by decide) rfl (by kernel_rfl) (by kernel_rfl) (by kernel_rfl) (fun _ _ _ h => h) (by rfl) ?hy8c (by assumption) ?r8c
  case hy8c => (intro wx hSw; go_simp; with_reducible rfl)
  simp only [Act.put, List.setIfInBounds_toArray, List.set_cons_zero, List.set_cons_succ]
  refine wpAnyH_ready (rs := [4]) (by kernel_rfl) (by simp) ?_
  refine AllReadyH.cons rfl (fun K hK => ?_) AllReadyH.nil
  go_simp
  refine (compare_any x.fn y.fn _).mono ?_
  rintro e wa ⟨rfl, rfl⟩
  refine hK.out _ _ ⟨x0, x1, y0, y1⟩ (fun hHeld => ?_)
  clear hK K
  try simp only [Act.put, List.setIfInBounds_toArray, List.getElem_toArray, List.getElem_cons_succ, List.getElem_cons_zero, List.set_cons_zero, List.set_cons_succ]
  refine wpAnyH_ready (rs := [9]) (by kernel_rfl) (by simp) ?_
  refine AllReadyH.cons rfl (fun K hK => ?_) AllReadyH.nil
  go_simp
  refine (compare_any x.line y.line _).mono ?_
  rintro e wa ⟨rfl, rfl⟩
  refine hK.out _ _ ⟨x0, x1, y0, y1⟩ (fun hHeld => ?_)
  clear hK K
  try simp only [Act.put, List.setIfInBounds_toArray, List.getElem_toArray, List.getElem_cons_succ, List.getElem_cons_zero, List.set_cons_zero, List.set_cons_succ]
  refine wpAnyH_ready (rs := [10]) (by kernel_rfl) (by simp) ?_
  refine AllReadyH.cons rfl (fun K hK => ?_) AllReadyH.nil
  go_simp
  have HV : Hid (Below W.heap.size W (W.alloc (.cells #[.int .i64 (cmpI x.fn y.fn), .int .i64 (cmpI x.line y.line)] 3)).drew) := hide (below_new W _).drew
  have hvb : (W.alloc (.cells #[.int .i64 (cmpI x.fn y.fn), .int .i64 (cmpI x.line y.line)] 3)).drew.heap[w.heap.size + 2]? = some (.cells #[.int .i64 (cmpI x.fn y.fn), .int .i64 (cmpI x.line y.line)] 3 (0, 0)) := by
    rw [← hsz]; exact heap_alloc_new W _
  refine hK.out _ _ ⟨cell_below (unhide HV) x0, cell_below (unhide HV) x1, cell_below (unhide HV) y0, cell_below (unhide HV) y1⟩ (fun hHeld => ?_)
  clear hK K
  try simp only [Act.put, List.setIfInBounds_toArray, List.getElem_toArray, List.getElem_cons_succ, List.getElem_cons_zero, List.set_cons_zero, List.set_cons_succ]
  refine wpAnyH_ready (rs := [11]) (by kernel_rfl) (by simp) ?_
  refine AllReadyH.cons rfl (fun K hK => ?_) AllReadyH.nil
  go_simp
  refine (or_any _ _ _ _ _ hvb).mono ?_
  rintro e wa ⟨rfl, rfl⟩
  refine hK.out _ _ ⟨cell_below (unhide HV) x0, cell_below (unhide HV) x1, cell_below (unhide HV) y0, cell_below (unhide HV) y1⟩ (fun hHeld => ?_)
  clear hK K
  try simp only [Act.put, List.setIfInBounds_toArray, List.getElem_toArray, List.getElem_cons_succ, List.getElem_cons_zero, List.set_cons_zero, List.set_cons_succ]
  refine takeAt 12 (some 4) (v := ?v12c) (by decide) rfl (by kernel_rfl) (by kernel_rfl) (by kernel_rfl) (fun _ _ _ h => h) (by rfl) ?hy12c (by assumption) ?r12c
  case hy12c => (intro wx hSw; go_simp; with_reducible rfl)
  simp only [Act.put, List.setIfInBounds_toArray, List.set_cons_zero, List.set_cons_succ]
  refine wpAnyH_done (by kernel_rfl) ?_ _
  go_wp2
  go_ret
  refine ⟨rfl, 1, #[lkBox x, lkBox y, .cells #[.int .i64 (cmpI x.fn y.fn), .int .i64 (cmpI x.line y.line)] 3], ?_⟩
  rw [unhide HW, alloc_eq_grow, alloc_eq_grow, alloc_eq_grow, grow_grow, grow_grow, drew_grow]
  rfl

theorem cmpI_lt (x y : Int) : cmpI x y < 0 ↔ x < y := by unfold cmpI; split <;> (try split) <;> omega
theorem cmpI_zero (x y : Int) : cmpI x y = 0 ↔ x = y := by unfold cmpI; split <;> (try split) <;> omega

def lkLt (x y : Lk) : Prop := x.fn < y.fn ∨ (x.fn = y.fn ∧ x.line < y.line)

theorem lkCmp_lt (x y : Lk) : ltOf lkCmp x y = true ↔ lkLt x y := by
  unfold ltOf lkCmp lkLt
  rw [decide_eq_true_iff]
  have h1 := cmpI_lt x.fn y.fn
  have h2 := cmpI_lt x.line y.line
  have h3 := cmpI_zero x.fn y.fn
  split <;> omega

theorem lkCmp_not (x y : Lk) : ltOf lkCmp x y = false ↔ ¬ lkLt x y := by
  rw [← lkCmp_lt]; simp

theorem lkSwo : SWO (ltOf lkCmp) where
  irrefl x := by rw [lkCmp_not]; unfold lkLt; omega
  trans x y z h1 h2 := by rw [lkCmp_lt] at *; unfold lkLt at *; omega
  ntrans x y z h1 h2 := by rw [lkCmp_not] at *; unfold lkLt at *; omega

def lkEnc (x : Lk) : List Value := [.int .i64 x.fn, .int .i64 x.line]

theorem lkCmpLays (blk off size : Nat) (w : World) : CmpLays Try.prog 68 #[] lkEnc 2 lkCmp blk off size w :=
  fun _ _ _ _ x y => compareLines_any x y _
end Go.Proofs.Ytoiacbdnkkolmab
