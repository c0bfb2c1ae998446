import Derived.Test.YtmnmeaeicjhkhaaGreatDoorGLz
import Derived.Test.YtmnmeaeicjhkhaaGreatDoorA4z
import Derived.Test.YtmnmeaeicjhkhaaGreatDoorU7z
namespace Go.Proofs.YtmnmeaeicjhkhaaGreatDoor
open Go.RowKit

set_option maxRecDepth 100000 in
set_option maxHeartbeats 2000000 in
theorem exactReport_any (lo : Nat) (v1 v2 : Value) (nf : Nat) (fns : Nat → ByteArray) (n : Nat) (f : Nat → M) (w : World) (h1 : StrsAt lo w v1 nf fns) (h2 : MomsAt lo w v2 n f) (htab : Tab w) :
    Calls Tryz.prog 7 #[.agg #[v1, v2]] w fun e w' => e = .returned (.bool true) ∧ Below w.heap.size w w' := by
  have HTAB := hide htab; clear htab
  have H1 := hide h1; clear h1
  have H2 := hide h2; clear h2
  have T0 : Hid (LawBox w v1 v2 (w.alloc (.cells #[v1, v2] 59))) := hide (Below.refl _ _)
  go_enter Tryz.func7, Tryz.ntmps7
  go_wp2_with fail
  refine (szTrace_any lo _ _ nf fns n f _ _ ((unhide H1).below (unhide T0).below) ((unhide H2).below (unhide T0).below) (by omega) (by omega)).mono ?_
  rintro e w1 ⟨⟨r, rfl, hr1, hr2⟩, hb1⟩
  have T1 := hide ((unhide T0).go hb1); clear hb1 T0
  by_cases hr : r < 0
  · clear hr2
    go_wp2
    go_ret
    exact ⟨rfl, (unhide T1).below⟩
  obtain ⟨hnf, hn, hnv⟩ := hr2 (by omega)
  have HNV := hide hnv
  have hnf' : nf ≤ 1048576 := by omega
  have hn' : n ≤ 1048576 := by omega
  clear hr2 hnv hnf hn
  have g0 := (unhide T1).b0
  have g1 := (unhide T1).b1
  go_wp2_with fail
  refine (toTrace_any lo _ _ nf fns n f _ ((unhide H1).below (unhide T1).below) ((unhide H2).below (unhide T1).below) hnf' hn' (unhide HNV)).mono ?_
  rintro e w2 ⟨⟨s1, s2, rfl, hs1, hs2⟩, hb2⟩
  have T2 := hide ((unhide T1).go hb2); clear hb2 T1 g0 g1
  have HS1 := hide hs1
  have HS2 := hide hs2
  clear hs1 hs2
  go_wp2_with fail
  refine (specReport_any _ _ _ nf fns n f _ (unhide HS1) (unhide HS2)).mono ?_
  rintro e w3 ⟨⟨s, rfl, hrun⟩, hb3⟩
  have T3 := hide ((unhide T2).go hb3)
  clear hb3 T2 HS1 HS2
  have HUN := hide hrun
  clear hrun
  have g0 := (unhide T3).b0
  have g1 := (unhide T3).b1
  go_wp2_with fail
  refine (toTrace_any lo _ _ nf fns n f _ ((unhide H1).below (unhide T3).below) ((unhide H2).below (unhide T3).below) hnf' hn' (unhide HNV)).mono ?_
  rintro e w4 ⟨⟨x1, x2, rfl, hx1, hx2⟩, hb4⟩
  have BA := hide (below_alloc w4 (.cells #[x1, x2] 26))
  have T4 := hide (((unhide T3).go hb4).go (unhide BA))
  have HX1 := hide (hx1.below (unhide BA))
  have HX2 := hide (hx2.below (unhide BA))
  obtain ⟨ax1, cx1, rfl, -⟩ := hx1
  obtain ⟨ax2, cx2, rfl, -⟩ := hx2
  have x0 : (w4.alloc (.cells #[.slice ax1 nf cx1, .slice ax2 n cx2] 26)).cell? ⟨w4.heap.size, 0, none⟩ = some (.slice ax1 nf cx1) := by rw [cell_alloc_at _ _ _ _ _ rfl]; rfl
  have x1 : (w4.alloc (.cells #[.slice ax1 nf cx1, .slice ax2 n cx2] 26)).cell? ⟨w4.heap.size, 1, none⟩ = some (.slice ax2 n cx2) := by rw [cell_alloc_at _ _ _ _ _ rfl]; rfl
  have X4 := hide (And.intro x0 x1)
  clear x0 x1 hb4 T3 g0 g1
  go_wp2_with fail
  refine (implReport_any _ _ _ nf fns n f _ (unhide HX1) (unhide HX2) (tab_go (unhide HTAB) (unhide T4).below)).mono ?_
  rintro e w6 ⟨⟨s', rfl, hrun⟩, hb6⟩
  obtain rfl := hrun.unique (unhide HUN)
  have T6 := hide ((unhide T4).go hb6)
  have x0 := cell_below hb6 (unhide X4).1
  have x1 := cell_below hb6 (unhide X4).2
  have HZ1 := hide ((unhide HX1).below hb6)
  have HZ2 := hide ((unhide HX2).below hb6)
  clear hb6 hrun HUN T4 X4 HX1 HX2
  have g0 := (unhide T6).b0
  have g1 := (unhide T6).b1
  have BD := hide ((Below.refl w6.heap.size w6).drew)
  have hss : (s'.toList == s'.toList) = true := by simp
  go_wp2_with fail
  go_region_held3 (fun w' => w'.cell? ⟨w4.heap.size, 0, none⟩ = some (.slice ax1 nf cx1) ∧ w'.cell? ⟨w4.heap.size, 1, none⟩ = some (.slice ax2 n cx2) ∧ w'.cell? ⟨w.heap.size, 0, none⟩ = some v1 ∧ w'.cell? ⟨w.heap.size, 1, none⟩ = some v2)
    (first | (exact ⟨x0, x1, g0, g1⟩) | (exact ⟨cell_below hbA x0, cell_below hbA x1, cell_below hbA g0, cell_below hbA g1⟩) | (exact ⟨cell_below hbB (cell_below hbA x0), cell_below hbB (cell_below hbA x1), cell_below hbB (cell_below hbA g0), cell_below hbB (cell_below hbA g1)⟩))
    ((first | (go_at_call 25; refine (toTrace_any lo _ _ nf fns n f _ ((unhide H1).below (by exact ((unhide T6).go (unhide BD)).below)) ((unhide H2).below (by exact ((unhide T6).go (unhide BD)).below)) hnf' hn' (unhide HNV)).mono ?_; rintro e wA ⟨⟨y1, y2, rfl, hy1, hy2⟩, hbA⟩) | (go_at_call 28; refine (eqTrace_any _ _ _ _ _ _ nf fns n f _ (((unhide HZ1).below (unhide BD)).below hbA) (((unhide HZ2).below (unhide BD)).below hbA) hy1 hy2).mono ?_; rintro e wB ⟨rfl, hbB⟩)))
  go_wp2
  go_ret
  exact ⟨rfl, ((((unhide T6).go (unhide BD)).go hbA).go hbB).below⟩
end Go.Proofs.YtmnmeaeicjhkhaaGreatDoor
