import Derived.Test.YtoiacbdnkkolmabGLz
import Derived.Test.YtoiacbdnkkolmabGEez
namespace Go.Proofs.Ytoiacbdnkkolmab
open Go.RowKit

set_option maxRecDepth 100000 in
set_option maxHeartbeats 4000000 in
theorem exactNext_any (lo : Nat) (v1 v2 sv : Value) (nf : Nat) (fns : Nat → ByteArray) (n : Nat) (f : Nat → M) (ns : Nat) (ss : Nat → Sp) (k : Int) (w : World) (h1 : StrsAt lo w v1 nf fns) (h2 : MomsAt lo w v2 n f) (h3 : StopsIn w sv ns ss) (_wk : (Lit.int .i64 k).wf = true) :
    Calls Try.prog 9 #[.agg #[v1, v2], sv, .int .i64 k] w fun e w' => e = .returned (.bool true) ∧ Below w.heap.size w w' := by
  have H1 := hide h1; clear h1
  have H2 := hide h2; clear h2
  have H3 := hide h3
  obtain ⟨a3, cap3, rfl, -, -⟩ := h3
  have T0 : Hid (LawBox w v1 v2 (w.alloc (.cells #[v1, v2] 25))) := hide (Below.refl _ _)
  go_enter Try.func9, Try.ntmps9
  go_wp2_with fail
  refine (szTrace_any lo _ _ nf fns n f _ _ ((unhide H1).below (unhide T0).below) ((unhide H2).below (unhide T0).below) (by omega) (by omega)).mono ?_
  rintro e w1 ⟨⟨r, rfl, hr1, hr2⟩, hb1⟩
  have T1 := hide ((unhide T0).go hb1); clear hb1 T0
  by_cases hr : r < 0
  · clear hr2
    go_wp2
    go_ret
    exact ⟨rfl, (unhide T1).below⟩
  obtain ⟨hnf, hn, hnv⟩ := hr2 (by omega)
  have HNV := hide hnv
  have hnf' : nf ≤ 1048576 := by omega
  have hn' : n ≤ 1048576 := by omega
  clear hr2 hnv hnf hn
  go_wp2_with fail
  refine (szStopS_any _ ns ss _ _ ((unhide H3).below (unhide T1).below) (by omega) (by omega)).mono ?_
  rintro e w1b ⟨⟨rb, rfl, hrb, hrb2⟩, hb1⟩
  have T1b := hide ((unhide T1).go hb1); clear hb1 T1
  by_cases hrb0 : rb < 0
  · go_wp2
    go_ret
    exact ⟨rfl, (unhide T1b).below⟩
  have hns' : ns ≤ 1048576 := by have := hrb2 (by omega); omega
  clear hrb2
  have g0 := (unhide T1b).b0
  have g1 := (unhide T1b).b1
  go_wp2_with fail
  refine (toTrace_any lo _ _ nf fns n f _ ((unhide H1).below (unhide T1b).below) ((unhide H2).below (unhide T1b).below) hnf' hn' (unhide HNV)).mono ?_
  rintro e w2 ⟨⟨s1, s2, rfl, hs1, hs2⟩, hb2⟩
  have T2 := hide ((unhide T1b).go hb2); clear hb2 T1b g0 g1
  have HS1 := hide hs1
  have HS2 := hide hs2
  clear hs1 hs2
  go_wp2_with fail
  refine (toStopS_any _ ns ss _ ((unhide H3).below (unhide T2).below) hns').mono ?_
  rintro e w2b ⟨⟨s3, rfl, hs3⟩, hb2⟩
  have T2b := hide ((unhide T2).go hb2)
  have HS1b := hide ((unhide HS1).below hb2)
  have HS2b := hide ((unhide HS2).below hb2)
  have HS3 := hide hs3
  clear hb2 T2 HS1 HS2
  obtain ⟨as3, cs3, rfl, -, -⟩ := hs3
  go_wp2_with fail
  refine (specNext_any _ _ _ _ nf fns n f ns ss k _ (unhide HS1b) (unhide HS2b) (unhide HS3) hn').mono ?_
  rintro e w3 ⟨hrun, hb3⟩
  have T3 := hide ((unhide T2b).go hb3)
  clear hb3 T2b HS1b HS2b HS3
  obtain ⟨z, hz, hun⟩ : ∃ z, e = .returned (.int .i64 z) ∧ ∀ e', NextSay nf fns n f ns ss k e' → e' = .returned (.int .i64 z) := by
    obtain ⟨z, hz, -⟩ := hrun.uniq hrun
    refine ⟨z, hz, fun e' h => ?_⟩
    obtain ⟨z', h1, h2⟩ := hrun.uniq h
    rw [hz] at h1
    cases h1
    exact h2
  subst hz
  have HUN := hide hun
  clear hun hrun
  have g0 := (unhide T3).b0
  have g1 := (unhide T3).b1
  go_wp2_with fail
  refine (toTrace_any lo _ _ nf fns n f _ ((unhide H1).below (unhide T3).below) ((unhide H2).below (unhide T3).below) hnf' hn' (unhide HNV)).mono ?_
  rintro e w4 ⟨⟨x1, x2, rfl, hx1, hx2⟩, hb4⟩
  have BA := hide (below_alloc w4 (.cells #[x1, x2] 31))
  have T4 := hide (((unhide T3).go hb4).go (unhide BA))
  have HX1 := hide (hx1.below (unhide BA))
  have HX2 := hide (hx2.below (unhide BA))
  obtain ⟨ax1, cx1, rfl, -⟩ := hx1
  obtain ⟨ax2, cx2, rfl, -⟩ := hx2
  have x0 : (w4.alloc (.cells #[.slice ax1 nf cx1, .slice ax2 n cx2] 31)).cell? ⟨w4.heap.size, 0, none⟩ = some (.slice ax1 nf cx1) := by rw [cell_alloc_at _ _ _ _ _ rfl]; rfl
  have x1 : (w4.alloc (.cells #[.slice ax1 nf cx1, .slice ax2 n cx2] 31)).cell? ⟨w4.heap.size, 1, none⟩ = some (.slice ax2 n cx2) := by rw [cell_alloc_at _ _ _ _ _ rfl]; rfl
  have X4 := hide (And.intro x0 x1)
  clear x0 x1 hb4 T3 g0 g1
  go_upto_region 10 with fail
  generalize w4.alloc (.cells #[.slice ax1 nf cx1, .slice ax2 n cx2] 31) = W5 at T4 HX1 HX2 X4 ⊢
  obtain ⟨xb, hxb⟩ : ∃ xb, xb = w4.heap.size := ⟨_, rfl⟩
  rw [← hxb] at X4
  rw [← hxb]
  clear hxb BA
  go_wp2_with fail
  refine (toStopS_any _ ns ss _ ((unhide H3).below (unhide T4).below) hns').mono ?_
  rintro e w6 ⟨⟨s3, rfl, hs3⟩, hb6⟩
  have T6 := hide ((unhide T4).go hb6)
  have x0 := cell_below hb6 (unhide X4).1
  have x1 := cell_below hb6 (unhide X4).2
  have HX1b := hide ((unhide HX1).below hb6)
  have HX2b := hide ((unhide HX2).below hb6)
  have HX3 := hide hs3
  clear hb6 T4 X4 HX1 HX2
  obtain ⟨as3', cs3', rfl, -, -⟩ := hs3
  go_wp2_with fail
  refine (implNext_any _ _ _ _ nf fns n f ns ss k _ (unhide HX1b) (unhide HX2b) (unhide HX3) hn').mono ?_
  rintro e w7 ⟨hrun, hb7⟩
  have ez := unhide HUN _ hrun
  subst ez
  have T7 := hide ((unhide T6).go hb7)
  have z0 := cell_below hb7 x0
  have z1 := cell_below hb7 x1
  have HZ1 := hide ((unhide HX1b).below hb7)
  have HZ2 := hide ((unhide HX2b).below hb7)
  have HZ3 := hide ((unhide HX3).below hb7)
  clear hb7 hrun HUN T6 HX1b HX2b HX3 x0 x1
  have g0 := (unhide T7).b0
  have g1 := (unhide T7).b1
  have BD := hide ((Below.refl w7.heap.size w7).drew)
  go_wp2_with fail
  go_region_held3 (fun w' => w'.cell? ⟨xb, 0, none⟩ = some (.slice ax1 nf cx1) ∧ w'.cell? ⟨xb, 1, none⟩ = some (.slice ax2 n cx2) ∧ w'.cell? ⟨w.heap.size, 0, none⟩ = some v1 ∧ w'.cell? ⟨w.heap.size, 1, none⟩ = some v2)
    (first | (exact ⟨z0, z1, g0, g1⟩) | (exact ⟨cell_below hbC z0, cell_below hbC z1, cell_below hbC g0, cell_below hbC g1⟩) | (exact ⟨cell_below hbD (cell_below hbC z0), cell_below hbD (cell_below hbC z1), cell_below hbD (cell_below hbC g0), cell_below hbD (cell_below hbC g1)⟩))
    ((first | (go_at_call 17; refine (toTrace_any lo _ _ nf fns n f _ ((unhide H1).below (by exact ((unhide T7).go (unhide BD)).below)) ((unhide H2).below (by exact ((unhide T7).go (unhide BD)).below)) hnf' hn' (unhide HNV)).mono ?_; rintro e wC ⟨⟨y1, y2, rfl, hy1, hy2⟩, hbC⟩) | (go_at_call 20; refine (eqTrace_any _ _ _ _ _ _ nf fns n f _ (((unhide HZ1).below (unhide BD)).below hbC) (((unhide HZ2).below (unhide BD)).below hbC) hy1 hy2).mono ?_; rintro e wD ⟨rfl, hbD⟩)))
  have T8 := hide ((((unhide T7).go (unhide BD)).go hbC).go hbD)
  have HZ3b := hide ((((unhide HZ3).below (unhide BD)).below hbC).below hbD)
  clear hbC hbD hy1 hy2 T7 HZ1 HZ2 HZ3 BD z0 z1 g0 g1
  go_wp2_with fail
  refine (toStopS_any _ ns ss _ ((unhide H3).below (unhide T8).below) hns').mono ?_
  rintro e w9 ⟨⟨s4, rfl, hs4⟩, hb9⟩
  have T9 := hide ((unhide T8).go hb9)
  have HZ3c := hide ((unhide HZ3b).below hb9)
  have HS4 := hide hs4
  obtain ⟨as4, cs4, rfl, -, -⟩ := hs4
  clear hb9 T8 HZ3b
  go_wp2_with fail
  refine (eqStopS_any _ _ ns ss _ (unhide HZ3c) (unhide HS4)).mono ?_
  rintro e w10 ⟨rfl, hb10⟩
  have T10 := hide ((unhide T9).go hb10)
  clear hb10 T9
  go_wp2
  go_ret
  exact ⟨rfl, (unhide T10).below⟩
end Go.Proofs.Ytoiacbdnkkolmab
