import Derived.Test.YtoiacbdnkkolmabT6
import Derived.Test.YtoiacbdnkkolmabC2
import Derived.Test.YtoiacbdnkkolmabJ8
import Derived.Test.YtoiacbdnkkolmabJ2
namespace Go.Proofs.Ytoiacbdnkkolmab
open Go.RowKit

theorem LawBox.on {w w' w'' : World} {v1 v2 : Value} {B : Nat} (h : LawBox w v1 v2 w') (hb : Below B w' w'') (hB : w.heap.size + 1 ≤ B) : LawBox w v1 v2 w'' := Below.trans h (hb.mono hB)

theorem RowsAt.betw {lo hi B : Nat} {w w' : World} {v : Value} {z n : Nat} {F : Nat → Nat → Int} (h : RowsAt B w v z n F) (hb : Betw lo hi w w') (hB : hi ≤ B) : RowsAt B w' v z n F := by
  obtain ⟨a, cap, hv, h⟩ := h
  refine ⟨a, cap, hv, fun i hi => ?_⟩
  obtain ⟨b, ha, h1, hc⟩ := h i hi
  refine ⟨b, ha, h1, fun j hj => ?_⟩
  have hk := hb.block b (cell_lt (hc j hj).1) (.inr (by omega))
  rw [World.cell?_of_block hk, World.frozen?_of_block hk]
  exact hc j hj

set_option maxRecDepth 100000 in
set_option maxHeartbeats 4000000 in
theorem exactLineCounts_any (lo : Nat) (v1 v2 : Value) (nf : Nat) (fns : Nat → ByteArray) (n : Nat) (f : Nat → M) (w : World) (h1 : StrsAt lo w v1 nf fns) (h2 : MomsAt lo w v2 n f) :
    Calls Try.prog 3 #[.agg #[v1, v2]] w fun e w' => e = .returned (.bool true) ∧ Below w.heap.size w w' := by
  have H1 := hide h1; clear h1
  have H2 := hide h2; clear h2
  have T0 : Hid (LawBox w v1 v2 (w.alloc (.cells #[v1, v2] 25))) := hide (Below.refl _ _)
  go_enter Try.func3, Try.ntmps3
  go_wp2_with fail
  refine (szTrace_any lo _ _ nf fns n f _ _ ((unhide H1).below (unhide T0).below) ((unhide H2).below (unhide T0).below) (by omega) (by omega)).mono ?_
  rintro e w1 ⟨⟨r, rfl, hr1, hr2⟩, hb1⟩
  have T1 := hide ((unhide T0).go hb1); clear hb1 T0
  by_cases hr : r < 0
  · clear hr2
    go_wp2
    go_ret
    exact ⟨rfl, (unhide T1).below⟩
  obtain ⟨hnf, hn, hnv⟩ := hr2 (by omega)
  have HNV := hide hnv
  have hnf' : nf ≤ 1048576 := by omega
  have hn' : n ≤ 1048576 := by omega
  clear hr2 hnv hnf hn
  have g0 := (unhide T1).b0
  have g1 := (unhide T1).b1
  go_wp2_with fail
  refine (toTrace_any lo _ _ nf fns n f _ ((unhide H1).below (unhide T1).below) ((unhide H2).below (unhide T1).below) hnf' hn' (unhide HNV)).mono ?_
  rintro e w2 ⟨⟨s1, s2, rfl, hs1, hs2⟩, hb2⟩
  have T2 := hide ((unhide T1).go hb2); clear hb2 T1 g0 g1
  have HS1 := hide hs1
  have HS2 := hide hs2
  clear hs1 hs2
  go_wp2_with fail
  refine (specLineCounts_any _ _ _ nf fns n f _ (unhide HS1) (unhide HS2)).mono ?_
  rintro e w3 ⟨⟨vw, nw, FW, rfl, hst, hfw⟩, hb3⟩
  have T3 := hide ((unhide T2).go hb3)
  have HST := hide hst
  have HFW := hide hfw
  obtain ⟨wa, wc, rfl⟩ := hfw.shape
  have hnw : nw ≤ 1048576 := hst.bound hnf' hn'
  clear hst hfw hb3 T2 HS1 HS2
  have g0 := (unhide T3).b0
  have g1 := (unhide T3).b1
  have HL3 := hide (unhide T3).size
  go_wp2_with fail
  refine (toTrace_any lo _ _ nf fns n f _ ((unhide H1).below (unhide T3).below) ((unhide H2).below (unhide T3).below) hnf' hn' (unhide HNV)).mono ?_
  rintro e w4 ⟨⟨x1, x2, rfl, hx1, hx2⟩, hb4⟩
  have HK1 := hide (hx1.marks (by have := unhide HL3; omega))
  have HK2 := hide (hx2.marks (by have := unhide HL3; omega) (unhide HNV))
  have BA := hide (below_alloc w4 (.cells #[x1, x2] 31))
  have T4 := hide (((unhide T3).go hb4).go (unhide BA))
  have C4 := hide (hb4.trans ((unhide BA).mono hb4.size))
  have HX1 := hide (hx1.below (unhide BA))
  have HX2 := hide (hx2.below (unhide BA))
  obtain ⟨ax1, cx1, rfl, -⟩ := hx1
  obtain ⟨ax2, cx2, rfl, -⟩ := hx2
  have x0 : (w4.alloc (.cells #[.slice ax1 nf cx1, .slice ax2 n cx2] 31)).cell? ⟨w4.heap.size, 0, none⟩ = some (.slice ax1 nf cx1) := by rw [cell_alloc_at _ _ _ _ _ rfl]; rfl
  have x1 : (w4.alloc (.cells #[.slice ax1 nf cx1, .slice ax2 n cx2] 31)).cell? ⟨w4.heap.size, 1, none⟩ = some (.slice ax2 n cx2) := by rw [cell_alloc_at _ _ _ _ _ rfl]; rfl
  have X4 := hide (And.intro x0 x1)
  have HL4 := hide hb4.size
  clear x0 x1 hb4 T3 g0 g1
  go_wp2_with fail
  refine (implLineCounts_any _ _ _ nf fns n f _ (unhide HX1) (unhide HX2)).mono ?_
  rintro e w6 ⟨⟨vg, ng, FG, rfl, hst, hfg0⟩, hb6⟩
  obtain ⟨el, ef⟩ := hst.unique (unhide HST)
  subst el
  have hfg := hfg0.congr ef
  have HFG := hide hfg
  obtain ⟨ga, gc, rfl⟩ := hfg.shape
  have T6 := hide ((unhide T4).go hb6)
  have C6 := hide ((unhide C4).trans (hb6.mono (by have := unhide HL4; simp; omega)))
  have D6 := hide ((unhide BA).trans (hb6.mono (by simp)))
  have X6 := hide (And.intro (cell_below hb6 (unhide X4).1) (cell_below hb6 (unhide X4).2))
  have HZ1 := hide ((unhide HX1).below hb6)
  have HZ2 := hide ((unhide HX2).below hb6)
  have HL6 := hide hb6.size
  clear hb6 hst hfg hfg0 ef T4 X4 HX1 HX2 C4 BA
  go_wp2_with fail
  refine (eqLineCountS_any _ _ _ _ _ _ _ (unhide HFG) ((unhide HFW).below (unhide C6)) hnw).mono ?_
  rintro e w7 ⟨rfl, hb7⟩
  have T7 := hide ((unhide T6).go hb7)
  have hz3 : w3.heap.size ≤ w6.heap.size := (unhide C6).size
  have hz4 : w4.heap.size ≤ w6.heap.size := (unhide D6).size
  have C7 := hide ((unhide C6).trans (hb7.mono hz3))
  have D7 := hide ((unhide D6).trans (hb7.mono hz4))
  have x0 := cell_below hb7 (unhide X6).1
  have x1 := cell_below hb7 (unhide X6).2
  have HY1 := hide ((unhide HZ1).below hb7)
  have HY2 := hide ((unhide HZ2).below hb7)
  have G7 := hide ((unhide HFG).below hb7)
  have g0 := (unhide T7).b0
  have g1 := (unhide T7).b1
  have BD := hide ((Below.refl w7.heap.size w7).drew)
  have hz7 : w6.heap.size ≤ w7.heap.size := hb7.size
  clear hb7 T6 C6 D6 X6 HZ1 HZ2 HFG
  go_wp2_with fail
  go_region_held3 (fun w' => w'.cell? ⟨w4.heap.size, 0, none⟩ = some (.slice ax1 nf cx1) ∧ w'.cell? ⟨w4.heap.size, 1, none⟩ = some (.slice ax2 n cx2) ∧ w'.cell? ⟨w.heap.size, 0, none⟩ = some v1 ∧ w'.cell? ⟨w.heap.size, 1, none⟩ = some v2)
    (first | (exact ⟨x0, x1, g0, g1⟩) | (exact ⟨cell_below hbA x0, cell_below hbA x1, cell_below hbA g0, cell_below hbA g1⟩) | (exact ⟨cell_below hbB (cell_below hbA x0), cell_below hbB (cell_below hbA x1), cell_below hbB (cell_below hbA g0), cell_below hbB (cell_below hbA g1)⟩))
    ((first | (go_at_call 17; refine (toTrace_any lo _ _ nf fns n f _ ((unhide H1).below (by exact ((unhide T7).go (unhide BD)).below)) ((unhide H2).below (by exact ((unhide T7).go (unhide BD)).below)) hnf' hn' (unhide HNV)).mono ?_; rintro e wA ⟨⟨y1, y2, rfl, hy1, hy2⟩, hbA⟩) | (go_at_call 20; refine (eqTrace_any _ _ _ _ _ _ nf fns n f _ (((unhide HY1).below (unhide BD)).below hbA) (((unhide HY2).below (unhide BD)).below hbA) hy1 hy2).mono ?_; rintro e wB ⟨rfl, hbB⟩)))
  have BB : Hid (Below w7.heap.size w7 wB) := hide (((unhide BD).trans (hbA.mono (by simp))).trans (hbB.mono (by have := hbA.size; simpa using this)))
  have TB := hide ((unhide T7).go (unhide BB))
  have CB := hide ((unhide C7).trans ((unhide BB).mono (by omega)))
  have DB := hide ((unhide D7).trans ((unhide BB).mono (by omega)))
  have GB := hide ((unhide G7).below (unhide BB))
  have hzB : w4.heap.size ≤ wB.heap.size := (unhide DB).size
  have x0' := cell_below (unhide BB) x0
  have x1' := cell_below (unhide BB) x1
  clear x0 x1 g0 g1 hbA hbB hy1 hy2
  go_wp2_with fail
  refine (markTrace_any w3.heap.size w4.heap.size _ _ nf n _ ((unhide HK1).go (Betw.of_below _ _ (unhide DB))) ((unhide HK2).go (Betw.of_below _ _ (unhide DB))) hzB hnf' hn').mono ?_
  rintro e w8 ⟨⟨q, rfl, hq⟩, hb8⟩
  have L8 := hide (hb8.below (by have := unhide HL4; omega))
  have T8 := hide ((unhide TB).on (unhide L8) (unhide HL3))
  have C8 := hide ((unhide CB).trans (unhide L8))
  have G8 := hide ((unhide GB).betw hb8 (by simp))
  have hz8 : wB.heap.size ≤ w8.heap.size := hb8.size
  clear hb8 x0' x1' TB CB DB GB BB T7 C7 D7 G7 BD HY1 HY2 HK1 HK2
  have hqd : decide (q < 0) = false := by simpa using hq
  go_wp2_with fail
  refine (eqLineCountS_any _ _ _ _ _ _ _ (unhide G8) ((unhide HFW).below (unhide C8)) hnw).mono ?_
  rintro e w9 ⟨rfl, hb9⟩
  have T9 := hide ((unhide T8).go hb9)
  have C9 := hide ((unhide C8).trans (hb9.mono (by have := unhide HL4; omega)))
  have G9 := hide ((unhide G8).below hb9)
  have hz9 : w8.heap.size ≤ w9.heap.size := hb9.size
  clear hb9 T8 C8 G8 L8
  go_wp2_with fail
  refine (markLineCountS_any _ _ _ _ _ (unhide G9) hnw).mono ?_
  rintro e w10 ⟨⟨rfl, hfm⟩, hb10⟩
  have T10 := hide ((unhide T9).on hb10 (by have := unhide HL3; have := unhide HL4; simp; omega))
  have C10 := hide ((unhide C9).trans (hb10.mono (by have := unhide HL4; simp; omega)))
  have G10 := hide hfm
  have hz10 : w9.heap.size ≤ w10.heap.size := hb10.size
  clear hb10 T9 C9 G9 hfm
  go_wp2_with fail
  refine (heldLineCountS_any _ _ _ _ (unhide G10) hnw).mono ?_
  rintro e w11 ⟨he, hb11⟩
  subst he
  have T11 := hide ((unhide T10).go hb11)
  have C11 := hide ((unhide C10).trans (hb11.mono (by have := unhide HL4; omega)))
  have G11 := hide ((unhide G10).below hb11)
  have hz11 : w10.heap.size ≤ w11.heap.size := hb11.size
  have g0 := (unhide T11).b0
  have g1 := (unhide T11).b1
  clear hb11 T10 C10 G10
  go_wp2_with fail
  refine (toTrace_any lo _ _ nf fns n f _ ((unhide H1).below (unhide T11).below) ((unhide H2).below (unhide T11).below) hnf' hn' (unhide HNV)).mono ?_
  rintro e w12 ⟨⟨s1, s2, rfl, hs1, hs2⟩, hb12⟩
  have T12 := hide ((unhide T11).go hb12)
  have C12 := hide ((unhide C11).trans (hb12.mono (by have := unhide HL4; omega)))
  have G12 := hide ((unhide G11).below hb12)
  have hz12 : w11.heap.size ≤ w12.heap.size := hb12.size
  have HS1 := hide hs1
  have HS2 := hide hs2
  clear hb12 T11 C11 G11 g0 g1 hs1 hs2
  go_wp2_with fail
  refine (implLineCounts_any _ _ _ nf fns n f _ (unhide HS1) (unhide HS2)).mono ?_
  rintro e w13 ⟨⟨vh, nh, FH, rfl, hst, hfh0⟩, hb13⟩
  obtain ⟨el, ef⟩ := hst.unique (unhide HST)
  subst el
  have hfh := hfh0.congr ef
  have HFH := hide hfh
  obtain ⟨ha, hc, rfl⟩ := hfh.shape
  have T13 := hide ((unhide T12).go hb13)
  have C13 := hide ((unhide C12).trans (hb13.mono (by have := unhide HL4; omega)))
  have G13 := hide ((unhide G12).below hb13)
  have hz13 : w12.heap.size ≤ w13.heap.size := hb13.size
  clear hb13 T12 C12 G12 hst hfh hfh0 ef HS1 HS2
  go_wp2_with fail
  refine (eqLineCountS_any _ _ _ _ _ _ _ (unhide HFH) ((unhide HFW).below (unhide C13)) hnw).mono ?_
  rintro e w14 ⟨rfl, hb14⟩
  have T14 := hide ((unhide T13).go hb14)
  have G14 := hide ((unhide G13).below hb14)
  clear hb14 T13 C13 G13 HFH
  go_wp2_with fail
  refine (heldLineCountS_any _ _ _ _ (unhide G14) hnw).mono ?_
  rintro e w15 ⟨he, hb15⟩
  subst he
  have T15 := hide ((unhide T14).go hb15)
  clear hb15 T14 G14
  go_wp2
  go_ret
  exact ⟨rfl, (unhide T15).below⟩
end Go.Proofs.Ytoiacbdnkkolmab
