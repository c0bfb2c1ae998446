import Derived.Test.YtoiacbdnkkolmaaA4
import Derived.Test.YtoiacbdnkkolmaaI11
namespace Go.Proofs.Ytoiacbdnkkolmaa
open Go.RowKit

set_option maxRecDepth 100000 in
set_option maxHeartbeats 1000000 in
theorem implTraceOk_any (lo : Nat) (v1 v2 : Value) (nf : Nat) (fns : Nat → ByteArray) (n : Nat) (f : Nat → M) (w : World) (h1 : StrsAt lo w v1 nf fns) (h2 : MomsAt lo w v2 n f) :
    Calls Try.prog 39 #[.agg #[v1, v2]] w fun e w' => SaysF nf fns n f e ∧ Below w.heap.size w w' := by
  have H1 := hide h1; clear h1
  have H2 := hide h2; clear h2
  have T0 : Hid (Two w v1 v2 ((w.alloc (.cells #[v1, v2] 26)).alloc (.cells #[.int .i64 0, .int .i64 0] 70))) := hide (Below.refl _ _)
  go_enter Try.func39, Try.ntmps39
  go_wp2_with fail
  refine (readTrace_any lo _ _ nf fns n f _ ((unhide H1).below (unhide T0).below) ((unhide H2).below (unhide T0).below)).mono ?_
  rintro e w1 ⟨⟨v', c, m, rfl, ha, -, a, l, cp, rfl⟩, hb1⟩
  have T1 := hide ((unhide T0).go hb1); clear hb1 T0
  have HA := hide ha; clear ha
  have BA := hide ((Below.refl w1.heap.size w1).alloc (Nat.le_refl _) (.cells #[.int .i64 c, .int .i64 m] 70))
  have T2 := hide ((unhide T1).go (unhide BA))
  have g2 := (unhide T2).r0
  have g3 := (unhide T2).r1
  have g4 := (unhide T2).f0
  have g5 := (unhide T2).f1
  go_wp2
  refine bodyPost_ret (v := .agg #[.int .i64 c, .int .i64 m]) (by simp [results, Try.results39, go_sem, g2, g3]) rfl ⟨⟨_, _, rfl, unhide HA⟩, ?_⟩
  repeat (refine Below.setCell ?_ (by simp) _)
  exact (unhide T2).below

/-- The law's own box of its argument stands as it was laid. -/
def LawBox (w : World) (v1 v2 : Value) (w' : World) : Prop := Below (w.heap.size + 1) (w.alloc (.cells #[v1, v2] 67)) w'

theorem LawBox.below {w w' : World} {v1 v2 : Value} (h : LawBox w v1 v2 w') : Below w.heap.size w w' := ((Below.refl _ _).alloc (Nat.le_refl _) _).trans (Below.mono h (by omega))
theorem LawBox.size {w w' : World} {v1 v2 : Value} (h : LawBox w v1 v2 w') : w.heap.size + 1 ≤ w'.heap.size := by
  have := Below.size h; simpa using this
theorem LawBox.go {w w' w'' : World} {v1 v2 : Value} (h : LawBox w v1 v2 w') (hb : Below w'.heap.size w' w'') : LawBox w v1 v2 w'' := Below.trans h (hb.mono h.size)
theorem LawBox.b0 {w w' : World} {v1 v2 : Value} (h : LawBox w v1 v2 w') : w'.cell? ⟨w.heap.size, 0, none⟩ = some v1 := by
  rw [Below.cell h (by simp), cell_alloc_at _ _ _ _ _ rfl]; rfl
theorem LawBox.b1 {w w' : World} {v1 v2 : Value} (h : LawBox w v1 v2 w') : w'.cell? ⟨w.heap.size, 1, none⟩ = some v2 := by
  rw [Below.cell h (by simp), cell_alloc_at _ _ _ _ _ rfl]; rfl

theorem below_alloc (w : World) (o : Obj) : Below w.heap.size w (w.alloc o) := (Below.refl _ _).alloc (Nat.le_refl _) o

set_option maxRecDepth 100000 in
set_option maxHeartbeats 2000000 in
theorem exactTraceOk_any (lo : Nat) (v1 v2 : Value) (nf : Nat) (fns : Nat → ByteArray) (n : Nat) (f : Nat → M) (w : World) (h1 : StrsAt lo w v1 nf fns) (h2 : MomsAt lo w v2 n f) :
    Calls Try.prog 9 #[.agg #[v1, v2]] w fun e w' => e = .returned (.bool true) ∧ Below w.heap.size w w' := by
  have H1 := hide h1; clear h1
  have H2 := hide h2; clear h2
  have T0 : Hid (LawBox w v1 v2 (w.alloc (.cells #[v1, v2] 67))) := hide (Below.refl _ _)
  go_enter Try.func9, Try.ntmps9
  go_wp2_with fail
  refine (szTrace_any lo _ _ nf fns n f _ _ ((unhide H1).below (unhide T0).below) ((unhide H2).below (unhide T0).below) (by omega) (by omega)).mono ?_
  rintro e w1 ⟨⟨r, rfl, hr1, hr2⟩, hb1⟩
  have T1 := hide ((unhide T0).go hb1); clear hb1 T0
  by_cases hr : r < 0
  · clear hr2
    go_wp2
    go_ret
    exact ⟨rfl, (unhide T1).below⟩
  obtain ⟨hnf, hn, hnv⟩ := hr2 (by omega)
  have HNV := hide hnv
  have hnf' : nf ≤ 1048576 := by omega
  have hn' : n ≤ 1048576 := by omega
  clear hr2 hnv hnf hn
  have g0 := (unhide T1).b0
  have g1 := (unhide T1).b1
  go_wp2_with fail
  refine (toTrace_any lo _ _ nf fns n f _ ((unhide H1).below (unhide T1).below) ((unhide H2).below (unhide T1).below) hnf' hn' (unhide HNV)).mono ?_
  rintro e w2 ⟨⟨s1, s2, rfl, hs1, hs2⟩, hb2⟩
  have T2 := hide ((unhide T1).go hb2); clear hb2 T1 g0 g1
  have HS1 := hide hs1
  have HS2 := hide hs2
  clear hs1 hs2
  go_wp2_with fail
  refine (specTraceOk_any _ _ _ nf fns n f _ (unhide HS1) (unhide HS2)).mono ?_
  rintro e w3 ⟨⟨c, m, rfl, ha⟩, hb3⟩
  have T3 := hide (((unhide T2).go hb3).go (below_alloc w3 (.cells #[.int .i64 c, .int .i64 m] 70)))
  have HA := hide ha
  clear hb3 ha T2 HS1 HS2
  have g0 := (unhide T3).b0
  have g1 := (unhide T3).b1
  have q0 : (w3.alloc (.cells #[.int .i64 c, .int .i64 m] 70)).cell? ⟨w3.heap.size, 0, none⟩ = some (.int .i64 c) := by rw [cell_alloc_at _ _ _ _ _ rfl]; rfl
  have q1 : (w3.alloc (.cells #[.int .i64 c, .int .i64 m] 70)).cell? ⟨w3.heap.size, 1, none⟩ = some (.int .i64 m) := by rw [cell_alloc_at _ _ _ _ _ rfl]; rfl
  have Q := hide (And.intro q0 q1)
  clear q0 q1
  go_wp2_with fail
  refine (toTrace_any lo _ _ nf fns n f _ ((unhide H1).below (unhide T3).below) ((unhide H2).below (unhide T3).below) hnf' hn' (unhide HNV)).mono ?_
  rintro e w4 ⟨⟨x1, x2, rfl, hx1, hx2⟩, hb4⟩
  have BA := hide (below_alloc w4 (.cells #[x1, x2] 26))
  have T4 := hide (((unhide T3).go hb4).go (unhide BA))
  have Q4 := hide (And.intro (cell_below (unhide BA) (cell_below hb4 (unhide Q).1)) (cell_below (unhide BA) (cell_below hb4 (unhide Q).2)))
  have HX1 := hide (hx1.below (unhide BA))
  have HX2 := hide (hx2.below (unhide BA))
  obtain ⟨ax1, cx1, rfl, -⟩ := hx1
  obtain ⟨ax2, cx2, rfl, -⟩ := hx2
  have x0 : (w4.alloc (.cells #[.slice ax1 nf cx1, .slice ax2 n cx2] 26)).cell? ⟨w4.heap.size, 0, none⟩ = some (.slice ax1 nf cx1) := by rw [cell_alloc_at _ _ _ _ _ rfl]; rfl
  have x1 : (w4.alloc (.cells #[.slice ax1 nf cx1, .slice ax2 n cx2] 26)).cell? ⟨w4.heap.size, 1, none⟩ = some (.slice ax2 n cx2) := by rw [cell_alloc_at _ _ _ _ _ rfl]; rfl
  have X4 := hide (And.intro x0 x1)
  clear x0 x1 hb4 T3 Q g0 g1
  go_wp2_with fail
  refine (implTraceOk_any _ _ _ nf fns n f _ (unhide HX1) (unhide HX2)).mono ?_
  rintro e w5 ⟨⟨c', m', rfl, ha'⟩, hb5⟩
  obtain ⟨ec, em⟩ := (unhide HA).unique ha'
  subst ec
  subst em
  have BB := hide (below_alloc w5 (.cells #[.int .i64 c, .int .i64 m] 70))
  have T5 := hide (((unhide T4).go hb5).go (unhide BB))
  have q0 := cell_below (unhide BB) (cell_below hb5 (unhide Q4).1)
  have q1 := cell_below (unhide BB) (cell_below hb5 (unhide Q4).2)
  have X5 := hide (And.intro (cell_below (unhide BB) (cell_below hb5 (unhide X4).1)) (cell_below (unhide BB) (cell_below hb5 (unhide X4).2)))
  have HY1 := hide (((unhide HX1).below hb5).below (unhide BB))
  have HY2 := hide (((unhide HX2).below hb5).below (unhide BB))
  clear ha' hb5 T4 Q4 X4 HX1 HX2 HA
  go_wp2_with fail
  refine (eqFault_any _ _ _).mono ?_
  rintro e w6 ⟨rfl, hb6⟩
  have T6 := hide ((unhide T5).go hb6)
  have x0 := cell_below hb6 (unhide X5).1
  have x1 := cell_below hb6 (unhide X5).2
  have HZ1 := hide ((unhide HY1).below hb6)
  have HZ2 := hide ((unhide HY2).below hb6)
  clear hb6 T5 X5 HY1 HY2 q0 q1
  have g0 := (unhide T6).b0
  have g1 := (unhide T6).b1
  have BD := hide ((Below.refl w6.heap.size w6).drew)
  go_wp2_with fail
  go_region_held3 (fun w' => w'.cell? ⟨w4.heap.size, 0, none⟩ = some (.slice ax1 nf cx1) ∧ w'.cell? ⟨w4.heap.size, 1, none⟩ = some (.slice ax2 n cx2) ∧ w'.cell? ⟨w.heap.size, 0, none⟩ = some v1 ∧ w'.cell? ⟨w.heap.size, 1, none⟩ = some v2)
    (first | (exact ⟨x0, x1, g0, g1⟩) | (exact ⟨cell_below hbA x0, cell_below hbA x1, cell_below hbA g0, cell_below hbA g1⟩) | (exact ⟨cell_below hbB (cell_below hbA x0), cell_below hbB (cell_below hbA x1), cell_below hbB (cell_below hbA g0), cell_below hbB (cell_below hbA g1)⟩))
    ((first | (go_at_call 38; refine (toTrace_any lo _ _ nf fns n f _ ((unhide H1).below (by exact ((unhide T6).go (unhide BD)).below)) ((unhide H2).below (by exact ((unhide T6).go (unhide BD)).below)) hnf' hn' (unhide HNV)).mono ?_; rintro e wA ⟨⟨y1, y2, rfl, hy1, hy2⟩, hbA⟩) | (go_at_call 41; refine (eqTrace_any _ _ _ _ _ _ nf fns n f _ (((unhide HZ1).below (unhide BD)).below hbA) (((unhide HZ2).below (unhide BD)).below hbA) hy1 hy2).mono ?_; rintro e wB ⟨rfl, hbB⟩)))
  go_wp2
  go_ret
  exact ⟨rfl, ((((unhide T6).go (unhide BD)).go hbA).go hbB).below⟩
end Go.Proofs.Ytoiacbdnkkolmaa
