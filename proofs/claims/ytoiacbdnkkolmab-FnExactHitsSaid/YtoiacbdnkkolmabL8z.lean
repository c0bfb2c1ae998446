import Derived.Test.YtoiacbdnkkolmabGLz
import Derived.Test.YtoiacbdnkkolmabGEdz
namespace Go.Proofs.Ytoiacbdnkkolmab
open Go.RowKit

/-- A law's boxes, called with a trace and a stop. -/
def LSBox (w : World) (v1 v2 : Value) (s : Sp) (W : World) : Prop := Below (w.heap.size + 1 + 1) ((w.alloc (.cells #[v1, v2] 25)).alloc (.cells #[.int .i64 s.kind, .int .i64 s.fn, .int .i64 s.line, .string s.name] 47)) W

theorem LSBox.new (w : World) (v1 v2 : Value) (s : Sp) : LSBox w v1 v2 s ((w.alloc (.cells #[v1, v2] 25)).alloc (.cells #[.int .i64 s.kind, .int .i64 s.fn, .int .i64 s.line, .string s.name] 47)) := Below.refl _ _

section
variable {w W W' : World} {v1 v2 : Value} {s : Sp}
theorem LSBox.size (h : LSBox w v1 v2 s W) : w.heap.size + 1 + 1 ≤ W.heap.size := by have := Below.size h; simpa using this
theorem LSBox.go (h : LSBox w v1 v2 s W) (hb : Below W.heap.size W W') : LSBox w v1 v2 s W' := Below.trans h (hb.mono h.size)
theorem LSBox.on {B : Nat} (h : LSBox w v1 v2 s W) (hb : Below B W W') (hB : w.heap.size + 1 + 1 ≤ B) : LSBox w v1 v2 s W' := Below.trans h (hb.mono hB)
theorem LSBox.below (h : LSBox w v1 v2 s W) : Below w.heap.size w W := (((Below.refl _ _).alloc (Nat.le_refl _) _).alloc (by simp) _).trans (Below.mono h (by omega))
theorem LSBox.heap0 (h : LSBox w v1 v2 s W) : W.heap[w.heap.size]? = some (.cells #[v1, v2] 25 (0, 0)) := by
  rw [Below.block h _ (by omega), Below.heap_alloc _ _ _ (by simp)]; exact heap_alloc_new w _
theorem LSBox.heap1 (h : LSBox w v1 v2 s W) : W.heap[w.heap.size + 1]? = some (.cells #[.int .i64 s.kind, .int .i64 s.fn, .int .i64 s.line, .string s.name] 47 (0, 0)) := by
  rw [Below.block h _ (by omega)]
  have := heap_alloc_new (w.alloc (.cells #[v1, v2] 25)) (.cells #[.int .i64 s.kind, .int .i64 s.fn, .int .i64 s.line, .string s.name] 47)
  simpa using this
theorem LSBox.t0 (h : LSBox w v1 v2 s W) : W.cell? ⟨w.heap.size, 0, none⟩ = some v1 := by rw [cell_of_row W _ 0 _ _ _ h.heap0]; rfl
theorem LSBox.t1 (h : LSBox w v1 v2 s W) : W.cell? ⟨w.heap.size, 1, none⟩ = some v2 := by rw [cell_of_row W _ 1 _ _ _ h.heap0]; rfl
theorem LSBox.s0 (h : LSBox w v1 v2 s W) : W.cell? ⟨w.heap.size + 1, 0, none⟩ = some (.int .i64 s.kind) := by rw [cell_of_row W _ 0 _ _ _ h.heap1]; rfl
theorem LSBox.s1 (h : LSBox w v1 v2 s W) : W.cell? ⟨w.heap.size + 1, 1, none⟩ = some (.int .i64 s.fn) := by rw [cell_of_row W _ 1 _ _ _ h.heap1]; rfl
theorem LSBox.s2 (h : LSBox w v1 v2 s W) : W.cell? ⟨w.heap.size + 1, 2, none⟩ = some (.int .i64 s.line) := by rw [cell_of_row W _ 2 _ _ _ h.heap1]; rfl
theorem LSBox.s3 (h : LSBox w v1 v2 s W) : W.cell? ⟨w.heap.size + 1, 3, none⟩ = some (.string s.name) := by rw [cell_of_row W _ 3 _ _ _ h.heap1]; rfl
end

theorem LSBox.cells {w W : World} {v1 v2 : Value} {s : Sp} (h : LSBox w v1 v2 s W) : W.cell? ⟨w.heap.size, 0, none⟩ = some v1 ∧ W.cell? ⟨w.heap.size, 1, none⟩ = some v2 ∧ W.cell? ⟨w.heap.size + 1, 0, none⟩ = some (.int .i64 s.kind) ∧ W.cell? ⟨w.heap.size + 1, 1, none⟩ = some (.int .i64 s.fn) ∧ W.cell? ⟨w.heap.size + 1, 2, none⟩ = some (.int .i64 s.line) ∧ W.cell? ⟨w.heap.size + 1, 3, none⟩ = some (.string s.name) := ⟨h.t0, h.t1, h.s0, h.s1, h.s2, h.s3⟩

set_option maxRecDepth 100000 in
set_option maxHeartbeats 4000000 in
theorem exactStopsAt_any (lo : Nat) (v1 v2 : Value) (nf : Nat) (fns : Nat → ByteArray) (n : Nat) (f : Nat → M) (s : Sp) (k : Int) (w : World) (h1 : StrsAt lo w v1 nf fns) (h2 : MomsAt lo w v2 n f) (hz : s.name.size ≤ maxLen) (_wk : (Lit.int .i64 k).wf = true) :
    Calls Try.prog 7 #[.agg #[v1, v2], .agg #[.int .i64 s.kind, .int .i64 s.fn, .int .i64 s.line, .string s.name], .int .i64 k] w fun e w' => e = .returned (.bool true) ∧ Below w.heap.size w w' := by
  have H1 := hide h1; clear h1
  have H2 := hide h2; clear h2
  have T0 := hide (LSBox.new w v1 v2 s)
  go_enter Try.func7, Try.ntmps7
  go_wp2_with fail
  refine (szTrace_any lo _ _ nf fns n f _ _ ((unhide H1).below (unhide T0).below) ((unhide H2).below (unhide T0).below) (by omega) (by omega)).mono ?_
  rintro e w1 ⟨⟨r, rfl, hr1, hr2⟩, hb1⟩
  have T1 := hide ((unhide T0).go hb1); clear hb1 T0
  by_cases hr : r < 0
  · clear hr2
    go_wp2
    go_ret
    exact ⟨rfl, (unhide T1).below⟩
  obtain ⟨hnf, hn, hnv⟩ := hr2 (by omega)
  have HNV := hide hnv
  have hnf' : nf ≤ 1048576 := by omega
  have hn' : n ≤ 1048576 := by omega
  clear hr2 hnv hnf hn
  obtain ⟨-, -, y0, y1, y2, y3⟩ := (unhide T1).cells
  go_wp2_with fail
  refine (szStop_any s.kind s.fn s.line s.name _ _ hz (by omega) (by omega)).mono ?_
  rintro e w1b ⟨⟨rb, rfl, hrb⟩, hb1⟩
  have T1b := hide ((unhide T1).go hb1); clear hb1 T1 y0 y1 y2 y3
  by_cases hrb0 : rb < 0
  · go_wp2
    go_ret
    exact ⟨rfl, (unhide T1b).below⟩
  have BD1 := hide ((Below.refl w1b.heap.size w1b).drew)
  obtain ⟨x0, x1, y0, y1, y2, y3⟩ := (unhide T1b).cells
  go_wp2_with fail
  go_region_held3 (fun w' => w'.cell? ⟨w.heap.size, 0, none⟩ = some v1 ∧ w'.cell? ⟨w.heap.size, 1, none⟩ = some v2 ∧ w'.cell? ⟨w.heap.size + 1, 0, none⟩ = some (.int .i64 s.kind) ∧ w'.cell? ⟨w.heap.size + 1, 1, none⟩ = some (.int .i64 s.fn) ∧ w'.cell? ⟨w.heap.size + 1, 2, none⟩ = some (.int .i64 s.line) ∧ w'.cell? ⟨w.heap.size + 1, 3, none⟩ = some (.string s.name))
    (first | (exact ((unhide T1b).go (unhide BD1)).cells) | (exact (((unhide T1b).go (unhide BD1)).go hbA).cells) | (exact ((((unhide T1b).go (unhide BD1)).go hbA).go hbB).cells) | (exact (((((unhide T1b).go (unhide BD1)).go hbA).go hbB).go hbC).cells))
    ((first | (go_at_call 17; refine (toTrace_any lo _ _ nf fns n f _ ((unhide H1).below (by exact ((unhide T1b).go (unhide BD1)).below)) ((unhide H2).below (by exact ((unhide T1b).go (unhide BD1)).below)) hnf' hn' (unhide HNV)).mono ?_; rintro e wA ⟨⟨s1, s2, rfl, hs1, hs2⟩, hbA⟩) | (go_at_call 36; refine (toStop_any s.kind s.fn s.line s.name _).mono ?_; rintro e wB ⟨rfl, hbB⟩) | (go_at_call 38; refine (specStopsAt_any _ _ _ nf fns n f s k _ (hs1.below hbB) (hs2.below hbB) hz).mono ?_; rintro e wC ⟨⟨b, rfl, hb⟩, hbC⟩)))
  have T3 := hide (((((unhide T1b).go (unhide BD1)).go hbA).go hbB).go hbC)
  have HB := hide hb
  clear hbA hbB hbC hs1 hs2 BD1 T1b hb x0 x1 y0 y1 y2 y3
  have g0 := (unhide T3).t0
  have g1 := (unhide T3).t1
  go_wp2_with fail
  refine (toTrace_any lo _ _ nf fns n f _ ((unhide H1).below (unhide T3).below) ((unhide H2).below (unhide T3).below) hnf' hn' (unhide HNV)).mono ?_
  rintro e w4 ⟨⟨x1, x2, rfl, hx1, hx2⟩, hb4⟩
  have BA := hide (below_alloc w4 (.cells #[x1, x2] 31))
  have T4 := hide (((unhide T3).go hb4).go (unhide BA))
  have HX1 := hide (hx1.below (unhide BA))
  have HX2 := hide (hx2.below (unhide BA))
  obtain ⟨ax1, cx1, rfl, -⟩ := hx1
  obtain ⟨ax2, cx2, rfl, -⟩ := hx2
  have x0 : (w4.alloc (.cells #[.slice ax1 nf cx1, .slice ax2 n cx2] 31)).cell? ⟨w4.heap.size, 0, none⟩ = some (.slice ax1 nf cx1) := by rw [cell_alloc_at _ _ _ _ _ rfl]; rfl
  have x1 : (w4.alloc (.cells #[.slice ax1 nf cx1, .slice ax2 n cx2] 31)).cell? ⟨w4.heap.size, 1, none⟩ = some (.slice ax2 n cx2) := by rw [cell_alloc_at _ _ _ _ _ rfl]; rfl
  have X4 := hide (And.intro x0 x1)
  clear x0 x1 hb4 T3 g0 g1
  go_upto_region 10 with fail
  generalize w4.alloc (.cells #[.slice ax1 nf cx1, .slice ax2 n cx2] 31) = W5 at T4 HX1 HX2 X4 ⊢
  obtain ⟨xb, hxb⟩ : ∃ xb, xb = w4.heap.size := ⟨_, rfl⟩
  rw [← hxb] at X4
  rw [← hxb]
  clear hxb BA
  have BD5 := hide ((Below.refl W5.heap.size W5).drew)
  obtain ⟨x0, x1⟩ := unhide X4
  obtain ⟨-, -, y0, y1, y2, y3⟩ := (unhide T4).cells
  go_region_held3 (fun w' => (w'.cell? ⟨xb, 0, none⟩ = some (.slice ax1 nf cx1) ∧ w'.cell? ⟨xb, 1, none⟩ = some (.slice ax2 n cx2)) ∧ w'.cell? ⟨w.heap.size, 0, none⟩ = some v1 ∧ w'.cell? ⟨w.heap.size, 1, none⟩ = some v2 ∧ w'.cell? ⟨w.heap.size + 1, 0, none⟩ = some (.int .i64 s.kind) ∧ w'.cell? ⟨w.heap.size + 1, 1, none⟩ = some (.int .i64 s.fn) ∧ w'.cell? ⟨w.heap.size + 1, 2, none⟩ = some (.int .i64 s.line) ∧ w'.cell? ⟨w.heap.size + 1, 3, none⟩ = some (.string s.name))
    (first | (exact ⟨⟨cell_below (unhide BD5) x0, cell_below (unhide BD5) x1⟩, ((unhide T4).go (unhide BD5)).cells⟩) | (exact ⟨⟨cell_below hbA (cell_below (unhide BD5) x0), cell_below hbA (cell_below (unhide BD5) x1)⟩, (((unhide T4).go (unhide BD5)).go hbA).cells⟩) | (exact ⟨⟨cell_below hbB (cell_below hbA (cell_below (unhide BD5) x0)), cell_below hbB (cell_below hbA (cell_below (unhide BD5) x1))⟩, ((((unhide T4).go (unhide BD5)).go hbA).go hbB).cells⟩))
    ((first | (go_at_call 36; refine (toStop_any s.kind s.fn s.line s.name _).mono ?_; rintro e wA ⟨rfl, hbA⟩) | (go_at_call 39; refine (implStopsAt_any _ _ _ nf fns n f s k _ (((unhide HX1).below (unhide BD5)).below hbA) (((unhide HX2).below (unhide BD5)).below hbA) hz).mono ?_; rintro e wB ⟨⟨b', rfl, hb'⟩, hbB⟩)))
  have eb : b' = b := by
    have h := unhide HB
    cases b <;> cases b' <;> simp_all
  subst eb
  have T6 := hide ((((unhide T4).go (unhide BD5)).go hbA).go hbB)
  have z0 := cell_below hbB (cell_below hbA (cell_below (unhide BD5) x0))
  have z1 := cell_below hbB (cell_below hbA (cell_below (unhide BD5) x1))
  have HZ1 := hide ((((unhide HX1).below (unhide BD5)).below hbA).below hbB)
  have HZ2 := hide ((((unhide HX2).below (unhide BD5)).below hbA).below hbB)
  clear hbA hbB hb' HB T4 X4 HX1 HX2 x0 x1 y0 y1 y2 y3 BD5
  have g0 := (unhide T6).t0
  have g1 := (unhide T6).t1
  have BD := hide ((Below.refl wB.heap.size wB).drew)
  go_wp2_with fail
  go_region_held3 (fun w' => w'.cell? ⟨xb, 0, none⟩ = some (.slice ax1 nf cx1) ∧ w'.cell? ⟨xb, 1, none⟩ = some (.slice ax2 n cx2) ∧ w'.cell? ⟨w.heap.size, 0, none⟩ = some v1 ∧ w'.cell? ⟨w.heap.size, 1, none⟩ = some v2)
    (first | (exact ⟨z0, z1, g0, g1⟩) | (exact ⟨cell_below hbC z0, cell_below hbC z1, cell_below hbC g0, cell_below hbC g1⟩) | (exact ⟨cell_below hbD (cell_below hbC z0), cell_below hbD (cell_below hbC z1), cell_below hbD (cell_below hbC g0), cell_below hbD (cell_below hbC g1)⟩))
    ((first | (go_at_call 17; refine (toTrace_any lo _ _ nf fns n f _ ((unhide H1).below (by exact ((unhide T6).go (unhide BD)).below)) ((unhide H2).below (by exact ((unhide T6).go (unhide BD)).below)) hnf' hn' (unhide HNV)).mono ?_; rintro e wD ⟨⟨y1, y2, rfl, hy1, hy2⟩, hbC⟩) | (go_at_call 20; refine (eqTrace_any _ _ _ _ _ _ nf fns n f _ (((unhide HZ1).below (unhide BD)).below hbC) (((unhide HZ2).below (unhide BD)).below hbC) hy1 hy2).mono ?_; rintro e wE ⟨rfl, hbD⟩)))
  go_wp2
  go_ret
  exact ⟨rfl, ((((unhide T6).go (unhide BD)).go hbC).go hbD).below⟩
end Go.Proofs.Ytoiacbdnkkolmab
