import Derived.Test.YtoiacbdnkkolmabL8z
import Derived.Test.YtoiacbdnkkolmabGTz
import Derived.Test.YtoiacbdnkkolmabGEfz
namespace Go.Proofs.Ytoiacbdnkkolmab
open Go.RowKit

theorem rows_betw {lo hi B : Nat} {w w' : World} {v : Value} {z n : Nat} {F : Nat → Nat → Int} (h : RowsAt B w v z n F) (hb : Betw lo hi w w') (hB : hi ≤ B) : RowsAt B w' v z n F := by
  obtain ⟨a, cap, hv, h⟩ := h
  refine ⟨a, cap, hv, fun i hi => ?_⟩
  obtain ⟨b, ha, h1, hc⟩ := h i hi
  refine ⟨b, ha, h1, fun j hj => ?_⟩
  have hk := hb.block b (cell_lt (hc j hj).1) (.inr (by omega))
  rw [World.cell?_of_block hk, World.frozen?_of_block hk]
  exact hc j hj

/-- The moments that Hits answers. -/
def HitsIs (nf : Nat) (fns : Nat → ByteArray) (n : Nat) (f : Nat → M) (s : Sp) (l : List Nat) : Prop := (Sound nf fns n f ∧ StopIs s) ∧ l = ups (hit f s) 0 n ∨ ¬ (Sound nf fns n f ∧ StopIs s) ∧ l = []

theorem HitsIs.uniq {nf : Nat} {fns : Nat → ByteArray} {n : Nat} {f : Nat → M} {s : Sp} {l l' : List Nat} (h : HitsIs nf fns n f s l) (h' : HitsIs nf fns n f s l') : l = l' := by
  rcases h with ⟨a, rfl⟩ | ⟨a, rfl⟩ <;> rcases h' with ⟨a', rfl⟩ | ⟨a', rfl⟩
  · rfl
  · exact absurd a a'
  · exact absurd a' a
  · rfl

theorem HitsIs.le {nf : Nat} {fns : Nat → ByteArray} {n : Nat} {f : Nat → M} {s : Sp} {l : List Nat} (h : HitsIs nf fns n f s l) : l.length ≤ n := by
  rcases h with ⟨_, rfl⟩ | ⟨_, rfl⟩
  · exact ups_le _ _ _
  · exact Nat.zero_le _

set_option maxRecDepth 100000 in
set_option maxHeartbeats 4000000 in
theorem exactHits_any (lo : Nat) (v1 v2 : Value) (nf : Nat) (fns : Nat → ByteArray) (n : Nat) (f : Nat → M) (s : Sp) (w : World) (h1 : StrsAt lo w v1 nf fns) (h2 : MomsAt lo w v2 n f) (hz : s.name.size ≤ maxLen) :
    Calls Try.prog 8 #[.agg #[v1, v2], .agg #[.int .i64 s.kind, .int .i64 s.fn, .int .i64 s.line, .string s.name]] w fun e w' => e = .returned (.bool true) ∧ Below w.heap.size w w' := by
  have H1 := hide h1; clear h1
  have H2 := hide h2; clear h2
  have T0 := hide (LSBox.new w v1 v2 s)
  go_enter Try.func8, Try.ntmps8
  go_wp2_with fail
  refine (szTrace_any lo _ _ nf fns n f _ _ ((unhide H1).below (unhide T0).below) ((unhide H2).below (unhide T0).below) (by omega) (by omega)).mono ?_
  rintro e w1 ⟨⟨r, rfl, hr1, hr2⟩, hb1⟩
  have T1 := hide ((unhide T0).go hb1); clear hb1 T0
  by_cases hr : r < 0
  · clear hr2
    go_wp2
    go_ret
    exact ⟨rfl, (unhide T1).below⟩
  obtain ⟨hnf, hn, hnv⟩ := hr2 (by omega)
  have HNV := hide hnv
  have hnf' : nf ≤ 1048576 := by omega
  have hn' : n ≤ 1048576 := by omega
  clear hr2 hnv hnf hn
  obtain ⟨-, -, y0, y1, y2, y3⟩ := (unhide T1).cells
  go_wp2_with fail
  refine (szStop_any s.kind s.fn s.line s.name _ _ hz (by omega) (by omega)).mono ?_
  rintro e w1b ⟨⟨rb, rfl, hrb⟩, hb1⟩
  have T1b := hide ((unhide T1).go hb1); clear hb1 T1 y0 y1 y2 y3
  by_cases hrb0 : rb < 0
  · go_wp2
    go_ret
    exact ⟨rfl, (unhide T1b).below⟩
  have BD1 := hide ((Below.refl w1b.heap.size w1b).drew)
  obtain ⟨x0, x1, y0, y1, y2, y3⟩ := (unhide T1b).cells
  go_wp2_with fail
  go_region_held3 (fun w' => w'.cell? ⟨w.heap.size, 0, none⟩ = some v1 ∧ w'.cell? ⟨w.heap.size, 1, none⟩ = some v2 ∧ w'.cell? ⟨w.heap.size + 1, 0, none⟩ = some (.int .i64 s.kind) ∧ w'.cell? ⟨w.heap.size + 1, 1, none⟩ = some (.int .i64 s.fn) ∧ w'.cell? ⟨w.heap.size + 1, 2, none⟩ = some (.int .i64 s.line) ∧ w'.cell? ⟨w.heap.size + 1, 3, none⟩ = some (.string s.name))
    (first | (exact ((unhide T1b).go (unhide BD1)).cells) | (exact (((unhide T1b).go (unhide BD1)).go hbA).cells) | (exact ((((unhide T1b).go (unhide BD1)).go hbA).go hbB).cells) | (exact (((((unhide T1b).go (unhide BD1)).go hbA).go hbB).go hbC).cells))
    ((first | (go_at_call 17; refine (toTrace_any lo _ _ nf fns n f _ ((unhide H1).below (by exact ((unhide T1b).go (unhide BD1)).below)) ((unhide H2).below (by exact ((unhide T1b).go (unhide BD1)).below)) hnf' hn' (unhide HNV)).mono ?_; rintro e wA ⟨⟨s1, s2, rfl, hs1, hs2⟩, hbA⟩) | (go_at_call 36; refine (toStop_any s.kind s.fn s.line s.name _).mono ?_; rintro e wB ⟨rfl, hbB⟩) | (go_at_call 40; refine (specHits_any _ _ _ nf fns n f s _ (hs1.below hbB) (hs2.below hbB) hz hn').mono ?_; rintro e w3 ⟨⟨vw, lw, rfl, how, hlw, wa, wm, wc, rfl⟩, hbC⟩)))
  have T3 := hide (((((unhide T1b).go (unhide BD1)).go hbA).go hbB).go hbC)
  have HST : Hid (HitsIs nf fns n f s lw) := hide hlw
  have HFW := hide how.rows
  have hnw : lw.length ≤ 1048576 := Nat.le_trans (unhide HST).le hn'
  clear hbA hbB hbC hs1 hs2 BD1 T1b how hlw x0 x1 y0 y1 y2 y3
  have HL3 := hide (unhide T3).size
  have g0 := (unhide T3).t0
  have g1 := (unhide T3).t1
  go_wp2_with fail
  refine (toTrace_any lo _ _ nf fns n f _ ((unhide H1).below (unhide T3).below) ((unhide H2).below (unhide T3).below) hnf' hn' (unhide HNV)).mono ?_
  rintro e w4 ⟨⟨x1, x2, rfl, hx1, hx2⟩, hb4⟩
  have HK1 := hide (hx1.marks (by have := unhide HL3; omega))
  have HK2 := hide (hx2.marks (by have := unhide HL3; omega) (unhide HNV))
  have BA := hide (below_alloc w4 (.cells #[x1, x2] 31))
  have T4 := hide (((unhide T3).go hb4).go (unhide BA))
  have C4 := hide (hb4.trans ((unhide BA).mono hb4.size))
  have HX1 := hide (hx1.below (unhide BA))
  have HX2 := hide (hx2.below (unhide BA))
  obtain ⟨ax1, cx1, rfl, -⟩ := hx1
  obtain ⟨ax2, cx2, rfl, -⟩ := hx2
  have x0 : (w4.alloc (.cells #[.slice ax1 nf cx1, .slice ax2 n cx2] 31)).cell? ⟨w4.heap.size, 0, none⟩ = some (.slice ax1 nf cx1) := by rw [cell_alloc_at _ _ _ _ _ rfl]; rfl
  have x1 : (w4.alloc (.cells #[.slice ax1 nf cx1, .slice ax2 n cx2] 31)).cell? ⟨w4.heap.size, 1, none⟩ = some (.slice ax2 n cx2) := by rw [cell_alloc_at _ _ _ _ _ rfl]; rfl
  have X4 := hide (And.intro x0 x1)
  have HL4 := hide hb4.size
  clear x0 x1 hb4 T3 g0 g1
  go_upto_region 10 with fail
  obtain ⟨W5, hW5⟩ : ∃ W5, W5 = w4.alloc (.cells #[.slice ax1 nf cx1, .slice ax2 n cx2] 31) := ⟨_, rfl⟩
  have HL5 : Hid (w4.heap.size + 1 = W5.heap.size) := hide (by rw [hW5]; simp)
  rw [← hW5] at T4 HX1 HX2 X4 C4 BA
  rw [← hW5]
  clear hW5
  have BD5 := hide ((Below.refl W5.heap.size W5).drew)
  obtain ⟨x0, x1⟩ := unhide X4
  obtain ⟨-, -, y0, y1, y2, y3⟩ := (unhide T4).cells
  go_region_held3 (fun w' => (w'.cell? ⟨w4.heap.size, 0, none⟩ = some (.slice ax1 nf cx1) ∧ w'.cell? ⟨w4.heap.size, 1, none⟩ = some (.slice ax2 n cx2)) ∧ w'.cell? ⟨w.heap.size, 0, none⟩ = some v1 ∧ w'.cell? ⟨w.heap.size, 1, none⟩ = some v2 ∧ w'.cell? ⟨w.heap.size + 1, 0, none⟩ = some (.int .i64 s.kind) ∧ w'.cell? ⟨w.heap.size + 1, 1, none⟩ = some (.int .i64 s.fn) ∧ w'.cell? ⟨w.heap.size + 1, 2, none⟩ = some (.int .i64 s.line) ∧ w'.cell? ⟨w.heap.size + 1, 3, none⟩ = some (.string s.name))
    (first | (exact ⟨⟨cell_below (unhide BD5) x0, cell_below (unhide BD5) x1⟩, ((unhide T4).go (unhide BD5)).cells⟩) | (exact ⟨⟨cell_below hbA (cell_below (unhide BD5) x0), cell_below hbA (cell_below (unhide BD5) x1)⟩, (((unhide T4).go (unhide BD5)).go hbA).cells⟩) | (exact ⟨⟨cell_below hbB (cell_below hbA (cell_below (unhide BD5) x0)), cell_below hbB (cell_below hbA (cell_below (unhide BD5) x1))⟩, ((((unhide T4).go (unhide BD5)).go hbA).go hbB).cells⟩))
    ((first | (go_at_call 36; refine (toStop_any s.kind s.fn s.line s.name _).mono ?_; rintro e wA ⟨rfl, hbA⟩) | (go_at_call 41; refine (implHits_any _ _ _ nf fns n f s _ (((unhide HX1).below (unhide BD5)).below hbA) (((unhide HX2).below (unhide BD5)).below hbA) hz hn').mono ?_; rintro e w6 ⟨⟨vg, lg, rfl, hog, hlg, ga, gm, gc, rfl⟩, hbB⟩)))
  have hb6 : Below W5.heap.size W5 w6 := (unhide BD5).trans ((hbA.mono (by simp)).trans (hbB.mono (by have := (unhide BD5).size; have := hbA.size; omega)))
  obtain rfl : lg = lw := HitsIs.uniq hlg (unhide HST)
  have hzA : W5.heap.size ≤ wA.heap.size := by have := hbA.size; simpa using this
  have HFG := hide hog.rows
  have T6 := hide ((unhide T4).go hb6)
  have C6 := hide ((unhide C4).trans (hb6.mono (by have := unhide HL4; have := unhide HL5; omega)))
  have D6 := hide ((unhide BA).trans (hb6.mono (by have := unhide HL5; omega)))
  have X6 := hide (And.intro (cell_below hb6 (unhide X4).1) (cell_below hb6 (unhide X4).2))
  have HZ1 := hide ((unhide HX1).below hb6)
  have HZ2 := hide ((unhide HX2).below hb6)
  have HL6 := hide hb6.size
  clear hb6 hbA hbB hlg hog T4 X4 HX1 HX2 C4 BA x0 x1 y0 y1 y2 y3 BD5
  go_wp2_with fail
  refine (eqIntS_any _ _ _ _ _ _ _ (unhide HFG) ((unhide HFW).below (unhide C6)) hnw).mono ?_
  rintro e w7 ⟨rfl, hb7⟩
  have T7 := hide ((unhide T6).go hb7)
  have hz3 : w3.heap.size ≤ w6.heap.size := (unhide C6).size
  have hz4 : w4.heap.size ≤ w6.heap.size := (unhide D6).size
  have C7 := hide ((unhide C6).trans (hb7.mono hz3))
  have D7 := hide ((unhide D6).trans (hb7.mono hz4))
  have x0 := cell_below hb7 (unhide X6).1
  have x1 := cell_below hb7 (unhide X6).2
  have HY1 := hide ((unhide HZ1).below hb7)
  have HY2 := hide ((unhide HZ2).below hb7)
  have G7 := hide ((unhide HFG).below hb7)
  have g0 := (unhide T7).t0
  have g1 := (unhide T7).t1
  have BD := hide ((Below.refl w7.heap.size w7).drew)
  have hz7 : w6.heap.size ≤ w7.heap.size := hb7.size
  clear hb7 T6 C6 D6 X6 HZ1 HZ2 HFG
  go_wp2_with fail
  go_region_held3 (fun w' => w'.cell? ⟨w4.heap.size, 0, none⟩ = some (.slice ax1 nf cx1) ∧ w'.cell? ⟨w4.heap.size, 1, none⟩ = some (.slice ax2 n cx2) ∧ w'.cell? ⟨w.heap.size, 0, none⟩ = some v1 ∧ w'.cell? ⟨w.heap.size, 1, none⟩ = some v2)
    (first | (exact ⟨x0, x1, g0, g1⟩) | (exact ⟨cell_below hbA x0, cell_below hbA x1, cell_below hbA g0, cell_below hbA g1⟩) | (exact ⟨cell_below hbB (cell_below hbA x0), cell_below hbB (cell_below hbA x1), cell_below hbB (cell_below hbA g0), cell_below hbB (cell_below hbA g1)⟩))
    ((first | (go_at_call 17; refine (toTrace_any lo _ _ nf fns n f _ ((unhide H1).below (by exact ((unhide T7).go (unhide BD)).below)) ((unhide H2).below (by exact ((unhide T7).go (unhide BD)).below)) hnf' hn' (unhide HNV)).mono ?_; rintro e wA ⟨⟨y1, y2, rfl, hy1, hy2⟩, hbA⟩) | (go_at_call 20; refine (eqTrace_any _ _ _ _ _ _ nf fns n f _ (((unhide HY1).below (unhide BD)).below hbA) (((unhide HY2).below (unhide BD)).below hbA) hy1 hy2).mono ?_; rintro e wB ⟨rfl, hbB⟩)))
  have BB : Hid (Below w7.heap.size w7 wB) := hide (((unhide BD).trans (hbA.mono (by simp))).trans (hbB.mono (by have := hbA.size; simpa using this)))
  have TB := hide ((unhide T7).go (unhide BB))
  have CB := hide ((unhide C7).trans ((unhide BB).mono (by omega)))
  have DB := hide ((unhide D7).trans ((unhide BB).mono (by omega)))
  have GB := hide ((unhide G7).below (unhide BB))
  have hzB : w4.heap.size ≤ wB.heap.size := (unhide DB).size
  have x0' := cell_below (unhide BB) x0
  have x1' := cell_below (unhide BB) x1
  clear x0 x1 g0 g1 hbA hbB hy1 hy2
  go_wp2_with fail
  refine (markTrace_any w3.heap.size w4.heap.size _ _ nf n _ ((unhide HK1).go (Betw.of_below _ _ (unhide DB))) ((unhide HK2).go (Betw.of_below _ _ (unhide DB))) hzB hnf' hn').mono ?_
  rintro e w8 ⟨⟨q, rfl, hq⟩, hb8⟩
  have L8 := hide (hb8.below (by have := unhide HL4; omega))
  have T8 := hide ((unhide TB).on (unhide L8) (unhide HL3))
  have C8 := hide ((unhide CB).trans (unhide L8))
  have G8 := hide (rows_betw (unhide GB) hb8 (by have := unhide HL5; omega))
  have hz8 : wB.heap.size ≤ w8.heap.size := hb8.size
  clear hb8 x0' x1' TB CB DB GB BB T7 C7 D7 G7 BD HY1 HY2 HK1 HK2
  have hqd : decide (q < 0) = false := by simpa using hq
  go_wp2_with fail
  refine (eqIntS_any _ _ _ _ _ _ _ (unhide G8) ((unhide HFW).below (unhide C8)) hnw).mono ?_
  rintro e w9 ⟨rfl, hb9⟩
  have T9 := hide ((unhide T8).go hb9)
  have C9 := hide ((unhide C8).trans (hb9.mono (by have := unhide HL4; omega)))
  have G9 := hide ((unhide G8).below hb9)
  have hz9 : w8.heap.size ≤ w9.heap.size := hb9.size
  clear hb9 T8 C8 G8 L8
  go_wp2_with fail
  refine (markIntS_any _ _ _ _ _ (unhide G9) hnw).mono ?_
  rintro e w10 ⟨⟨rfl, hfm⟩, hb10⟩
  have T10 := hide ((unhide T9).on hb10 (by have := unhide HL3; have := unhide HL4; have := unhide HL5; omega))
  have C10 := hide ((unhide C9).trans (hb10.mono (by have := unhide HL4; have := unhide HL5; omega)))
  have G10 := hide hfm
  have hz10 : w9.heap.size ≤ w10.heap.size := hb10.size
  clear hb10 T9 C9 G9 hfm
  go_wp2_with fail
  refine (heldIntS_any _ _ _ _ (unhide G10) hnw).mono ?_
  rintro e w11 ⟨he, hb11⟩
  subst he
  have T11 := hide ((unhide T10).go hb11)
  have C11 := hide ((unhide C10).trans (hb11.mono (by have := unhide HL4; omega)))
  have G11 := hide ((unhide G10).below hb11)
  have hz11 : w10.heap.size ≤ w11.heap.size := hb11.size
  clear hb11 T10 C10 G10
  have BDB := hide ((Below.refl w11.heap.size w11).drew)
  obtain ⟨x0, x1, y0, y1, y2, y3⟩ := (unhide T11).cells
  go_wp2_with fail
  go_region_held3 (fun w' => w'.cell? ⟨w.heap.size, 0, none⟩ = some v1 ∧ w'.cell? ⟨w.heap.size, 1, none⟩ = some v2 ∧ w'.cell? ⟨w.heap.size + 1, 0, none⟩ = some (.int .i64 s.kind) ∧ w'.cell? ⟨w.heap.size + 1, 1, none⟩ = some (.int .i64 s.fn) ∧ w'.cell? ⟨w.heap.size + 1, 2, none⟩ = some (.int .i64 s.line) ∧ w'.cell? ⟨w.heap.size + 1, 3, none⟩ = some (.string s.name))
    (first | (exact ((unhide T11).go (unhide BDB)).cells) | (exact (((unhide T11).go (unhide BDB)).go hbA).cells) | (exact ((((unhide T11).go (unhide BDB)).go hbA).go hbB).cells) | (exact (((((unhide T11).go (unhide BDB)).go hbA).go hbB).go hbC).cells))
    ((first | (go_at_call 17; refine (toTrace_any lo _ _ nf fns n f _ ((unhide H1).below (by exact ((unhide T11).go (unhide BDB)).below)) ((unhide H2).below (by exact ((unhide T11).go (unhide BDB)).below)) hnf' hn' (unhide HNV)).mono ?_; rintro e wC1 ⟨⟨s1, s2, rfl, hs1, hs2⟩, hbA⟩) | (go_at_call 36; refine (toStop_any s.kind s.fn s.line s.name _).mono ?_; rintro e wC2 ⟨rfl, hbB⟩) | (go_at_call 41; refine (implHits_any _ _ _ nf fns n f s _ (hs1.below hbB) (hs2.below hbB) hz hn').mono ?_; rintro e w13 ⟨⟨vh, lh, rfl, hoh, hlh, ha, hm, hc, rfl⟩, hbC⟩)))
  have hb13 : Below w11.heap.size w11 w13 := (unhide BDB).trans ((hbA.mono (by simp)).trans ((hbB.mono (by have := (unhide BDB).size; have := hbA.size; omega)).trans (hbC.mono (by have := (unhide BDB).size; have := hbA.size; have := hbB.size; omega))))
  obtain rfl : lh = lg := HitsIs.uniq hlh (unhide HST)
  have HFH := hide hoh.rows
  have T13 := hide ((unhide T11).go hb13)
  have C13 := hide ((unhide C11).trans (hb13.mono (by have := unhide HL4; have := unhide HL5; omega)))
  have G13 := hide ((unhide G11).below hb13)
  have hz13 : w11.heap.size ≤ w13.heap.size := hb13.size
  clear hb13 hbA hbB hbC T11 C11 G11 hlh hoh hs1 hs2 x0 x1 y0 y1 y2 y3 BDB
  go_wp2_with fail
  refine (eqIntS_any _ _ _ _ _ _ _ (unhide HFH) ((unhide HFW).below (unhide C13)) hnw).mono ?_
  rintro e w14 ⟨rfl, hb14⟩
  have T14 := hide ((unhide T13).go hb14)
  have G14 := hide ((unhide G13).below hb14)
  clear hb14 T13 C13 G13 HFH
  go_wp2_with fail
  refine (heldIntS_any _ _ _ _ (unhide G14) hnw).mono ?_
  rintro e w15 ⟨he, hb15⟩
  subst he
  have T15 := hide ((unhide T14).go hb15)
  clear hb15 T14 G14
  go_wp2
  go_ret
  exact ⟨rfl, (unhide T15).below⟩
end Go.Proofs.Ytoiacbdnkkolmab
