import Derived.Test.YtoiacbdnkkolmaaA4z
import Derived.Test.YtoiacbdnkkolmaaGIdz
import Derived.Test.YtoiacbdnkkolmaaGScz
namespace Go.Proofs.Ytoiacbdnkkolmaa
open Go.RowKit

set_option maxRecDepth 100000 in
set_option maxHeartbeats 1000000 in
theorem implTraceOk_any (lo : Nat) (v1 v2 : Value) (nf : Nat) (fns : Nat → ByteArray) (n : Nat) (f : Nat → M) (w : World) (h1 : StrsAt lo w v1 nf fns) (h2 : MomsAt lo w v2 n f) :
    Calls Try.prog 39 #[.agg #[v1, v2]] w fun e w' => SaysF nf fns n f e ∧ Below w.heap.size w w' := by
  have H1 := hide h1; clear h1
  have H2 := hide h2; clear h2
  have T0 : Hid (Two w v1 v2 ((w.alloc (.cells #[v1, v2] 26)).alloc (.cells #[.int .i64 0, .int .i64 0] 70))) := hide (Below.refl _ _)
  go_enter Try.func39, Try.ntmps39
  go_wp2_with fail
  refine (readTrace_any lo _ _ nf fns n f _ ((unhide H1).below (unhide T0).below) ((unhide H2).below (unhide T0).below)).mono ?_
  rintro e w1 ⟨⟨v', c, m, rfl, ha, -, a, l, cp, rfl⟩, hb1⟩
  have T1 := hide ((unhide T0).go hb1); clear hb1 T0
  have HA := hide ha; clear ha
  have BA := hide ((Below.refl w1.heap.size w1).alloc (Nat.le_refl _) (.cells #[.int .i64 c, .int .i64 m] 70))
  have T2 := hide ((unhide T1).go (unhide BA))
  have g2 := (unhide T2).r0
  have g3 := (unhide T2).r1
  have g4 := (unhide T2).f0
  have g5 := (unhide T2).f1
  go_wp2
  refine bodyPost_ret (v := .agg #[.int .i64 c, .int .i64 m]) (by simp [results, Try.results39, go_sem, g2, g3]) rfl ⟨⟨_, _, rfl, unhide HA⟩, ?_⟩
  repeat (refine Below.setCell ?_ (by simp) _)
  exact (unhide T2).below

/-- The law's own box of its argument stands as it was laid. -/
def LawBox (w : World) (v1 v2 : Value) (w' : World) : Prop := Below (w.heap.size + 1) (w.alloc (.cells #[v1, v2] 67)) w'

theorem LawBox.below {w w' : World} {v1 v2 : Value} (h : LawBox w v1 v2 w') : Below w.heap.size w w' := ((Below.refl _ _).alloc (Nat.le_refl _) _).trans (Below.mono h (by omega))
theorem LawBox.size {w w' : World} {v1 v2 : Value} (h : LawBox w v1 v2 w') : w.heap.size + 1 ≤ w'.heap.size := by
  have := Below.size h; simpa using this
theorem LawBox.go {w w' w'' : World} {v1 v2 : Value} (h : LawBox w v1 v2 w') (hb : Below w'.heap.size w' w'') : LawBox w v1 v2 w'' := Below.trans h (hb.mono h.size)
theorem LawBox.b0 {w w' : World} {v1 v2 : Value} (h : LawBox w v1 v2 w') : w'.cell? ⟨w.heap.size, 0, none⟩ = some v1 := by
  rw [Below.cell h (by simp), cell_alloc_at _ _ _ _ _ rfl]; rfl
theorem LawBox.b1 {w w' : World} {v1 v2 : Value} (h : LawBox w v1 v2 w') : w'.cell? ⟨w.heap.size, 1, none⟩ = some v2 := by
  rw [Below.cell h (by simp), cell_alloc_at _ _ _ _ _ rfl]; rfl

theorem below_alloc (w : World) (o : Obj) : Below w.heap.size w (w.alloc o) := (Below.refl _ _).alloc (Nat.le_refl _) o

set_option maxRecDepth 100000 in
set_option maxHeartbeats 2000000 in
theorem exactTraceOk_any (lo : Nat) (v1 v2 : Value) (nf : Nat) (fns : Nat → ByteArray) (n : Nat) (f : Nat → M) (w : World) (h1 : StrsAt lo w v1 nf fns) (h2 : MomsAt lo w v2 n f) :
    Calls Try.prog 9 #[.agg #[v1, v2]] w fun e w' => e = .returned (.bool true) ∧ Below w.heap.size w w' := by
  have H1 := hide h1; clear h1
  have H2 := hide h2; clear h2
  have T0 : Hid (LawBox w v1 v2 (w.alloc (.cells #[v1, v2] 67))) := hide (Below.refl _ _)
  go_enter Try.func9, Try.ntmps9
  go_wp2_with fail
  refine (szTrace_any lo _ _ nf fns n f _ _ ((unhide H1).below (unhide T0).below) ((unhide H2).below (unhide T0).below) (by omega) (by omega)).mono ?_
  rintro e w1 ⟨⟨r, rfl, hr1, hr2⟩, hb1⟩
  have T1 := hide ((unhide T0).go hb1); clear hb1 T0
  by_cases hr : r < 0
  · clear hr2
    go_wp2
    go_ret
    exact ⟨rfl, (unhide T1).below⟩
  obtain ⟨hnf, hn, hnv⟩ := hr2 (by omega)
  have HNV := hide hnv
  have hnf' : nf ≤ 1048576 := by omega
  have hn' : n ≤ 1048576 := by omega
  clear hr2 hnv hnf hn
  have g0 := (unhide T1).b0
  have g1 := (unhide T1).b1
  go_wp2_with fail
  refine (toTrace_any lo _ _ nf fns n f _ ((unhide H1).below (unhide T1).below) ((unhide H2).below (unhide T1).below) hnf' hn' (unhide HNV)).mono ?_
  rintro e w2 ⟨⟨s1, s2, rfl, hs1, hs2⟩, hb2⟩
  have T2 := hide ((unhide T1).go hb2); clear hb2 T1 g0 g1
  have HS1 := hide hs1
  have HS2 := hide hs2
  clear hs1 hs2
  go_wp2_with fail
  refine (specTraceOk_any _ _ _ nf fns n f _ (unhide HS1) (unhide HS2)).mono ?_
  rintro e w3 ⟨⟨c, m, rfl, ha⟩, hb3⟩
  have T3 := hide (((unhide T2).go hb3).go (below_alloc w3 (.cells #[.int .i64 c, .int .i64 m] 70)))
  have HA := hide ha
  clear hb3 ha T2 HS1 HS2
  have g0 := (unhide T3).b0
  have g1 := (unhide T3).b1
  have q0 : (w3.alloc (.cells #[.int .i64 c, .int .i64 m] 70)).cell? ⟨w3.heap.size, 0, none⟩ = some (.int .i64 c) := by rw [cell_alloc_at _ _ _ _ _ rfl]; rfl
  have q1 : (w3.alloc (.cells #[.int .i64 c, .int .i64 m] 70)).cell? ⟨w3.heap.size, 1, none⟩ = some (.int .i64 m) := by rw [cell_alloc_at _ _ _ _ _ rfl]; rfl
  have Q := hide (And.intro q0 q1)
  clear q0 q1
  go_wp2_with fail
  refine (toTrace_any lo _ _ nf fns n f _ ((unhide H1).below (unhide T3).below) ((unhide H2).below (unhide T3).below) hnf' hn' (unhide HNV)).mono ?_
  rintro e w4 ⟨⟨x1, x2, rfl, hx1, hx2⟩, hb4⟩
  have BA := hide (below_alloc w4 (.cells #[x1, x2] 26))
  have T4 := hide (((unhide T3).go hb4).go (unhide BA))
  have Q4 := hide (And.intro (cell_below (unhide BA) (cell_below hb4 (unhide Q).1)) (cell_below (unhide BA) (cell_below hb4 (unhide Q).2)))
  have HX1 := hide (hx1.below (unhide BA))
  have HX2 := hide (hx2.below (unhide BA))
  obtain ⟨ax1, cx1, rfl, -⟩ := hx1
  obtain ⟨ax2, cx2, rfl, -⟩ := hx2
  have x0 : (w4.alloc (.cells #[.slice ax1 nf cx1, .slice ax2 n cx2] 26)).cell? ⟨w4.heap.size, 0, none⟩ = some (.slice ax1 nf cx1) := by rw [cell_alloc_at _ _ _ _ _ rfl]; rfl
  have x1 : (w4.alloc (.cells #[.slice ax1 nf cx1, .slice ax2 n cx2] 26)).cell? ⟨w4.heap.size, 1, none⟩ = some (.slice ax2 n cx2) := by rw [cell_alloc_at _ _ _ _ _ rfl]; rfl
  have X4 := hide (And.intro x0 x1)
  clear x0 x1 hb4 T3 Q g0 g1
  go_wp2_with fail
  refine (implTraceOk_any _ _ _ nf fns n f _ (unhide HX1) (unhide HX2)).mono ?_
  rintro e w5 ⟨⟨c', m', rfl, ha'⟩, hb5⟩
  obtain ⟨ec, em⟩ := (unhide HA).unique ha'
  subst ec
  subst em
  have BB := hide (below_alloc w5 (.cells #[.int .i64 c, .int .i64 m] 70))
  have T5 := hide (((unhide T4).go hb5).go (unhide BB))
  have q0 := cell_below (unhide BB) (cell_below hb5 (unhide Q4).1)
  have q1 := cell_below (unhide BB) (cell_below hb5 (unhide Q4).2)
  have X5 := hide (And.intro (cell_below (unhide BB) (cell_below hb5 (unhide X4).1)) (cell_below (unhide BB) (cell_below hb5 (unhide X4).2)))
  have HY1 := hide (((unhide HX1).below hb5).below (unhide BB))
  have HY2 := hide (((unhide HX2).below hb5).below (unhide BB))
  clear ha' hb5 T4 Q4 X4 HX1 HX2 HA
  go_wp2_with fail
  refine (eqFault_any _ _ _).mono ?_
  rintro e w6 ⟨rfl, hb6⟩
  have T6 := hide ((unhide T5).go hb6)
  have x0 := cell_below hb6 (unhide X5).1
  have x1 := cell_below hb6 (unhide X5).2
  have HZ1 := hide ((unhide HY1).below hb6)
  have HZ2 := hide ((unhide HY2).below hb6)
  clear hb6 T5 X5 HY1 HY2 q0 q1
  have g0 := (unhide T6).b0
  have g1 := (unhide T6).b1
  have BD := hide ((Below.refl w6.heap.size w6).drew)
  go_wp2_with fail
  go_region_held3 (fun w' => w'.cell? ⟨w4.heap.size, 0, none⟩ = some (.slice ax1 nf cx1) ∧ w'.cell? ⟨w4.heap.size, 1, none⟩ = some (.slice ax2 n cx2) ∧ w'.cell? ⟨w.heap.size, 0, none⟩ = some v1 ∧ w'.cell? ⟨w.heap.size, 1, none⟩ = some v2)
    (first | (exact ⟨x0, x1, g0, g1⟩) | (exact ⟨cell_below hbA x0, cell_below hbA x1, cell_below hbA g0, cell_below hbA g1⟩) | (exact ⟨cell_below hbB (cell_below hbA x0), cell_below hbB (cell_below hbA x1), cell_below hbB (cell_below hbA g0), cell_below hbB (cell_below hbA g1)⟩))
    ((first | (go_at_call 38; refine (toTrace_any lo _ _ nf fns n f _ ((unhide H1).below (by exact ((unhide T6).go (unhide BD)).below)) ((unhide H2).below (by exact ((unhide T6).go (unhide BD)).below)) hnf' hn' (unhide HNV)).mono ?_; rintro e wA ⟨⟨y1, y2, rfl, hy1, hy2⟩, hbA⟩) | (go_at_call 41; refine (eqTrace_any _ _ _ _ _ _ nf fns n f _ (((unhide HZ1).below (unhide BD)).below hbA) (((unhide HZ2).below (unhide BD)).below hbA) hy1 hy2).mono ?_; rintro e wB ⟨rfl, hbB⟩)))
  go_wp2
  go_ret
  exact ⟨rfl, ((((unhide T6).go (unhide BD)).go hbA).go hbB).below⟩
end Go.Proofs.Ytoiacbdnkkolmaa

namespace Go.Proofs.Ytoiacbdnkkolmaa
open Go.RowKit

theorem field_running (a b c : Value) (w : World) : (Instr.field 100 (.agg #[a, b, c]) 0).run Try.prog w = .ok a w := by kernel_rfl

def Running (nf : Nat) (fns : Nat → ByteArray) (n : Nat) (f : Nat → M) (k : Int) (e : Ending) : Prop :=
  (Sound nf fns n f ∧ (-1 ≤ k ∧ k ≤ n) ∧ e = .returned (.int .i64 (St.after f (upto n k)).cur)) ∨ (¬ (Sound nf fns n f ∧ (-1 ≤ k ∧ k ≤ n)) ∧ e = .returned (.int .i64 (-1)))

set_option maxRecDepth 100000 in
set_option maxHeartbeats 1000000 in
theorem specRunningAt_any (lo : Nat) (v1 v2 : Value) (nf : Nat) (fns : Nat → ByteArray) (n : Nat) (f : Nat → M) (k : Int) (w : World) (h1 : StrsAt lo w v1 nf fns) (h2 : MomsAt lo w v2 n f) :
    Calls Try.prog 29 #[.agg #[v1, v2], .int .i64 k] w fun e w' => Running nf fns n f k e ∧ Below w.heap.size w w' := by
  have H1 := hide h1; clear h1
  have H2 := hide h2; clear h2
  have T0 := hide (TrBox.new w v1 v2)
  go_enter Try.func29, Try.ntmps29
  go_wp2_with fail
  refine (l1ok_any lo _ _ nf fns n f _ ((unhide H1).below (unhide T0).below) ((unhide H2).below (unhide T0).below)).mono ?_
  rintro e w1 ⟨⟨b, rfl, hb⟩, hb1⟩
  have T1 := hide ((unhide T0).go hb1); clear hb1 T0
  cases b with
  | false =>
    have HS : Hid (¬ Sound nf fns n f) := hide (fun h => by simp [h] at hb)
    clear hb
    go_wp2
    go_ret
    exact ⟨.inr ⟨fun h => unhide HS h.1, rfl⟩, (unhide T1).below⟩
  | true =>
    have HS : Hid (Sound nf fns n f) := hide (by simpa using hb)
    clear hb
    have g0 := (unhide T1).b0
    have g1 := (unhide T1).b1
    go_wp2_with fail
    refine (l1place_any lo _ _ n f k _ ((unhide H2).below (unhide T1).below)).mono ?_
    rintro e w2 ⟨rfl, hb2⟩
    have T2 := hide ((unhide T1).go hb2); clear hb2 T1 g0 g1
    by_cases hk : -1 ≤ k ∧ k ≤ (n : Int)
    · have hkb : decide (-1 ≤ k ∧ k ≤ (n : Int)) = true := by simpa using hk
      rw [hkb]
      clear hkb
      have HK := hide hk; clear hk
      have g0 := (unhide T2).b0
      have g1 := (unhide T2).b1
      go_wp2_with fail
      refine (l1stand_any lo _ _ nf fns n f k _ ((unhide H2).below (unhide T2).below) (unhide HS) (unhide HK).1 (unhide HK).2).mono ?_
      rintro e w3 ⟨⟨ps, rfl, hsp⟩, hb3⟩
      have T3 := hide ((unhide T2).go hb3)
      obtain ⟨bt, V, hc⟩ := hsp
      have c1 := hc.c1
      clear hc hb3
      go_wp2
      go_ret
      exact ⟨.inl ⟨unhide HS, unhide HK, rfl⟩, (unhide T3).below⟩
    · have hkb : decide (-1 ≤ k ∧ k ≤ (n : Int)) = false := by simpa using hk
      rw [hkb]
      clear hkb
      have HK := hide hk; clear hk
      go_wp2
      go_ret
      exact ⟨.inr ⟨fun h => unhide HK h.2, rfl⟩, (unhide T2).below⟩

set_option maxHeartbeats 1000000 in
theorem isPlace_any (lo : Nat) (v1 v2 : Value) (n : Nat) (f : Nat → M) (k : Int) (w : World) (h2 : MomsAt lo w v2 n f) :
    Calls Try.prog 61 #[.agg #[v1, v2], .int .i64 k] w fun e w' => e = .returned (.bool (decide (-1 ≤ k ∧ k ≤ (n : Int)))) ∧ Below w.heap.size w w' := by
  obtain ⟨a2, cap2, rfl, hn2, -⟩ := h2
  unfold maxLen at hn2
  by_cases h1 : -1 ≤ k
  · by_cases h2 : k ≤ (n : Int)
    · have e : decide (-1 ≤ k ∧ k ≤ (n : Int)) = true := by simp [h1, h2]
      rw [e]; clear e
      go_enter Try.func61, Try.ntmps61
      go_wp2
      go_ret
      exact ⟨rfl, below_new _ _⟩
    · have e : decide (-1 ≤ k ∧ k ≤ (n : Int)) = false := by simp [h1, h2]
      rw [e]; clear e
      go_enter Try.func61, Try.ntmps61
      go_wp2
      go_ret
      exact ⟨rfl, below_new _ _⟩
  · have e : decide (-1 ≤ k ∧ k ≤ (n : Int)) = false := by simp [h1]
    rw [e]; clear e
    go_enter Try.func61, Try.ntmps61
    go_wp2
    go_ret
    exact ⟨rfl, below_new _ _⟩

set_option maxRecDepth 100000 in
set_option maxHeartbeats 1000000 in
theorem placeAt_any (lo : Nat) (v : Value) (n : Nat) (f : Nat → M) (k : Int) (w : World) (h : PlacesAt lo w v n f) (hn : n ≤ 3000) (hk1 : -1 ≤ k) (hk2 : k ≤ n) :
    Calls Try.prog 52 #[v, .int .i64 k] w fun e w' => (∃ top bw, e = .returned (.agg #[.int .i64 (St.after f (upto n k)).cur, .pointer top, .pointer (some ⟨bw, 0, none⟩)]) ∧ PlaceAt w' (St.after f (upto n k)) top bw) ∧ Below w.heap.size w w' := by
  obtain ⟨xs, ho, hp⟩ := h
  obtain ⟨top, bw, x0, x1, x2, pl⟩ := hp (upto n k) (by unfold upto; omega)
  have ho' := ho
  rcases ho.2 with ⟨_, h0⟩ | ⟨g, cap, cur, rfl, _⟩
  · omega
  have c0 := (owns_cell ho' _ _ x0).1
  have c1 := (owns_cell ho' _ _ x1).1
  have c2 := (owns_cell ho' _ _ x2).1
  have PL := hide pl
  clear ho ho' hp x0 x1 x2 pl
  have BA := hide (below_new w (.cells #[.int .i64 0, .pointer none, .pointer none] 100))
  have c0 := cell_below (unhide BA) c0
  have c1 := cell_below (unhide BA) c1
  have c2 := cell_below (unhide BA) c2
  by_cases hk : k = n
  · subst hk
    have e : upto n (n : Int) = n := by unfold upto; omega
    rw [e] at c0 c1 c2 PL ⊢
    clear e
    generalize (St.after f n).cur = cur' at *
    have hu2 : (n : Int) < (n : Int) + 1 := by omega
    have hu3 : (0 : Int) ≤ (n : Int) := by omega
    go_enter Try.func52, Try.ntmps52
    go_wp2
    refine bodyPost_ret (v := .agg #[.int .i64 cur', .pointer top, .pointer (some ⟨bw, 0, none⟩)]) (by simp [results, Try.results52, go_sem]) rfl ⟨⟨top, bw, rfl, (unhide PL).below (below_new _ _)⟩, below_new _ _⟩
  · obtain ⟨u, rfl⟩ : ∃ u : Nat, k = (u : Int) - 1 := ⟨(k + 1).toNat, by omega⟩
    have e : upto n ((u : Int) - 1) = u := by unfold upto; omega
    rw [e] at c0 c1 c2 PL ⊢
    clear e
    generalize (St.after f u).cur = cur' at *
    have hu2 : (u : Int) < (n : Int) + 1 := by omega
    have hu3 : (0 : Int) ≤ (u : Int) := by omega
    have hu4 : (u : Int) ≤ (n : Int) := by omega
    clear hk
    go_enter Try.func52, Try.ntmps52
    go_wp2
    refine bodyPost_ret (v := .agg #[.int .i64 cur', .pointer top, .pointer (some ⟨bw, 0, none⟩)]) (by simp [results, Try.results52, go_sem]) rfl ⟨⟨top, bw, rfl, (unhide PL).below (below_new _ _)⟩, below_new _ _⟩

set_option maxRecDepth 100000 in
set_option maxHeartbeats 1000000 in
theorem implRunningAt_any (lo : Nat) (v1 v2 : Value) (nf : Nat) (fns : Nat → ByteArray) (n : Nat) (f : Nat → M) (k : Int) (w : World) (h1 : StrsAt lo w v1 nf fns) (h2 : MomsAt lo w v2 n f) :
    Calls Try.prog 18 #[.agg #[v1, v2], .int .i64 k] w fun e w' => Running nf fns n f k e ∧ Below w.heap.size w w' := by
  have H1 := hide h1; clear h1
  have H2 := hide h2; clear h2
  have T0 := hide (TrBox.new w v1 v2)
  go_enter Try.func18, Try.ntmps18
  go_wp2_with fail
  refine (readTrace_any lo _ _ nf fns n f _ ((unhide H1).below (unhide T0).below) ((unhide H2).below (unhide T0).below)).mono ?_
  rintro e w1 ⟨⟨pv, c, m, rfl, ha, hp, pa, pn, pc, rfl⟩, hb1⟩
  have BA := hide (below_new w1 (.cells #[.int .i64 c, .int .i64 m] 70))
  have T1 := hide (((unhide T0).go hb1).go (unhide BA))
  clear hb1 T0
  by_cases hc : c = 0
  · have HS := hide (ha.zero.1.1 hc)
    have hm := ha.zero.2 hc
    have HP := hide ((hp hc).below (unhide BA))
    subst hm
    subst hc
    clear ha hp
    have g0 := (unhide T1).b0
    have g1 := (unhide T1).b1
    go_wp2_with fail
    refine (isPlace_any lo _ _ n f k _ ((unhide H2).below (unhide T1).below)).mono ?_
    rintro e w2 ⟨rfl, hb2⟩
    have HP2 := hide ((unhide HP).below hb2)
    have T2 := hide ((unhide T1).go hb2); clear hb2 T1 g0 g1 HP
    by_cases hk : -1 ≤ k ∧ k ≤ (n : Int)
    · have hkb : decide (-1 ≤ k ∧ k ≤ (n : Int)) = true := by simpa using hk
      rw [hkb]
      clear hkb
      have HK := hide hk; clear hk
      go_wp2_with fail
      refine (placeAt_any _ _ n f k _ (unhide HP2) (unhide HS).1.2.2.1 (unhide HK).1 (unhide HK).2).mono ?_
      rintro e w3 ⟨⟨top, bw, rfl, hpl⟩, hb3⟩
      have T3 := hide ((unhide T2).go hb3)
      clear hb3 hpl
      have hfd := field_running
      go_wp2
      go_ret
      exact ⟨.inl ⟨unhide HS, unhide HK, rfl⟩, (unhide T3).below⟩
    · have hkb : decide (-1 ≤ k ∧ k ≤ (n : Int)) = false := by simpa using hk
      rw [hkb]
      clear hkb
      have HK := hide hk; clear hk
      go_wp2
      go_ret
      exact ⟨.inr ⟨fun h => unhide HK h.2, rfl⟩, (unhide T2).below⟩
  · have HS : Hid (¬ Sound nf fns n f) := hide (fun h => hc (ha.zero.1.2 h))
    have hcb : (c == 0) = false := by simpa using hc
    clear ha hp hc
    go_wp2
    go_ret
    exact ⟨.inr ⟨fun h => unhide HS h.1, rfl⟩, (unhide T1).below⟩
end Go.Proofs.Ytoiacbdnkkolmaa
