import Derived.Test.YtoiacbdnkkolmaaGEcz
import Derived.Test.YtoiacbdnkkolmaaE2z
import Derived.Deep.AppendLies
import Derived.Test.YtoiacbdnkkolmaaGEaz
import Derived.Deep.RegionHeld3
namespace Go.Proofs.Ytoiacbdnkkolmaa
open Go.RowKit

theorem info_test : (Try.prog.info? 133).map (fun i => (i.zero, i.size, i.bytes)) = some (some .nilFunc, 1, 8) := by kernel_rfl

/-- A slice of stops. -/
def StopsIn (w : World) (v : Value) (ns : Nat) (ss : Nat → Sp) : Prop :=
  ∃ a cap, v = .slice a ns cap ∧ ns ≤ maxLen ∧ ∀ i, i < ns → ∃ b o, a = some ⟨b, o, none⟩ ∧ w.cell? ⟨b, o + i * 4, none⟩ = some (.int .i64 (ss i).kind) ∧ w.cell? ⟨b, o + i * 4 + 1, none⟩ = some (.int .i64 (ss i).fn) ∧ w.cell? ⟨b, o + i * 4 + 2, none⟩ = some (.int .i64 (ss i).line) ∧ w.cell? ⟨b, o + i * 4 + 3, none⟩ = some (.string (ss i).name) ∧ (ss i).name.size ≤ maxLen

theorem StopsIn.below {w w' : World} {v : Value} {ns : Nat} {ss : Nat → Sp} (h : StopsIn w v ns ss) (hb : Below w.heap.size w w') : StopsIn w' v ns ss := by
  obtain ⟨a, cap, hv, hn, h⟩ := h
  refine ⟨a, cap, hv, hn, fun i hi => ?_⟩
  obtain ⟨b, o, e, h0, h1, h2, h3, h4⟩ := h i hi
  exact ⟨b, o, e, cell_below hb h0, cell_below hb h1, cell_below hb h2, cell_below hb h3, h4⟩

def TestsAt (B : Nat) (w : World) (tv mv : Value) (ns n : Nat) (f : Nat → M) (ss : Nat → Sp) : Prop := ∃ vs : Nat → Value, w.ownsRow B 133 1 tv ns ((List.range ns).map vs) ∧ ∀ i, i < ns → TestAt w (vs i) mv n f (ss i)

theorem TestsAt.below {B : Nat} {w w' : World} {tv mv : Value} {ns n : Nat} {f : Nat → M} {ss : Nat → Sp} (h : TestsAt B w tv mv ns n f ss) (hb : Below w.heap.size w w') : TestsAt B w' tv mv ns n f ss := by
  obtain ⟨vs, h1, h2⟩ := h
  exact ⟨vs, owns_below h1 hb, fun i hi => (h2 i hi).below hb⟩

theorem TestsAt.low {B B' : Nat} {w : World} {tv mv : Value} {ns n : Nat} {f : Nat → M} {ss : Nat → Sp} (h : TestsAt B w tv mv ns n f ss) (hB : B' ≤ B) : TestsAt B' w tv mv ns n f ss := by
  obtain ⟨vs, h1, h2⟩ := h
  exact ⟨vs, owns_low h1 hB, h2⟩

/-- What stopTests hands back. -/
def Tested (nf : Nat) (fns : Nat → ByteArray) (n : Nat) (f : Nat → M) (ns : Nat) (ss : Nat → Sp) (mv : Value) (B : Nat) (e : Ending) (w' : World) : Prop :=
  ∃ tv ok, e = .returned (.tuple #[tv, .bool ok]) ∧ (ok = true ↔ Sound nf fns n f ∧ ns ≤ 50 ∧ ∀ i, i < ns → StopIs (ss i)) ∧ (ok = true → TestsAt B w' tv mv ns n f ss) ∧ (∃ a m c, tv = .slice a m c)

theorem range_snoc (vs : Nat → Value) (v : Value) (k : Nat) : (List.range (k + 1)).map (fun i => if i = k then v else vs i) = (List.range k).map vs ++ [v] := by
  rw [List.range_succ, List.map_append]
  congr 1
  · exact List.map_congr_left fun i hi => by rw [if_neg (by have := List.mem_range.1 hi; omega)]
  · simp

set_option maxRecDepth 100000 in
set_option maxHeartbeats 4000000 in
theorem stopTests_any (lo : Nat) (v1 v2 sv : Value) (nf : Nat) (fns : Nat → ByteArray) (n : Nat) (f : Nat → M) (ns : Nat) (ss : Nat → Sp) (w : World) (h1 : StrsAt lo w v1 nf fns) (h2 : MomsAt lo w v2 n f) (h3 : StopsIn w sv ns ss) :
    Calls Try.prog 65 #[.agg #[v1, v2], sv] w fun e w' => Tested nf fns n f ns ss v2 w.heap.size e w' ∧ Below w.heap.size w w' := by
  have H1 := hide h1; clear h1
  have H2 := hide h2
  have H3 := hide h3
  obtain ⟨a2, cap2, rfl, hn2, -⟩ := h2
  obtain ⟨a3, cap3, rfl, hn3, -⟩ := h3
  unfold maxLen at hn2 hn3
  have T0 := hide (TrBox.new w v1 (.slice a2 n cap2))
  go_enter Try.func65, Try.ntmps65
  by_cases h50 : ns ≤ 50
  · have d1 : decide ((50 : Int) < (ns : Int)) = false := by simp; omega
    go_wp2_with fail
    refine (readTrace_any lo _ _ nf fns n f _ ((unhide H1).below (unhide T0).below) ((unhide H2).below (unhide T0).below)).mono ?_
    rintro e w1 ⟨⟨pv, c, m, rfl, ha, hp, pa, pn, pc, rfl⟩, hb1⟩
    have BA := hide (below_new w1 (.cells #[.int .i64 c, .int .i64 m] 70))
    have T1 := hide (((unhide T0).go hb1).go (unhide BA))
    clear hb1 T0
    by_cases hc : c = 0
    · have hS := ha.zero.1.1 hc
      have HS := hide hS
      have hm := ha.zero.2 hc
      have HP := hide ((hp hc).below (unhide BA))
      subst hm
      subst hc
      clear ha hp hS
      obtain ⟨i0, hi0, hz0, hz1, hz2⟩ := info_parts info_test
      obtain ⟨mc, hmc⟩ : ∃ mc, mc = madeCells #[Value.nilFunc] (ns * 1) := ⟨_, rfl⟩
      have hmk : ∀ w, (Instr.makeSlice 123 (.int .i64 0) (.int .i64 ns)).run Try.prog w = .ok (.slice (some ⟨w.heap.size, 0, none⟩) 0 ns) (w.alloc (.cells mc 133)) := fun w => by
        have hr := run_make (P := Try.prog) w 123 133 i0 _ Try.underlying123 hi0 hz0 .i64 .i64 0 ns (by omega) (by omega) (by rw [hz2]; omega) (by omega)
        rw [hmc, hr, hz1]
        simp
        try rfl
      go_upto_region 6 with fail
      generalize w1.alloc (.cells #[.int .i64 0, .int .i64 0] 70) = wp at T1 HP ⊢
      clear BA
      have hwl : w.heap.size + 1 ≤ wp.heap.size := (unhide T1).size
      have II := hide (And.intro hi0 (And.intro hz0 (And.intro hz1 hz2)))
      have HTM : Hid (TestsAt wp.heap.size (wp.alloc (.cells mc 133)) (.slice (some ⟨wp.heap.size, 0, none⟩) 0 ns) (.slice a2 n cap2) 0 n f ss) := hide ⟨fun _ => .nilFunc, World.ownsRow_made wp mc ns (Nat.le_refl _) (by unfold maxLen; omega) (by rw [hmc, size_madeCells]), fun i hi => absurd hi (Nat.not_lt_zero _)⟩
      have HBM := hide (below_new wp (.cells mc 133))
      clear hmc hi0 hz0 hz1 hz2
      go_upto_region 7 with fail
      generalize wp.alloc (.cells mc 133) = W0 at HTM HBM ⊢
      clear hmk
      obtain ⟨B, hB⟩ : ∃ B, B = wp.heap.size := ⟨_, rfl⟩
      have HB0 := hide (unhide HBM)
      rw [← hB] at HTM HB0
      rw [← hB]
      have HBE := hide hB
      clear HBM hB
      go_wp2_with fail
      go_loopg [8, 27] ns (fun gg tv i W => ∃ (k : Nat) (ta : Option Addr) (tc : Nat), k + gg = ns ∧ i = .int .i64 k ∧ tv = .slice ta k tc ∧ TestsAt B W tv (.slice a2 n cap2) k n f ss ∧ (∀ j, j < k → StopIs (ss j)) ∧ Below B wp W)
      case atStart => exact ⟨0, _, _, by omega, rfl, rfl, unhide HTM, fun j hj => absurd hj (Nat.not_lt_zero _), unhide HB0⟩
      case round =>
        clear HTM HB0
        obtain ⟨k, ta, tc, hk, rfl, rfl, ht, hst, hb⟩ := hrel
        have HTS := hide ht
        have HST := hide hst
        have HBP := hide hb
        have HX := hide ((unhide T1).go (by rw [unhide HBE] at hb; exact hb))
        have hwr : wp.heap.size ≤ wr.heap.size := hb.size
        have hBr : B ≤ wr.heap.size := Nat.le_trans (Nat.le_of_eq (unhide HBE)) hwr
        clear ht hst hb
        by_cases hlt : k < ns
        · obtain ⟨_, _, e, _, hv⟩ := (unhide H3).below (unhide HX).below
          cases e
          obtain ⟨bs, os, rfl, hc0, hc1, hc2, hc3, hzk⟩ := hv k hlt
          clear hv
          have hkn : (k : Int) < (ns : Int) := by omega
          have hkz : (0 : Int) ≤ (k : Int) := by omega
          have HBN := hide (below_new wr (.cells #[.int .i64 (ss k).kind, .int .i64 (ss k).fn, .int .i64 (ss k).line, .string (ss k).name] 52))
          have HBX := hide (heap_alloc_new wr (.cells #[.int .i64 (ss k).kind, .int .i64 (ss k).fn, .int .i64 (ss k).line, .string (ss k).name] 52))
          go_upto_region 10 with fail
          have HT3 := hide ((unhide HTS).below (unhide HBN))
          have HB3 : Hid (Below B wp (wr.alloc (.cells #[.int .i64 (ss k).kind, .int .i64 (ss k).fn, .int .i64 (ss k).line, .string (ss k).name] 52))) := hide ((unhide HBP).trans ((unhide HBN).mono (by omega)))
          have HX3 := hide ((unhide HX).go (unhide HBN))
          generalize wr.alloc (.cells #[.int .i64 (ss k).kind, .int .i64 (ss k).fn, .int .i64 (ss k).line, .string (ss k).name] 52) = W3 at HBX HT3 HB3 HX3 ⊢
          obtain ⟨xb, hxb⟩ : ∃ xb, xb = wr.heap.size := ⟨_, rfl⟩
          rw [← hxb] at HBX
          rw [← hxb]
          clear hxb hc0 hc1 hc2 hc3 HBN HTS HBP HX
          have y0 : W3.cell? ⟨xb, 0, none⟩ = some (.int .i64 (ss k).kind) := by rw [cell_of_row W3 xb 0 _ _ _ (unhide HBX)]; rfl
          have y1 : W3.cell? ⟨xb, 1, none⟩ = some (.int .i64 (ss k).fn) := by rw [cell_of_row W3 xb 1 _ _ _ (unhide HBX)]; rfl
          have y2 : W3.cell? ⟨xb, 2, none⟩ = some (.int .i64 (ss k).line) := by rw [cell_of_row W3 xb 2 _ _ _ (unhide HBX)]; rfl
          have y3 : W3.cell? ⟨xb, 3, none⟩ = some (.string (ss k).name) := by rw [cell_of_row W3 xb 3 _ _ _ (unhide HBX)]; rfl
          go_wp2_with fail
          refine (implStopOk_any (ss k).kind (ss k).fn (ss k).line (ss k).name _ hzk).mono ?_
          rintro e w4 ⟨⟨ok, rfl, hok⟩, hb4⟩
          have HT4 := hide ((unhide HT3).below hb4)
          have hsB : B ≤ W3.heap.size := Nat.le_trans (Nat.le_of_eq (unhide HBE)) (unhide HB3).size
          have HB4 := hide ((unhide HB3).trans (hb4.mono hsB))
          have HX4 := hide ((unhide HX3).go hb4)
          have x0 := cell_below hb4 y0
          have x1 := cell_below hb4 y1
          have x2 := cell_below hb4 y2
          have x3 := cell_below hb4 y3
          have HOK := hide hok
          clear hb4 hok HT3 HB3 HX3 HBX y0 y1 y2 y3 hsB
          cases ok with
          | false =>
            go_wp2_with fail
            go_ret2
            exact ⟨⟨_, false, rfl, ⟨fun h => absurd h Bool.false_ne_true, fun h => absurd ((unhide HOK).2 (h.2.2 k hlt)) Bool.false_ne_true⟩, fun h => absurd h Bool.false_ne_true, ⟨_, _, _, rfl⟩⟩, (unhide HX4).below⟩
          | true =>
            have HSK : Hid (StopIs (ss k)) := hide ((unhide HOK).1 rfl)
            have g1 := (unhide HX4).b1
            clear HOK
            go_upto_region 12 with fail
            go_wp2_with fail
            refine (testOf_any lo _ _ _ nf fns n f (ss k) _ ((unhide H2).below (unhide HX4).below) ((unhide HP).below (by have h := unhide HB4; rw [unhide HBE] at h; exact h)) (unhide HS) (unhide HSK)).mono ?_
            rintro e w5 ⟨⟨v, rfl, hv5⟩, hb5⟩
            have HT5 := hide ((unhide HT4).below hb5)
            have hs4 : B ≤ w4.heap.size := Nat.le_trans (Nat.le_of_eq (unhide HBE)) (unhide HB4).size
            have HB5 := hide ((unhide HB4).trans (hb5.mono hs4))
            have HV5 := hide hv5
            have hs5 : B ≤ w5.heap.size := Nat.le_trans hs4 hb5.size
            have HON := hide hv5.one
            obtain ⟨fg, lb, hvf⟩ := hv5.form
            subst hvf
            obtain ⟨vs, hown, hts⟩ := unhide HT5
            have HTT := hide hts
            have HA := hide (owns_below hown (below_new w5 (.cells #[.func (.func fg) #[] lb] 133)))
            have HNW : Hid (∀ j u, ([.func (.func fg) #[] lb] : List Value)[j]? = some u → (w5.alloc (.cells #[.func (.func fg) #[] lb] 133)).cell? ((⟨w5.heap.size, 0, none⟩ : Addr).add j) = some u) := hide (World.news_of_block (cs := #[.func (.func fg) #[] lb]) (t := 133) (fr := (0, 0)) (heap_alloc_new w5 _))
            clear hv5 hb5 hown hts x0 x1 x2 x3 g1 HT4 HB4 HX4
            go_wp2_with (at_builtin; refine wpList_append_lies _ (by rfl) _ _ _ (by rfl) B 133 i0 _ 1 8 Try.underlying123 (unhide II).1 (unhide II).2.1 (unhide II).2.2.1 (unhide II).2.2.2 rfl (by omega) (.slice ta k tc) k ((List.range k).map vs) (by rfl) (unhide HA) ⟨w5.heap.size, 0, none⟩ 1 1 [.func (.func fg) #[] lb] (by rfl) (by rfl) (unhide HNW) (by intro u hu; rw [List.mem_singleton.1 hu]; exact unhide HON) (by omega) (by unfold maxLen; omega) (by omega) (by simp; omega) (w5.heap.size + 1) (by simp) ?_; intro g2 cp2 w7 hown7 hgrow _ _; have HO7 := hide hown7; have HG7 := hide hgrow; clear hown7 hgrow)
            have hty : ∀ b, (Value.slice ta k tc).ownBlock = some b → B ≤ b ∧ ∃ cs fr, (w5.alloc (.cells #[.func (.func fg) #[] lb] 133)).heap[b]? = some (.cells cs 133 fr) := owns_typed (unhide HA)
            have hkeep : ∀ b, b < w5.heap.size → (∀ cs fr, w5.heap[b]? ≠ some (.cells cs 133 fr)) → w7.heap[b]? = w5.heap[b]? := fun b hb hn => by
              rw [(unhide HG7).block b (by simp; omega) (fun e => by
                obtain ⟨-, cs, fr, h⟩ := hty b e.symm
                rw [Below.heap_alloc _ _ _ hb] at h
                exact hn cs fr h), Below.heap_alloc _ _ _ hb]
            have HT7 : Hid (TestsAt B w7 (.slice (some ⟨g2, 0, none⟩) (k + 1) cp2) (.slice a2 n cap2) (k + 1) n f ss) := hide ⟨fun i => if i = k then .func (.func fg) #[] lb else vs i, by rw [range_snoc]; exact unhide HO7, fun i hi => by
              dsimp only
              by_cases e : i = k
              · rw [if_pos e, e]; exact (unhide HV5).grown hkeep
              · rw [if_neg e]; exact (unhide HTT i (by omega)).grown hkeep⟩
            have HB7 : Hid (Below B wp w7) := hide (Below.grown ((unhide HB5).alloc hs5 _) (unhide HG7) (by simp; omega) (fun b e => (hty b e).1))
            clear hty hkeep HA HNW HTT HG7 HO7 HT5 HB5 HV5
            go_roundg (ns - (k + 1))
            case measure => omega
            case rel =>
              have hst' : ∀ j, j < k + 1 → StopIs (ss j) := fun j hj => by
                by_cases e : j = k
                · rw [e]; exact unhide HSK
                · exact unhide HST j (by omega)
              exact ⟨k + 1, _, _, by omega, by go_num, rfl, unhide HT7, hst', unhide HB7⟩
        · have e : ns = k := by omega
          subst e
          have hnk : ¬ ((ns : Int) < (ns : Int)) := by omega
          go_wp2_with fail
          go_ret2
          exact ⟨⟨_, true, rfl, ⟨fun _ => ⟨unhide HS, h50, unhide HST⟩, fun _ => rfl⟩, fun _ => (unhide HTS).low (by have := unhide HBE; omega), ⟨_, _, _, rfl⟩⟩, (unhide HX).below⟩
    · have HN : Hid (¬ Sound nf fns n f) := hide (fun h => hc (ha.zero.1.2 h))
      have hcb : (c == 0) = false := by simpa using hc
      clear ha hp hc
      go_wp2_with fail
      go_ret2
      exact ⟨⟨_, false, rfl, ⟨fun h => absurd h Bool.false_ne_true, fun h => absurd h.1 (unhide HN)⟩, fun h => absurd h Bool.false_ne_true, ⟨_, _, _, rfl⟩⟩, (unhide T1).below⟩
  · have d1 : decide ((50 : Int) < (ns : Int)) = true := by simp; omega
    have HN := hide h50
    clear h50
    go_wp2_with fail
    go_ret2
    exact ⟨⟨_, false, rfl, ⟨fun h => absurd h Bool.false_ne_true, fun h => absurd h.2.1 (unhide HN)⟩, fun h => absurd h Bool.false_ne_true, ⟨_, _, _, rfl⟩⟩, (unhide T0).below⟩
end Go.Proofs.Ytoiacbdnkkolmaa

namespace Go.Proofs.Ytoiacbdnkkolmaa
open Go.RowKit

theorem StopsIn.one {w : World} {b : Nat} {s : Sp} (h : w.heap[b]? = some (.cells #[.int .i64 s.kind, .int .i64 s.fn, .int .i64 s.line, .string s.name] 52 (0, 0))) (hz : s.name.size ≤ maxLen) : StopsIn w (.slice (some ⟨b, 0, none⟩) 1 1) 1 (fun _ => s) := by
  refine ⟨_, _, rfl, by unfold maxLen; omega, fun i hi => ⟨b, 0, rfl, ?_⟩⟩
  obtain rfl : i = 0 := by omega
  refine ⟨?_, ?_, ?_, ?_, hz⟩
  all_goals (rw [cell_of_row w b _ _ _ _ h]; rfl)

set_option maxRecDepth 100000 in
set_option maxHeartbeats 4000000 in
theorem implStopsAt_any (lo : Nat) (v1 v2 : Value) (nf : Nat) (fns : Nat → ByteArray) (n : Nat) (f : Nat → M) (s : Sp) (k : Int) (w : World) (h1 : StrsAt lo w v1 nf fns) (h2 : MomsAt lo w v2 n f) (hz : s.name.size ≤ maxLen) :
    Calls Try.prog 26 #[.agg #[v1, v2], .agg #[.int .i64 s.kind, .int .i64 s.fn, .int .i64 s.line, .string s.name], .int .i64 k] w fun e w' => SaysB (StopsSay nf fns n f s k) e ∧ Below w.heap.size w w' := by
  have H1 := hide h1; clear h1
  have H2 := hide h2
  obtain ⟨a2, cap2, rfl, hn2, -⟩ := h2
  unfold maxLen at hn2
  have HB0 := hide (TSBox.new w v1 (.slice a2 n cap2) s)
  go_enter Try.func26, Try.ntmps26
  go_upto_region 1 with fail
  have x0 := (unhide HB0).t0
  have x1 := (unhide HB0).t1
  have y0 := (unhide HB0).s0
  have y1 := (unhide HB0).s1
  have y2 := (unhide HB0).s2
  have y3 := (unhide HB0).s3
  generalize (w.alloc (.cells #[v1, .slice a2 n cap2] 26)).alloc (.cells #[.int .i64 s.kind, .int .i64 s.fn, .int .i64 s.line, .string s.name] 52) = W0 at HB0 x0 x1 y0 y1 y2 y3 ⊢
  have HBN := hide (below_new W0 (.cells #[.int .i64 s.kind, .int .i64 s.fn, .int .i64 s.line, .string s.name] 52))
  have HSI := hide (StopsIn.one (heap_alloc_new W0 (.cells #[.int .i64 s.kind, .int .i64 s.fn, .int .i64 s.line, .string s.name] 52)) hz)
  go_wp2_with fail
  have HB1 := hide ((unhide HB0).go (unhide HBN))
  refine (stopTests_any lo _ _ _ nf fns n f 1 (fun _ => s) _ ((unhide H1).below (unhide HB1).below) ((unhide H2).below (unhide HB1).below) (unhide HSI)).mono ?_
  rintro e w2 ⟨⟨tv, ok, rfl, hok, htt, ta, tm, tc, rfl⟩, hb2⟩
  have HB2 := hide ((unhide HB1).go hb2)
  clear hb2 HB1 HSI HBN HB0 x0 x1 y0 y1 y2 y3
  cases ok with
  | false =>
    have HN : Hid (¬ (Sound nf fns n f ∧ 1 ≤ 50 ∧ ∀ i, i < 1 → StopIs s)) := hide (fun h => by have := hok.2 h; cases this)
    clear hok htt
    go_wp2_with fail
    go_ret
    exact ⟨SaysB.no (fun h => unhide HN ⟨h.1, by omega, fun _ _ => h.2.1⟩), (unhide HB2).below⟩
  | true =>
    have HS := hide (hok.1 rfl)
    have HT := hide (htt rfl)
    have x0 := (unhide HB2).t0
    have x1 := (unhide HB2).t1
    clear hok htt
    by_cases hk0 : decide (0 ≤ k) = true
    · by_cases hk1 : decide (k < (n : Int)) = true
      · have hka : 0 ≤ k := of_decide_eq_true hk0
        have hkb : k < n := of_decide_eq_true hk1
        obtain ⟨q, hq⟩ := Int.eq_ofNat_of_zero_le hka
        subst hq
        have hqn : q < n := by omega
        obtain ⟨vs, hown, hts⟩ := unhide HT
        have hrow := hown
        rcases hrow.2 with ⟨_, h0⟩ | ⟨g, cap, cur, hv, hB, hg, _⟩
        · simp at h0
        cases hv
        have c0 := (owns_cell hown 0 (vs 0) rfl).1
        have ht := hts 0 (by omega)
        clear hts hown hrow hB hg
        generalize vs 0 = vt at c0 ht
        have HM := hide ((unhide H2).below (unhide HB2).below)
        have hfin : StopsSay nf fns n f s (q : Int) ↔ hit f s q = true := ⟨fun h => h.2.2.2.2, fun h => ⟨(unhide HS).1, (unhide HS).2.2 0 (by omega), hka, hkb, h⟩⟩
        have HF := hide hfin
        clear hfin
        rcases ht with ⟨e, mb, sb, rfl, p1, p2⟩ | ⟨e, mb, sb, rfl, p1, p2⟩ | ⟨e, ib, b, rfl, p1, p2⟩ | ⟨e, mb, rfl, p1⟩
        · have P1 := hide p1; have P2 := hide p2; have E1 := hide e
          clear p1 p2 e
          go_wp2_with fail
          refine (test1_any lo mb sb _ n f s q _ hqn (unhide E1) (unhide P1) (unhide HM) (unhide P2)).mono ?_
          rintro e w3 ⟨rfl, hb3⟩
          have HB3 := hide ((unhide HB2).go hb3)
          go_wp2_with fail
          go_ret
          exact ⟨⟨_, rfl, (unhide HF).symm⟩, (unhide HB3).below⟩
        · have P1 := hide p1; have P2 := hide p2; have E1 := hide e
          clear p1 p2 e
          go_wp2_with fail
          refine (test2_any lo mb sb _ n f s q _ hqn (unhide E1) (unhide P1) (unhide HM) (unhide P2)).mono ?_
          rintro e w3 ⟨rfl, hb3⟩
          have HB3 := hide ((unhide HB2).go hb3)
          go_wp2_with fail
          go_ret
          exact ⟨⟨_, rfl, (unhide HF).symm⟩, (unhide HB3).below⟩
        · have P1 := hide p1; have P2 := hide p2; have E1 := hide e
          clear p1 p2 e
          go_wp2_with fail
          refine (test3_any ib b n f s q _ hqn (unhide E1) (unhide P1) (unhide P2)).mono ?_
          rintro e w3 ⟨rfl, hb3⟩
          have HB3 := hide ((unhide HB2).go hb3)
          go_wp2_with fail
          go_ret
          exact ⟨⟨_, rfl, (unhide HF).symm⟩, (unhide HB3).below⟩
        · have P1 := hide p1; have E1 := hide e
          clear p1 e
          go_wp2_with fail
          refine (test4_any lo mb _ n f s q _ hqn (unhide E1) (unhide P1) (unhide HM)).mono ?_
          rintro e w3 ⟨rfl, hb3⟩
          have HB3 := hide ((unhide HB2).go hb3)
          go_wp2_with fail
          go_ret
          exact ⟨⟨_, rfl, (unhide HF).symm⟩, (unhide HB3).below⟩
      · have hk1 : decide (k < (n : Int)) = false := Bool.of_not_eq_true hk1
        go_wp2_with fail
        go_ret
        exact ⟨SaysB.no (fun h => by have := of_decide_eq_false hk1; have := h.2.2.2.1; omega), (unhide HB2).below⟩
    · have hk0 : decide (0 ≤ k) = false := Bool.of_not_eq_true hk0
      go_wp2_with fail
      go_ret
      exact ⟨SaysB.no (fun h => by have := of_decide_eq_false hk0; have := h.2.2.1; omega), (unhide HB2).below⟩
end Go.Proofs.Ytoiacbdnkkolmaa

namespace Go.Proofs.Ytoiacbdnkkolmaa
open Go.RowKit Go.Lib

/-- One of the stops holds at moment k. -/
def anyOf (f : Nat → M) (ns : Nat) (ss : Nat → Sp) (k : Nat) : Bool := decide (∃ i, i < ns ∧ hit f (ss i) k = true)

theorem anyOf_no {f : Nat → M} {ns : Nat} {ss : Nat → Sp} {k : Nat} (h : ∀ i, i < ns → hit f (ss i) k = false) : anyOf f ns ss k = false := by
  unfold anyOf
  simp only [decide_eq_false_iff_not]
  rintro ⟨i, hi, e⟩
  rw [h i hi] at e
  cases e

theorem anyOf_yes {f : Nat → M} {ns : Nat} {ss : Nat → Sp} {k i : Nat} (hi : i < ns) (h : hit f (ss i) k = true) : anyOf f ns ss k = true := by
  unfold anyOf
  simp only [decide_eq_true_eq]
  exact ⟨i, hi, h⟩

/-- What l3good says. -/
def GoodStops (nf : Nat) (fns : Nat → ByteArray) (n : Nat) (f : Nat → M) (ns : Nat) (ss : Nat → Sp) (k : Int) : Prop := Sound nf fns n f ∧ (-1 ≤ k ∧ k ≤ (n : Int)) ∧ ns ≤ 50 ∧ ∀ i, i < ns → StopIs (ss i)

/-- The hits of each stop, spec's way. -/
def HitsAt (B : Nat) (W : World) (hv : Value) (ns n : Nat) (f : Nat → M) (ss : Nat → Sp) : Prop := ∃ bs : Nat → Nat, W.ownsRow B 107 1 hv ns ((List.range ns).map fun i => .slice (some ⟨bs i, 0, none⟩) n n) ∧ ∀ i, i < ns → Bools (bs i) W n (hit f (ss i))

theorem HitsAt.below {B : Nat} {w w' : World} {hv : Value} {ns n : Nat} {f : Nat → M} {ss : Nat → Sp} (h : HitsAt B w hv ns n f ss) (hb : Below w.heap.size w w') : HitsAt B w' hv ns n f ss := by
  obtain ⟨bs, h1, h2⟩ := h
  exact ⟨bs, owns_below h1 hb, fun i hi => (h2 i hi).below hb⟩

theorem HitsAt.at {B : Nat} {w : World} {hv : Value} {ns n : Nat} {f : Nat → M} {ss : Nat → Sp} (h : HitsAt B w hv ns n f ss) (hn : 0 < ns) : ∃ g cap, hv = .slice (some ⟨g, 0, none⟩) ns cap := by
  obtain ⟨bs, h1, -⟩ := h
  rcases h1.2 with ⟨h, h0⟩ | ⟨g, cap, cur, hv, -⟩
  · omega
  · exact ⟨g, cap, hv⟩

end Go.Proofs.Ytoiacbdnkkolmaa

namespace Go.Proofs.Ytoiacbdnkkolmaa
open Go.RowKit Go.Lib

theorem info_bools : (Try.prog.info? 107).map (fun i => (i.zero, i.size, i.bytes)) = some (some (.slice none 0 0), 1, 24) := by kernel_rfl

end Go.Proofs.Ytoiacbdnkkolmaa

namespace Go.Proofs.Ytoiacbdnkkolmaa
open Go.RowKit Go.Lib

/-- The first moment behind place k, n when there is none. -/
def NextIs (n : Nat) (P : Nat → Bool) (k z : Int) : Prop := (∃ j : Nat, z = j ∧ k < (j : Int) ∧ j < n ∧ P j = true ∧ ∀ i : Nat, k < (i : Int) → i < j → P i = false) ∨ (z = n ∧ ∀ i : Nat, k < (i : Int) → i < n → P i = false)

theorem NextIs.uniq {n : Nat} {P : Nat → Bool} {k z z' : Int} (h : NextIs n P k z) (h' : NextIs n P k z') : z = z' := by
  rcases h with ⟨j, rfl, h1, h2, h3, h4⟩ | ⟨rfl, h4⟩ <;> rcases h' with ⟨j', rfl, h1', h2', h3', h4'⟩ | ⟨rfl, h4'⟩
  · rcases Nat.lt_trichotomy j j' with h | h | h
    · have := h4' j h1 h; rw [h3] at this; cases this
    · rw [h]
    · have := h4 j' h1' h; rw [h3'] at this; cases this
  · have := h4' j h1 h2; rw [h3] at this; cases this
  · have := h4 j' h1' h2'; rw [h3'] at this; cases this
  · rfl

/-- The last moment ahead of place k, -1 when there is none. -/
def LastIs (P : Nat → Bool) (k z : Int) : Prop := (∃ j : Nat, z = j ∧ (j : Int) < k ∧ P j = true ∧ ∀ i : Nat, j < i → (i : Int) < k → P i = false) ∨ (z = -1 ∧ ∀ i : Nat, (i : Int) < k → P i = false)

theorem LastIs.uniq {P : Nat → Bool} {k z z' : Int} (h : LastIs P k z) (h' : LastIs P k z') : z = z' := by
  rcases h with ⟨j, rfl, h1, h3, h4⟩ | ⟨rfl, h4⟩ <;> rcases h' with ⟨j', rfl, h1', h3', h4'⟩ | ⟨rfl, h4'⟩
  · rcases Nat.lt_trichotomy j j' with h | h | h
    · have := h4 j' h h1'; rw [h3'] at this; cases this
    · rw [h]
    · have := h4' j h h1; rw [h3] at this; cases this
  · have := h4' j h1; rw [h3] at this; cases this
  · have := h4 j' h1'; rw [h3'] at this; cases this
  · rfl

end Go.Proofs.Ytoiacbdnkkolmaa

namespace Go.Proofs.Ytoiacbdnkkolmaa
open Go.RowKit Go.Lib

/-- What Next answers. -/
def NextSay (nf : Nat) (fns : Nat → ByteArray) (n : Nat) (f : Nat → M) (ns : Nat) (ss : Nat → Sp) (k : Int) (e : Ending) : Prop :=
  (GoodStops nf fns n f ns ss k ∧ ∃ z, e = .returned (.int .i64 z) ∧ NextIs n (anyOf f ns ss) k z) ∨ (¬ GoodStops nf fns n f ns ss k ∧ e = .returned (.int .i64 (-2)))

def LastSay (nf : Nat) (fns : Nat → ByteArray) (n : Nat) (f : Nat → M) (ns : Nat) (ss : Nat → Sp) (k : Int) (e : Ending) : Prop :=
  (GoodStops nf fns n f ns ss k ∧ ∃ z, e = .returned (.int .i64 z) ∧ LastIs (anyOf f ns ss) k z) ∨ (¬ GoodStops nf fns n f ns ss k ∧ e = .returned (.int .i64 (-2)))

end Go.Proofs.Ytoiacbdnkkolmaa
