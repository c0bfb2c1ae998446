import Derived.Test.YtjhfdjdmiombpabE13
import Derived.Test.YtjhfdjdmiombpabE7
namespace Go.Proofs.Ytjhfdjdmiombpab
open Go.RowKit

theorem StopsIn.one {w : World} {b : Nat} {s : Sp} (h : w.heap[b]? = some (.cells #[.int .i64 s.kind, .int .i64 s.fn, .int .i64 s.line, .string s.name] 50 (0, 0))) (hz : s.name.size ≤ maxLen) : StopsIn w (.slice (some ⟨b, 0, none⟩) 1 1) 1 (fun _ => s) := by
  refine ⟨_, _, rfl, by unfold maxLen; omega, fun i hi => ⟨b, 0, rfl, ?_⟩⟩
  obtain rfl : i = 0 := by omega
  refine ⟨?_, ?_, ?_, ?_, hz⟩
  all_goals (rw [cell_of_row w b _ _ _ _ h]; rfl)

set_option maxRecDepth 100000 in
set_option maxHeartbeats 4000000 in
theorem implStopsAt_any (lo : Nat) (v1 v2 : Value) (nf : Nat) (fns : Nat → ByteArray) (n : Nat) (f : Nat → M) (s : Sp) (k : Int) (w : World) (h1 : StrsAt lo w v1 nf fns) (h2 : MomsAt lo w v2 n f) (hz : s.name.size ≤ maxLen) :
    Calls Try.prog 39 #[.agg #[v1, v2], .agg #[.int .i64 s.kind, .int .i64 s.fn, .int .i64 s.line, .string s.name], .int .i64 k] w fun e w' => SaysB (StopsSay nf fns n f s k) e ∧ Below w.heap.size w w' := by
  have H1 := hide h1; clear h1
  have H2 := hide h2
  obtain ⟨a2, cap2, rfl, hn2, -⟩ := h2
  unfold maxLen at hn2
  have HB0 := hide (TSBox.new w v1 (.slice a2 n cap2) s)
  go_enter Try.func39, Try.ntmps39
  go_upto_region 1 with fail
  have x0 := (unhide HB0).t0
  have x1 := (unhide HB0).t1
  have y0 := (unhide HB0).s0
  have y1 := (unhide HB0).s1
  have y2 := (unhide HB0).s2
  have y3 := (unhide HB0).s3
  generalize (w.alloc (.cells #[v1, .slice a2 n cap2] 31)).alloc (.cells #[.int .i64 s.kind, .int .i64 s.fn, .int .i64 s.line, .string s.name] 50) = W0 at HB0 x0 x1 y0 y1 y2 y3 ⊢
  have HBN := hide (below_new W0 (.cells #[.int .i64 s.kind, .int .i64 s.fn, .int .i64 s.line, .string s.name] 50))
  have HSI := hide (StopsIn.one (heap_alloc_new W0 (.cells #[.int .i64 s.kind, .int .i64 s.fn, .int .i64 s.line, .string s.name] 50)) hz)
  go_wp2_with fail
  have HB1 := hide ((unhide HB0).go (unhide HBN))
  refine (stopTests_any lo _ _ _ nf fns n f 1 (fun _ => s) _ ((unhide H1).below (unhide HB1).below) ((unhide H2).below (unhide HB1).below) (unhide HSI)).mono ?_
  rintro e w2 ⟨⟨tv, ok, rfl, hok, htt, ta, tm, tc, rfl⟩, hb2⟩
  have HB2 := hide ((unhide HB1).go hb2)
  clear hb2 HB1 HSI HBN HB0 x0 x1 y0 y1 y2 y3
  cases ok with
  | false =>
    have HN : Hid (¬ (Sound nf fns n f ∧ 1 ≤ 50 ∧ ∀ i, i < 1 → StopIs s)) := hide (fun h => by have := hok.2 h; cases this)
    clear hok htt
    go_wp2_with fail
    go_ret
    exact ⟨SaysB.no (fun h => unhide HN ⟨h.1, by omega, fun _ _ => h.2.1⟩), (unhide HB2).below⟩
  | true =>
    have HS := hide (hok.1 rfl)
    have HT := hide (htt rfl)
    have x0 := (unhide HB2).t0
    have x1 := (unhide HB2).t1
    clear hok htt
    by_cases hk0 : decide (0 ≤ k) = true
    · by_cases hk1 : decide (k < (n : Int)) = true
      · have hka : 0 ≤ k := of_decide_eq_true hk0
        have hkb : k < n := of_decide_eq_true hk1
        obtain ⟨q, hq⟩ := Int.eq_ofNat_of_zero_le hka
        subst hq
        have hqn : q < n := by omega
        obtain ⟨vs, hown, hts⟩ := unhide HT
        have hrow := hown
        rcases hrow.2 with ⟨_, h0⟩ | ⟨g, cap, cur, hv, hB, hg, _⟩
        · simp at h0
        cases hv
        have c0 := (owns_cell hown 0 (vs 0) rfl).1
        have ht := hts 0 (by omega)
        clear hts hown hrow hB hg
        generalize vs 0 = vt at c0 ht
        have HM := hide ((unhide H2).below (unhide HB2).below)
        have hfin : StopsSay nf fns n f s (q : Int) ↔ hit f s q = true := ⟨fun h => h.2.2.2.2, fun h => ⟨(unhide HS).1, (unhide HS).2.2 0 (by omega), hka, hkb, h⟩⟩
        have HF := hide hfin
        clear hfin
        rcases ht with ⟨e, mb, sb, rfl, p1, p2⟩ | ⟨e, mb, sb, rfl, p1, p2⟩ | ⟨e, ib, b, rfl, p1, p2⟩ | ⟨e, mb, rfl, p1⟩
        · have P1 := hide p1; have P2 := hide p2; have E1 := hide e
          clear p1 p2 e
          go_wp2_with fail
          refine (test1_any lo mb sb _ n f s q _ hqn (unhide E1) (unhide P1) (unhide HM) (unhide P2)).mono ?_
          rintro e w3 ⟨rfl, hb3⟩
          have HB3 := hide ((unhide HB2).go hb3)
          go_wp2_with fail
          go_ret
          exact ⟨⟨_, rfl, (unhide HF).symm⟩, (unhide HB3).below⟩
        · have P1 := hide p1; have P2 := hide p2; have E1 := hide e
          clear p1 p2 e
          go_wp2_with fail
          refine (test2_any lo mb sb _ n f s q _ hqn (unhide E1) (unhide P1) (unhide HM) (unhide P2)).mono ?_
          rintro e w3 ⟨rfl, hb3⟩
          have HB3 := hide ((unhide HB2).go hb3)
          go_wp2_with fail
          go_ret
          exact ⟨⟨_, rfl, (unhide HF).symm⟩, (unhide HB3).below⟩
        · have P1 := hide p1; have P2 := hide p2; have E1 := hide e
          clear p1 p2 e
          go_wp2_with fail
          refine (test3_any ib b n f s q _ hqn (unhide E1) (unhide P1) (unhide P2)).mono ?_
          rintro e w3 ⟨rfl, hb3⟩
          have HB3 := hide ((unhide HB2).go hb3)
          go_wp2_with fail
          go_ret
          exact ⟨⟨_, rfl, (unhide HF).symm⟩, (unhide HB3).below⟩
        · have P1 := hide p1; have E1 := hide e
          clear p1 e
          go_wp2_with fail
          refine (test4_any lo mb _ n f s q _ hqn (unhide E1) (unhide P1) (unhide HM)).mono ?_
          rintro e w3 ⟨rfl, hb3⟩
          have HB3 := hide ((unhide HB2).go hb3)
          go_wp2_with fail
          go_ret
          exact ⟨⟨_, rfl, (unhide HF).symm⟩, (unhide HB3).below⟩
      · have hk1 : decide (k < (n : Int)) = false := Bool.of_not_eq_true hk1
        go_wp2_with fail
        go_ret
        exact ⟨SaysB.no (fun h => by have := of_decide_eq_false hk1; have := h.2.2.2.1; omega), (unhide HB2).below⟩
    · have hk0 : decide (0 ≤ k) = false := Bool.of_not_eq_true hk0
      go_wp2_with fail
      go_ret
      exact ⟨SaysB.no (fun h => by have := of_decide_eq_false hk0; have := h.2.2.1; omega), (unhide HB2).below⟩
end Go.Proofs.Ytjhfdjdmiombpab
