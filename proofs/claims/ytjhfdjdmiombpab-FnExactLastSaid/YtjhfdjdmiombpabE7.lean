import Derived.Test.YtjhfdjdmiombpabE6
namespace Go.Proofs.Ytjhfdjdmiombpab
open Go.RowKit Go.Lib

/-- What StopsAt says. -/
def StopsSay (nf : Nat) (fns : Nat → ByteArray) (n : Nat) (f : Nat → M) (s : Sp) (k : Int) : Prop := Sound nf fns n f ∧ StopIs s ∧ 0 ≤ k ∧ k < n ∧ hit f s k.toNat = true

set_option maxRecDepth 100000 in
set_option maxHeartbeats 4000000 in
theorem specStopsAt_any (lo : Nat) (v1 v2 : Value) (nf : Nat) (fns : Nat → ByteArray) (n : Nat) (f : Nat → M) (s : Sp) (k : Int) (w : World) (h1 : StrsAt lo w v1 nf fns) (h2 : MomsAt lo w v2 n f) (hz : s.name.size ≤ maxLen) :
    Calls Try.prog 38 #[.agg #[v1, v2], .agg #[.int .i64 s.kind, .int .i64 s.fn, .int .i64 s.line, .string s.name], .int .i64 k] w fun e w' => SaysB (StopsSay nf fns n f s k) e ∧ Below w.heap.size w w' := by
  have H1 := hide h1; clear h1
  have H2 := hide h2
  obtain ⟨a2, cap2, rfl, hn2, -⟩ := h2
  unfold maxLen at hn2
  have HB0 := hide (TSBox.new w v1 (.slice a2 n cap2) s)
  go_enter Try.func38, Try.ntmps38
  go_wp2_with fail
  refine (l1ok_any lo _ _ nf fns n f _ ((unhide H1).below (unhide HB0).below) ((unhide H2).below (unhide HB0).below)).mono ?_
  rintro e w1 ⟨⟨ok, rfl, hok⟩, hb1⟩
  have HB1 := hide ((unhide HB0).go hb1)
  clear hb1 HB0
  cases ok with
  | false =>
    have HN : Hid (¬ Sound nf fns n f) := hide (fun h => by have := hok.2 h; cases this)
    clear hok
    go_wp2_with fail
    go_ret
    exact ⟨SaysB.no (fun h => unhide HN h.1), (unhide HB1).below⟩
  | true =>
    have HS := hide (hok.1 rfl)
    have y0 := (unhide HB1).s0
    have y1 := (unhide HB1).s1
    have y2 := (unhide HB1).s2
    have y3 := (unhide HB1).s3
    clear hok
    go_wp2_with fail
    refine (specStopOk_any s.kind s.fn s.line s.name _ hz).mono ?_
    rintro e w2 ⟨⟨ok2, rfl, hok2⟩, hb2⟩
    have HB2 := hide ((unhide HB1).go hb2)
    clear hb2 HB1 y0 y1 y2 y3
    cases ok2 with
    | false =>
      have HN : Hid (¬ StopIs s) := hide (fun h => by have := hok2.2 h; cases this)
      clear hok2
      go_wp2_with fail
      go_ret
      exact ⟨SaysB.no (fun h => unhide HN h.2.1), (unhide HB2).below⟩
    | true =>
      have HT := hide (hok2.1 rfl)
      have x0 := (unhide HB2).t0
      have x1 := (unhide HB2).t1
      have y0 := (unhide HB2).s0
      have y1 := (unhide HB2).s1
      have y2 := (unhide HB2).s2
      have y3 := (unhide HB2).s3
      clear hok2
      by_cases hk0 : decide (k < 0) = true
      · go_wp2_with fail
        go_ret
        exact ⟨SaysB.no (fun h => by have := of_decide_eq_true hk0; have := h.2.2.1; omega), (unhide HB2).below⟩
      · have hk0 : decide (k < 0) = false := Bool.of_not_eq_true hk0
        by_cases hk1 : decide ((n : Int) ≤ k) = true
        · go_wp2_with fail
          go_ret
          exact ⟨SaysB.no (fun h => by have := of_decide_eq_true hk1; have := h.2.2.2.1; omega), (unhide HB2).below⟩
        · have hk1 : decide ((n : Int) ≤ k) = false := Bool.of_not_eq_true hk1
          have hka : 0 ≤ k := by have := of_decide_eq_false hk0; omega
          have hkb : k < n := by have := of_decide_eq_false hk1; omega
          obtain ⟨q, hq⟩ := Int.eq_ofNat_of_zero_le hka
          subst hq
          go_wp2_with fail
          refine (l3hits_any lo _ _ nf fns n f s _ ((unhide H2).below (unhide HB2).below) (unhide HS)).mono ?_
          rintro e w3 ⟨⟨b, rfl, hbo, -⟩, hb3⟩
          have HB3 := hide ((unhide HB2).go hb3)
          have c0 := hbo.2 q (by omega)
          clear hb3 HB2 hbo x0 x1 y0 y1 y2 y3
          go_wp2_with fail
          go_ret
          refine ⟨⟨_, rfl, ?_⟩, (unhide HB3).below⟩
          constructor
          · intro h; exact ⟨unhide HS, unhide HT, hka, hkb, h⟩
          · intro h; exact h.2.2.2.2
end Go.Proofs.Ytjhfdjdmiombpab
