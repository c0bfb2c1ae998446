import Derived.Test.YtjhfdjdmiombpabE22
import Derived.Test.YtjhfdjdmiombpabE18
import Derived.Test.YtjhfdjdmiombpabE13
namespace Go.Proofs.Ytjhfdjdmiombpab
open Go.RowKit

set_option maxRecDepth 100000 in
set_option maxHeartbeats 4000000 in
theorem implNext_any (lo : Nat) (v1 v2 sv : Value) (nf : Nat) (fns : Nat → ByteArray) (n : Nat) (f : Nat → M) (ns : Nat) (ss : Nat → Sp) (k : Int) (w : World) (h1 : StrsAt lo w v1 nf fns) (h2 : MomsAt lo w v2 n f) (h3 : StopsIn w sv ns ss) (hn : n ≤ 1048576) :
    Calls Try.prog 48 #[.agg #[v1, v2], sv, .int .i64 k] w fun e w' => NextSay nf fns n f ns ss k e ∧ Below w.heap.size w w' := by
  have H1 := hide h1; clear h1
  have H2 := hide h2
  have H3 := hide h3
  obtain ⟨a2, cap2, rfl, hn2, -⟩ := h2
  obtain ⟨a3, cap3, rfl, hn3, -⟩ := h3
  unfold maxLen at hn2 hn3
  have T0 := hide (TrBox.new w v1 (.slice a2 n cap2))
  go_enter Try.func48, Try.ntmps48
  go_wp2_with fail
  refine (stopTests_any lo _ _ _ nf fns n f ns ss _ ((unhide H1).below (unhide T0).below) ((unhide H2).below (unhide T0).below) ((unhide H3).below (unhide T0).below)).mono ?_
  rintro e w1 ⟨⟨tv, ok, rfl, hok, htt, ta, tm, tc, rfl⟩, hb1⟩
  have T1 := hide ((unhide T0).go hb1)
  clear hb1 T0
  cases ok with
  | false =>
    have HN : Hid (¬ GoodStops nf fns n f ns ss k) := hide (fun h => by have := hok.2 ⟨h.1, h.2.2⟩; cases this)
    clear hok htt
    go_wp2_with fail
    go_ret
    exact ⟨.inr ⟨unhide HN, rfl⟩, (unhide T1).below⟩
  | true =>
    have HS := hide (hok.1 rfl)
    have HT := hide (htt rfl)
    clear hok htt
    have g0 := (unhide T1).b0
    have g1 := (unhide T1).b1
    go_wp2_with fail
    refine (isPlace_any lo _ _ n f k _ ((unhide H2).below (unhide T1).below)).mono ?_
    rintro e w2 ⟨rfl, hb2⟩
    have T2 := hide ((unhide T1).go hb2)
    have HT2 := hide ((unhide HT).below hb2)
    clear hb2 T1 HT g0 g1
    by_cases hp : (-1 ≤ k ∧ k ≤ (n : Int))
    · have dp : decide (-1 ≤ k ∧ k ≤ (n : Int)) = true := decide_eq_true hp
      rw [dp]
      have HP := hide hp
      clear hp dp
      have g0 := (unhide T2).b0
      have g1 := (unhide T2).b1
      go_wp2_with fail
      refine (nextHit_any _ lo _ _ n f ns ss k _ (unhide HT2) ((unhide H2).below (unhide T2).below) (unhide HS).2.1 hn (unhide HP).1 (unhide HP).2).mono ?_
      rintro e w3 ⟨⟨z, rfl, hz⟩, hb3⟩
      have T3 := hide ((unhide T2).go hb3)
      have HZ := hide hz
      clear hz hb3 T2 HT2 g0 g1
      go_wp2_with fail
      go_ret
      exact ⟨.inl ⟨⟨(unhide HS).1, unhide HP, (unhide HS).2⟩, z, rfl, unhide HZ⟩, (unhide T3).below⟩
    · have dp : decide (-1 ≤ k ∧ k ≤ (n : Int)) = false := decide_eq_false hp
      rw [dp]
      have HP := hide hp
      clear hp dp
      go_wp2_with fail
      go_ret
      exact ⟨.inr ⟨fun h => unhide HP h.2.1, rfl⟩, (unhide T2).below⟩

set_option maxRecDepth 100000 in
set_option maxHeartbeats 4000000 in
theorem implLast_any (lo : Nat) (v1 v2 sv : Value) (nf : Nat) (fns : Nat → ByteArray) (n : Nat) (f : Nat → M) (ns : Nat) (ss : Nat → Sp) (k : Int) (w : World) (h1 : StrsAt lo w v1 nf fns) (h2 : MomsAt lo w v2 n f) (h3 : StopsIn w sv ns ss) (hn : n ≤ 1048576) :
    Calls Try.prog 51 #[.agg #[v1, v2], sv, .int .i64 k] w fun e w' => LastSay nf fns n f ns ss k e ∧ Below w.heap.size w w' := by
  have H1 := hide h1; clear h1
  have H2 := hide h2
  have H3 := hide h3
  obtain ⟨a2, cap2, rfl, hn2, -⟩ := h2
  obtain ⟨a3, cap3, rfl, hn3, -⟩ := h3
  unfold maxLen at hn2 hn3
  have T0 := hide (TrBox.new w v1 (.slice a2 n cap2))
  go_enter Try.func51, Try.ntmps51
  go_wp2_with fail
  refine (stopTests_any lo _ _ _ nf fns n f ns ss _ ((unhide H1).below (unhide T0).below) ((unhide H2).below (unhide T0).below) ((unhide H3).below (unhide T0).below)).mono ?_
  rintro e w1 ⟨⟨tv, ok, rfl, hok, htt, ta, tm, tc, rfl⟩, hb1⟩
  have T1 := hide ((unhide T0).go hb1)
  clear hb1 T0
  cases ok with
  | false =>
    have HN : Hid (¬ GoodStops nf fns n f ns ss k) := hide (fun h => by have := hok.2 ⟨h.1, h.2.2⟩; cases this)
    clear hok htt
    go_wp2_with fail
    go_ret
    exact ⟨.inr ⟨unhide HN, rfl⟩, (unhide T1).below⟩
  | true =>
    have HS := hide (hok.1 rfl)
    have HT := hide (htt rfl)
    clear hok htt
    have g0 := (unhide T1).b0
    have g1 := (unhide T1).b1
    go_wp2_with fail
    refine (isPlace_any lo _ _ n f k _ ((unhide H2).below (unhide T1).below)).mono ?_
    rintro e w2 ⟨rfl, hb2⟩
    have T2 := hide ((unhide T1).go hb2)
    have HT2 := hide ((unhide HT).below hb2)
    clear hb2 T1 HT g0 g1
    by_cases hp : (-1 ≤ k ∧ k ≤ (n : Int))
    · have dp : decide (-1 ≤ k ∧ k ≤ (n : Int)) = true := decide_eq_true hp
      rw [dp]
      have HP := hide hp
      clear hp dp
      have g0 := (unhide T2).b0
      have g1 := (unhide T2).b1
      go_wp2_with fail
      refine (lastHit_any _ lo _ _ n f ns ss k _ (unhide HT2) ((unhide H2).below (unhide T2).below) (unhide HS).2.1 hn (unhide HP).1 (unhide HP).2).mono ?_
      rintro e w3 ⟨⟨z, rfl, hz⟩, hb3⟩
      have T3 := hide ((unhide T2).go hb3)
      have HZ := hide hz
      clear hz hb3 T2 HT2 g0 g1
      go_wp2_with fail
      go_ret
      exact ⟨.inl ⟨⟨(unhide HS).1, unhide HP, (unhide HS).2⟩, z, rfl, unhide HZ⟩, (unhide T3).below⟩
    · have dp : decide (-1 ≤ k ∧ k ≤ (n : Int)) = false := decide_eq_false hp
      rw [dp]
      have HP := hide hp
      clear hp dp
      go_wp2_with fail
      go_ret
      exact ⟨.inr ⟨fun h => unhide HP h.2.1, rfl⟩, (unhide T2).below⟩

theorem NextSay.uniq {nf : Nat} {fns : Nat → ByteArray} {n : Nat} {f : Nat → M} {ns : Nat} {ss : Nat → Sp} {k : Int} {e e' : Ending} (h : NextSay nf fns n f ns ss k e) (h' : NextSay nf fns n f ns ss k e') : ∃ z, e = .returned (.int .i64 z) ∧ e' = .returned (.int .i64 z) := by
  rcases h with ⟨g, z, rfl, h⟩ | ⟨g, rfl⟩ <;> rcases h' with ⟨g', z', rfl, h'⟩ | ⟨g', rfl⟩
  · exact ⟨z, rfl, by rw [h.uniq h']⟩
  · exact absurd g g'
  · exact absurd g' g
  · exact ⟨_, rfl, rfl⟩

theorem LastSay.uniq {nf : Nat} {fns : Nat → ByteArray} {n : Nat} {f : Nat → M} {ns : Nat} {ss : Nat → Sp} {k : Int} {e e' : Ending} (h : LastSay nf fns n f ns ss k e) (h' : LastSay nf fns n f ns ss k e') : ∃ z, e = .returned (.int .i64 z) ∧ e' = .returned (.int .i64 z) := by
  rcases h with ⟨g, z, rfl, h⟩ | ⟨g, rfl⟩ <;> rcases h' with ⟨g', z', rfl, h'⟩ | ⟨g', rfl⟩
  · exact ⟨z, rfl, by rw [h.uniq h']⟩
  · exact absurd g g'
  · exact absurd g' g
  · exact ⟨_, rfl, rfl⟩
end Go.Proofs.Ytjhfdjdmiombpab
