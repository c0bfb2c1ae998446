import Derived.Test.YtjhfdjdmiombpabE17
namespace Go.Proofs.Ytjhfdjdmiombpab
open Go.RowKit Go.Lib

/-- What Next answers. -/
def NextSay (nf : Nat) (fns : Nat → ByteArray) (n : Nat) (f : Nat → M) (ns : Nat) (ss : Nat → Sp) (k : Int) (e : Ending) : Prop :=
  (GoodStops nf fns n f ns ss k ∧ ∃ z, e = .returned (.int .i64 z) ∧ NextIs n (anyOf f ns ss) k z) ∨ (¬ GoodStops nf fns n f ns ss k ∧ e = .returned (.int .i64 (-2)))

def LastSay (nf : Nat) (fns : Nat → ByteArray) (n : Nat) (f : Nat → M) (ns : Nat) (ss : Nat → Sp) (k : Int) (e : Ending) : Prop :=
  (GoodStops nf fns n f ns ss k ∧ ∃ z, e = .returned (.int .i64 z) ∧ LastIs (anyOf f ns ss) k z) ∨ (¬ GoodStops nf fns n f ns ss k ∧ e = .returned (.int .i64 (-2)))

set_option maxRecDepth 100000 in
set_option maxHeartbeats 4000000 in
theorem specNext_any (lo : Nat) (v1 v2 sv : Value) (nf : Nat) (fns : Nat → ByteArray) (n : Nat) (f : Nat → M) (ns : Nat) (ss : Nat → Sp) (k : Int) (w : World) (h1 : StrsAt lo w v1 nf fns) (h2 : MomsAt lo w v2 n f) (h3 : StopsIn w sv ns ss) (hn : n ≤ 1048576) :
    Calls Try.prog 46 #[.agg #[v1, v2], sv, .int .i64 k] w fun e w' => NextSay nf fns n f ns ss k e ∧ Below w.heap.size w w' := by
  have H1 := hide h1; clear h1
  have H2 := hide h2
  have H3 := hide h3
  obtain ⟨a2, cap2, rfl, hn2, -⟩ := h2
  obtain ⟨a3, cap3, rfl, hn3, -⟩ := h3
  unfold maxLen at hn2 hn3
  have T0 := hide (TrBox.new w v1 (.slice a2 n cap2))
  go_enter Try.func46, Try.ntmps46
  go_wp2_with fail
  refine (l3good_any lo _ _ _ nf fns n f ns ss k _ ((unhide H1).below (unhide T0).below) ((unhide H2).below (unhide T0).below) ((unhide H3).below (unhide T0).below)).mono ?_
  rintro e w1 ⟨⟨ok, rfl, hok⟩, hb1⟩
  have T1 := hide ((unhide T0).go hb1)
  clear hb1 T0
  cases ok with
  | false =>
    have HN : Hid (¬ GoodStops nf fns n f ns ss k) := hide (fun h => by have := hok.2 h; cases this)
    clear hok
    go_wp2_with fail
    go_ret
    exact ⟨.inr ⟨unhide HN, rfl⟩, (unhide T1).below⟩
  | true =>
    have HG := hide (hok.1 rfl)
    clear hok
    have g0 := (unhide T1).b0
    have g1 := (unhide T1).b1
    have BD := hide ((Below.refl w1.heap.size w1).drew)
    go_wp2_with fail
    go_region_held3 (fun w' => w'.cell? ⟨w.heap.size, 0, none⟩ = some v1 ∧ w'.cell? ⟨w.heap.size, 1, none⟩ = some (.slice a2 n cap2))
      (first | (exact ⟨((unhide T1).go (unhide BD)).b0, ((unhide T1).go (unhide BD)).b1⟩) | (exact ⟨(((unhide T1).go (unhide BD)).go hbA).b0, (((unhide T1).go (unhide BD)).go hbA).b1⟩))
      ((first | (go_at_call 93; refine (l3all_any lo _ _ _ nf fns n f ns ss _ ((unhide H2).below (by exact ((unhide T1).go (unhide BD)).below)) ((unhide H3).below (by exact ((unhide T1).go (unhide BD)).below)) (unhide HG).1 (unhide HG).2.2.1).mono ?_; rintro e wA ⟨⟨hv, rfl, hh, ha, hm, hc, rfl⟩, hbA⟩) | (go_at_call 92; refine (l3next_any _ _ n f ns ss k _ hh hn (unhide HG).2.2.1 (unhide HG).2.1.1 (unhide HG).2.1.2).mono ?_; rintro e wB ⟨⟨z, rfl, hz⟩, rfl⟩)))
    go_wp2
    go_ret
    exact ⟨.inl ⟨unhide HG, z, rfl, hz⟩, (((unhide T1).go (unhide BD)).go hbA).below⟩

set_option maxRecDepth 100000 in
set_option maxHeartbeats 4000000 in
theorem specLast_any (lo : Nat) (v1 v2 sv : Value) (nf : Nat) (fns : Nat → ByteArray) (n : Nat) (f : Nat → M) (ns : Nat) (ss : Nat → Sp) (k : Int) (w : World) (h1 : StrsAt lo w v1 nf fns) (h2 : MomsAt lo w v2 n f) (h3 : StopsIn w sv ns ss) (hn : n ≤ 1048576) :
    Calls Try.prog 50 #[.agg #[v1, v2], sv, .int .i64 k] w fun e w' => LastSay nf fns n f ns ss k e ∧ Below w.heap.size w w' := by
  have H1 := hide h1; clear h1
  have H2 := hide h2
  have H3 := hide h3
  obtain ⟨a2, cap2, rfl, hn2, -⟩ := h2
  obtain ⟨a3, cap3, rfl, hn3, -⟩ := h3
  unfold maxLen at hn2 hn3
  have T0 := hide (TrBox.new w v1 (.slice a2 n cap2))
  go_enter Try.func50, Try.ntmps50
  go_wp2_with fail
  refine (l3good_any lo _ _ _ nf fns n f ns ss k _ ((unhide H1).below (unhide T0).below) ((unhide H2).below (unhide T0).below) ((unhide H3).below (unhide T0).below)).mono ?_
  rintro e w1 ⟨⟨ok, rfl, hok⟩, hb1⟩
  have T1 := hide ((unhide T0).go hb1)
  clear hb1 T0
  cases ok with
  | false =>
    have HN : Hid (¬ GoodStops nf fns n f ns ss k) := hide (fun h => by have := hok.2 h; cases this)
    clear hok
    go_wp2_with fail
    go_ret
    exact ⟨.inr ⟨unhide HN, rfl⟩, (unhide T1).below⟩
  | true =>
    have HG := hide (hok.1 rfl)
    clear hok
    have g0 := (unhide T1).b0
    have g1 := (unhide T1).b1
    go_wp2_with fail
    refine (l3all_any lo _ _ _ nf fns n f ns ss _ ((unhide H2).below (unhide T1).below) ((unhide H3).below (unhide T1).below) (unhide HG).1 (unhide HG).2.2.1).mono ?_
    rintro e w2 ⟨⟨hv, rfl, hh, ha, hm, hc, rfl⟩, hb2⟩
    have HH := hide hh
    have T2 := hide ((unhide T1).go hb2)
    clear hh hb2 T1 g0 g1
    go_wp2_with fail
    refine (l3last_any _ _ n f ns ss k _ (unhide HH) hn (unhide HG).2.2.1 (unhide HG).2.1.1 (unhide HG).2.1.2).mono ?_
    rintro e w3 ⟨⟨z, rfl, hz⟩, rfl⟩
    have HZ := hide hz
    clear hz
    go_wp2_with fail
    go_ret
    exact ⟨.inl ⟨unhide HG, z, rfl, unhide HZ⟩, (unhide T2).below⟩
end Go.Proofs.Ytjhfdjdmiombpab
