import Derived.Test.YtoiacbdnkkolmabS11
namespace Go.Proofs.Ytoiacbdnkkolmab
open Go.RowKit

def Sound (nf : Nat) (fns : Nat → ByteArray) (n : Nat) (f : Nat → M) : Prop := SizesOk nf fns n ∧ (∀ j, j < n → MomentOk nf (f j)) ∧ ∀ j, j < n → codeAt f j = 0

theorem Ans.zero {nf : Nat} {fns : Nat → ByteArray} {n : Nat} {f : Nat → M} {c m : Int} (h : Ans nf fns n f c m) : (c = 0 ↔ Sound nf fns n f) ∧ (c = 0 → m = 0) := by
  rcases h with ⟨a, rfl, rfl⟩ | ⟨a, i, hi, b, d, rfl, rfl⟩ | ⟨a, b, i, hi, d, e, rfl, rfl⟩ | ⟨a, b, d, rfl, rfl⟩
  · exact ⟨⟨fun h => by omega, fun h => absurd h.1 a⟩, fun h => by omega⟩
  · exact ⟨⟨fun h => by omega, fun h => absurd (h.2.1 i hi) b⟩, fun h => by omega⟩
  · exact ⟨⟨fun h => absurd h d, fun h => h.2.2 i hi⟩, fun h => absurd h d⟩
  · exact ⟨⟨fun _ => ⟨a, b, d⟩, fun _ => rfl⟩, fun _ => rfl⟩

/-- A trace's box stands as it was laid. -/
def TrBox (w : World) (v1 v2 : Value) (w' : World) : Prop := Below (w.heap.size + 1) (w.alloc (.cells #[v1, v2] 31)) w'

theorem TrBox.below {w w' : World} {v1 v2 : Value} (h : TrBox w v1 v2 w') : Below w.heap.size w w' := ((Below.refl _ _).alloc (Nat.le_refl _) _).trans (Below.mono h (by omega))
theorem TrBox.size {w w' : World} {v1 v2 : Value} (h : TrBox w v1 v2 w') : w.heap.size + 1 ≤ w'.heap.size := by
  have := Below.size h; simpa using this
theorem TrBox.go {w w' w'' : World} {v1 v2 : Value} (h : TrBox w v1 v2 w') (hb : Below w'.heap.size w' w'') : TrBox w v1 v2 w'' := Below.trans h (hb.mono h.size)
theorem TrBox.b0 {w w' : World} {v1 v2 : Value} (h : TrBox w v1 v2 w') : w'.cell? ⟨w.heap.size, 0, none⟩ = some v1 := by
  rw [Below.cell h (by simp), cell_alloc_at _ _ _ _ _ rfl]; rfl
theorem TrBox.b1 {w w' : World} {v1 v2 : Value} (h : TrBox w v1 v2 w') : w'.cell? ⟨w.heap.size, 1, none⟩ = some v2 := by
  rw [Below.cell h (by simp), cell_alloc_at _ _ _ _ _ rfl]; rfl
theorem TrBox.new (w : World) (v1 v2 : Value) : TrBox w v1 v2 (w.alloc (.cells #[v1, v2] 31)) := Below.refl _ _

theorem below_new (w : World) (o : Obj) : Below w.heap.size w (w.alloc o) := (Below.refl _ _).alloc (Nat.le_refl _) o

set_option maxHeartbeats 1000000 in
theorem l1ok_any (lo : Nat) (v1 v2 : Value) (nf : Nat) (fns : Nat → ByteArray) (n : Nat) (f : Nat → M) (w : World) (h1 : StrsAt lo w v1 nf fns) (h2 : MomsAt lo w v2 n f) :
    Calls Try.prog 62 #[.agg #[v1, v2]] w fun e w' => SaysB (Sound nf fns n f) e ∧ Below w.heap.size w w' := by
  have H1 := hide h1; clear h1
  have H2 := hide h2; clear h2
  have T0 := hide (TrBox.new w v1 v2)
  go_enter Try.func62, Try.ntmps62
  go_wp2_with fail
  refine (specTraceOk_any lo _ _ nf fns n f _ ((unhide H1).below (unhide T0).below) ((unhide H2).below (unhide T0).below)).mono ?_
  rintro e w1 ⟨⟨c, m, rfl, ha⟩, hb1⟩
  have T1 := hide (((unhide T0).go hb1).go (below_new w1 (.cells #[.int .i64 c, .int .i64 m] 79)))
  clear hb1
  by_cases hc : c = 0
  · have HS := hide (ha.zero.1.1 hc)
    have hcb : (c == 0) = true := by simpa using hc
    clear ha hc
    go_wp2
    go_ret
    exact ⟨SaysB.yes (unhide HS), (unhide T1).below⟩
  · have HS : Hid (¬ Sound nf fns n f) := hide (fun h => hc (ha.zero.1.2 h))
    have hcb : (c == 0) = false := by simpa using hc
    clear ha hc
    go_wp2
    go_ret
    exact ⟨SaysB.no (unhide HS), (unhide T1).below⟩

set_option maxHeartbeats 1000000 in
theorem l1place_any (lo : Nat) (v1 v2 : Value) (n : Nat) (f : Nat → M) (k : Int) (w : World) (h2 : MomsAt lo w v2 n f) :
    Calls Try.prog 129 #[.agg #[v1, v2], .int .i64 k] w fun e w' => e = .returned (.bool (decide (-1 ≤ k ∧ k ≤ (n : Int)))) ∧ Below w.heap.size w w' := by
  obtain ⟨a2, cap2, rfl, hn2, -⟩ := h2
  unfold maxLen at hn2
  go_enter Try.func129, Try.ntmps129
  go_wp2_with fail
  refine (l1in_any _ _ _ _).mono ?_
  rintro e w1 ⟨rfl, rfl⟩
  go_wp2
  go_ret
  exact ⟨by simp, below_new _ _⟩

set_option maxRecDepth 100000 in
set_option maxHeartbeats 1000000 in
theorem l1at_any (lo : Nat) (v1 v2 : Value) (nf : Nat) (fns : Nat → ByteArray) (n : Nat) (f : Nat → M) (kk : Nat) (w : World) (h2 : MomsAt lo w v2 n f) (hs : Sound nf fns n f) (hk : kk ≤ n) :
    Calls Try.prog 154 #[.agg #[v1, v2], .int .i64 ((kk : Int) - 1)] w fun e w' => (∃ ps, e = .returned (.pointer (some ⟨ps, 0, none⟩)) ∧ SpecAt w.heap.size w' ps (St.after f kk)) ∧ Below w.heap.size w w' := by
  have H2 := hide h2
  obtain ⟨a2, cap2, rfl, hn2, -⟩ := h2
  unfold maxLen at hn2
  have HS := hide hs; clear hs
  have T0 := hide (TrBox.new w v1 (.slice a2 n cap2))
  go_enter Try.func154, Try.ntmps154
  go_wp2_with fail
  refine (l1begin_any _).mono ?_
  rintro e w1 ⟨⟨ps, rfl, hsp⟩, hb1⟩
  have T1 := hide ((unhide T0).go hb1)
  have HSP := hide hsp
  clear hb1 hsp T0
  obtain ⟨B, hBe⟩ : ∃ B, B = (w.alloc (.cells #[v1, .slice a2 n cap2] 31)).heap.size := ⟨_, rfl⟩
  have hB : B = w.heap.size + 1 := by rw [hBe]; simp
  rw [← hBe] at HSP
  have HBE := hide hB
  clear hBe hB
  go_wp2
  go_loopw [6] (fun i w' => ∃ (j : Nat), j ≤ kk ∧ i = .int .i64 j ∧ SpecAt B w' ps (St.after f j) ∧ TrBox w v1 (.slice a2 n cap2) w') (fun i _ => kk - (intOf i).toNat)
  case atStart => exact ⟨0, by omega, rfl, unhide HSP, unhide T1⟩
  case round =>
    obtain ⟨j, hj, rfl, hsp, ht⟩ := hrel
    have HT := hide ht; clear ht T1 HSP
    have HSP := hide hsp; clear hsp
    by_cases hlt : j < kk
    · obtain ⟨_, _, e, _, hv⟩ := (unhide H2).below (unhide HT).below
      cases e
      obtain ⟨b, o, vv, rfl, hc0, hc1, hc2, hc3, hc4, hc5, hs1, hs2, -⟩ := hv j (by omega)
      clear hv
      obtain ⟨av, capv, rfl, -⟩ := hs2
      have hmo := (unhide HS).2.1 j (by omega)
      have ht1 : 0 ≤ (f j).task := hmo.1.2.2.1
      have ht2 : (f j).task ≤ 100 := hmo.1.2.2.2.1
      clear hmo
      have g1 := (unhide HT).b1
      have hjn : (j : Int) < (n : Int) := by omega
      go_wp2_with fail
      refine (move_any B ps (St.after f j) _ _ _ _ _ _ _ _ (unhide HSP) ht1 ht2).mono ?_
      rintro e w2 ⟨rfl, hsp, hb2, -⟩
      have T2 : Hid (TrBox w v1 (.slice (some ⟨b, o, none⟩) n cap2) w2) := hide (Below.trans (unhide HT) (hb2.mono (by rw [unhide HBE]; omega)))
      have HSP2 := hide (hsp ((unhide HS).2.2 j (by omega)))
      clear hsp hb2
      go_wp2
      go_roundw
      case rel => exact ⟨j + 1, by omega, by go_num, unhide HSP2, unhide T2⟩
      case measure => simp [intOf]; omega
    · have hjk : j = kk := by omega
      subst hjk
      go_wp2
      go_ret
      obtain ⟨bt, V, hc⟩ := unhide HSP
      have hBB : w.heap.size ≤ B := by rw [unhide HBE]; omega
      refine ⟨⟨ps, rfl, bt, V, Nat.le_trans hBB hc.hp, Nat.le_trans hBB hc.hbt, hc.ne, hc.c0, hc.c1, hc.fz, hc.row, fun t ht => ?_, hc.nps, hc.nbt, hc.dis, hc.cur, hc.len⟩, (unhide HT).below⟩
      have h := hc.own t ht
      refine ⟨h.1, ?_⟩
      rcases h.2 with hn | ⟨g, cap, cur, hv, hb, rest⟩
      · exact .inl hn
      · exact .inr ⟨g, cap, cur, hv, by omega, rest⟩

/-- So many moments lie behind a place. -/
def upto (n : Nat) (k : Int) : Nat := min (k + 1).toNat n

set_option maxRecDepth 100000 in
set_option maxHeartbeats 1000000 in
theorem l1stand_any (lo : Nat) (v1 v2 : Value) (nf : Nat) (fns : Nat → ByteArray) (n : Nat) (f : Nat → M) (k : Int) (w : World) (h2 : MomsAt lo w v2 n f) (hs : Sound nf fns n f) (hk1 : -1 ≤ k) (hk2 : k ≤ n) :
    Calls Try.prog 131 #[.agg #[v1, v2], .int .i64 k] w fun e w' => (∃ ps, e = .returned (.pointer (some ⟨ps, 0, none⟩)) ∧ SpecAt (w.heap.size + 1) w' ps (St.after f (upto n k))) ∧ Below w.heap.size w w' := by
  have H2 := hide h2
  obtain ⟨a2, cap2, rfl, hn2, -⟩ := h2
  unfold maxLen at hn2
  have HS := hide hs; clear hs
  have T0 := hide (TrBox.new w v1 (.slice a2 n cap2))
  have g0 := (unhide T0).b0
  have g1 := (unhide T0).b1
  by_cases hk : k = n
  · subst hk
    have e : upto n (n : Int) = n := by unfold upto; omega
    rw [e]; clear e
    go_enter Try.func131, Try.ntmps131
    go_wp2_with fail
    refine (l1at_any lo _ _ nf fns n f n _ ((unhide H2).below (unhide T0).below) (unhide HS) (Nat.le_refl _)).mono ?_
    rintro e w1 ⟨⟨ps, rfl, hsp⟩, hb1⟩
    have T1 := hide ((unhide T0).go hb1)
    have HSP := hide hsp
    clear hb1 hsp
    go_wp2
    go_ret
    exact ⟨⟨ps, rfl, by simpa using unhide HSP⟩, (unhide T1).below⟩
  · obtain ⟨kk, rfl⟩ : ∃ kk : Nat, k = (kk : Int) - 1 := ⟨(k + 1).toNat, by omega⟩
    have e : upto n ((kk : Int) - 1) = kk := by unfold upto; omega
    rw [e]; clear e
    have hkb : ((kk : Int) - 1 == (n : Int)) = false := by simpa using hk
    have hkk : kk ≤ n := by omega
    clear hk
    go_enter Try.func131, Try.ntmps131
    go_wp2_with fail
    refine (l1at_any lo _ _ nf fns n f kk _ ((unhide H2).below (unhide T0).below) (unhide HS) hkk).mono ?_
    rintro e w1 ⟨⟨ps, rfl, hsp⟩, hb1⟩
    have T1 := hide ((unhide T0).go hb1)
    have HSP := hide hsp
    clear hb1 hsp
    go_wp2
    go_ret
    exact ⟨⟨ps, rfl, by simpa using unhide HSP⟩, (unhide T1).below⟩

end Go.Proofs.Ytoiacbdnkkolmab
