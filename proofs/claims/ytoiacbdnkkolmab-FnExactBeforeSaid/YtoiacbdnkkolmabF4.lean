import Derived.Test.YtoiacbdnkkolmabF0
import Derived.Deep.LoopGhost
namespace Go.Proofs.Ytoiacbdnkkolmab
open Go.RowKit Go.Lib

set_option maxHeartbeats 1000000 in
theorem l4good_any (lo : Nat) (v1 v2 : Value) (nf : Nat) (fns : Nat → ByteArray) (n : Nat) (f : Nat → M) (k : Int) (w : World) (h1 : StrsAt lo w v1 nf fns) (h2 : MomsAt lo w v2 n f) :
    Calls Try.prog 99 #[.agg #[v1, v2], .int .i64 k] w fun e w' => SaysB (Sound nf fns n f ∧ (-1 ≤ k ∧ k ≤ (n : Int))) e ∧ Below w.heap.size w w' := by
  have H1 := hide h1; clear h1
  have H2 := hide h2; clear h2
  have T0 := hide (TrBox.new w v1 v2)
  go_enter Try.func99, Try.ntmps99
  go_wp2_with fail
  refine (l1ok_any lo _ _ nf fns n f _ ((unhide H1).below (unhide T0).below) ((unhide H2).below (unhide T0).below)).mono ?_
  rintro e w1 ⟨⟨b, rfl, hb⟩, hb1⟩
  have T1 := hide ((unhide T0).go hb1); clear hb1 T0
  cases b with
  | false =>
    have HS : Hid (¬ Sound nf fns n f) := hide (fun h => by simp [h] at hb)
    clear hb
    go_wp2
    go_ret
    exact ⟨SaysB.no (fun h => unhide HS h.1), (unhide T1).below⟩
  | true =>
    have HS : Hid (Sound nf fns n f) := hide (by simpa using hb)
    clear hb
    have g0 := (unhide T1).b0
    have g1 := (unhide T1).b1
    go_wp2_with fail
    refine (l1place_any lo _ _ n f k _ ((unhide H2).below (unhide T1).below)).mono ?_
    rintro e w2 ⟨rfl, hb2⟩
    have T2 := hide ((unhide T1).go hb2); clear hb2 T1 g0 g1
    by_cases hk : -1 ≤ k ∧ k ≤ (n : Int)
    · have hkb : decide (-1 ≤ k ∧ k ≤ (n : Int)) = true := by simpa using hk
      rw [hkb]
      clear hkb
      have HK := hide hk; clear hk
      go_wp2
      go_ret
      exact ⟨SaysB.yes ⟨unhide HS, unhide HK⟩, (unhide T2).below⟩
    · have hkb : decide (-1 ≤ k ∧ k ≤ (n : Int)) = false := by simpa using hk
      rw [hkb]
      clear hkb
      have HK := hide hk; clear hk
      go_wp2
      go_ret
      exact ⟨SaysB.no (fun h => unhide HK h.2), (unhide T2).below⟩

set_option maxRecDepth 100000 in
set_option maxHeartbeats 2000000 in
theorem l4into_any (lo : Nat) (v1 v2 : Value) (nf : Nat) (fns : Nat → ByteArray) (n : Nat) (f : Nat → M) (k : Int) (w : World) (h2 : MomsAt lo w v2 n f) (hs : Sound nf fns n f) (hk1 : -1 ≤ k) (hk2 : k ≤ n) :
    Calls Try.prog 100 #[.agg #[v1, v2], .int .i64 k] w fun e w' => (∃ z, e = .returned (.int .i64 z) ∧ StepIs n f k 0 z) ∧ Below w.heap.size w w' := by
  have H2 := hide h2
  obtain ⟨a2, cap2, rfl, hn2, -⟩ := h2
  have hn3 := hs.1.2.2.1
  have HS := hide hs; clear hs hn2
  have T0 := hide (TrBox.new w v1 (.slice a2 n cap2))
  have HI : Hid (∀ z, FwdIs n (stepHit f (St.after f (upto n k)).cur ((St.after f (upto n k)).tasks (St.after f (upto n k)).cur).length 0) k z → StepIs n f k 0 z) := hide (fun z hz => .inl ⟨by omega, hz⟩)
  go_enter Try.func100, Try.ntmps100
  go_wp2_with fail
  refine (l1stand_any lo _ _ nf fns n f k _ ((unhide H2).below (unhide T0).below) (unhide HS) hk1 hk2).mono ?_
  rintro e w1 ⟨⟨ps, rfl, bt, V, hc⟩, hb1⟩
  have T1 := hide ((unhide T0).go hb1)
  have c1 := hc.c1
  clear hc hb1 T0
  generalize ((St.after f (upto n k)).tasks (St.after f (upto n k)).cur).length = d at HI
  generalize (St.after f (upto n k)).cur = t at HI c1
  obtain ⟨p, hp⟩ : ∃ p : Nat, (p : Int) = k + 1 := ⟨(k + 1).toNat, by omega⟩
  obtain rfl : k = (p : Int) - 1 := by omega
  have wk : IntKind.i64.wrap ((p : Int) - 1 + 1) = (p : Int) := by rw [IntKind.wrap_i64]; omega
  clear hp
  go_wp2_with fail
  go_loopg [7] (n + 1 - p) (fun gg i W => ∃ q : Nat, q + gg = n + 1 ∧ i = .int .i64 q ∧ p ≤ q ∧ (∀ j, p ≤ j → j < q → stepHit f t d 0 j = false) ∧ W = w1)
  case atStart => exact ⟨p, by omega, by simp, Nat.le_refl _, fun j h1 h2 => by omega, rfl⟩
  case round =>
    obtain ⟨q, hqg, rfl, hpq, hst, rfl⟩ := hrel
    have HST := hide hst
    clear hst
    have g1 := (unhide T1).b1
    by_cases hlt : q < n
    · have hqn : (q : Int) < (n : Int) := by omega
      have hqz : (0 : Int) ≤ (q : Int) := by omega
      obtain ⟨_, _, e2, hn2, hv⟩ := (unhide H2).below (unhide T1).below
      cases e2
      obtain ⟨b, o, vv, rfl, hc0, hc1, -⟩ := hv q hlt
      clear hv hn2
      have wq : IntKind.i64.wrap ((q : Int) + 1) = ((q + 1 : Nat) : Int) := by rw [IntKind.wrap_i64]; omega
      cases e1 : (f q).kind == 1 with
      | true =>
        cases e3 : (f q).task == (t : Int) with
        | true =>
          have HE : Hid (stepHit f t d 0 q = true) := hide (by unfold stepHit mayEnd; rw [e3]; exact e1)
          go_wp2
          go_ret
          exact ⟨⟨_, rfl, unhide HI _ (.inl ⟨q, rfl, by omega, hlt, unhide HE, fun i h1 h2 => unhide HST i (by omega) h2⟩)⟩, (unhide T1).below⟩
        | false =>
          have HE : Hid (stepHit f t d 0 q = false) := hide (by unfold stepHit; rw [e3]; rfl)
          go_wp2
          go_roundg (n + 1 - (q + 1))
          case measure => omega
          case rel =>
            have hst' : ∀ j, p ≤ j → j < q + 1 → stepHit f t d 0 j = false := fun j h1 h2 => by
              by_cases e' : j = q
              · rw [e']; exact unhide HE
              · exact unhide HST j h1 (by omega)
            exact ⟨q + 1, by omega, by go_num, by omega, hst', rfl⟩
      | false =>
        have HE : Hid (stepHit f t d 0 q = false) := hide (by unfold stepHit mayEnd; simp [e1])
        go_wp2
        go_roundg (n + 1 - (q + 1))
        case measure => omega
        case rel =>
          have hst' : ∀ j, p ≤ j → j < q + 1 → stepHit f t d 0 j = false := fun j h1 h2 => by
            by_cases e' : j = q
            · rw [e']; exact unhide HE
            · exact unhide HST j h1 (by omega)
          exact ⟨q + 1, by omega, by go_num, by omega, hst', rfl⟩
    · have hqn : ¬ (q : Int) < (n : Int) := by omega
      go_wp2
      go_ret
      exact ⟨⟨_, rfl, unhide HI _ (.inr ⟨rfl, fun i h1 h2 => unhide HST i (by omega) (by omega)⟩)⟩, (unhide T1).below⟩

set_option maxRecDepth 100000 in
set_option maxHeartbeats 2000000 in
theorem l4before_any (lo : Nat) (v1 v2 : Value) (nf : Nat) (fns : Nat → ByteArray) (n : Nat) (f : Nat → M) (k : Int) (w : World) (h2 : MomsAt lo w v2 n f) (hs : Sound nf fns n f) (hk1 : -1 ≤ k) (hk2 : k ≤ n) :
    Calls Try.prog 103 #[.agg #[v1, v2], .int .i64 k] w fun e w' => (∃ z, e = .returned (.int .i64 z) ∧ StepIs n f k 3 z) ∧ Below w.heap.size w w' := by
  have H2 := hide h2
  obtain ⟨a2, cap2, rfl, hn2, -⟩ := h2
  have hn3 := hs.1.2.2.1
  have HS := hide hs; clear hs hn2
  have T0 := hide (TrBox.new w v1 (.slice a2 n cap2))
  have HI : Hid (∀ z, BackIs (stepHit f (St.after f (upto n k)).cur ((St.after f (upto n k)).tasks (St.after f (upto n k)).cur).length 3) k z → StepIs n f k 3 z) := hide (fun z hz => .inr ⟨rfl, hz⟩)
  go_enter Try.func103, Try.ntmps103
  go_wp2_with fail
  refine (l1stand_any lo _ _ nf fns n f k _ ((unhide H2).below (unhide T0).below) (unhide HS) hk1 hk2).mono ?_
  rintro e w1 ⟨⟨ps, rfl, bt, V, hc⟩, hb1⟩
  have T1 := hide ((unhide T0).go hb1)
  have c1 := hc.c1
  clear hc hb1 T0
  generalize ((St.after f (upto n k)).tasks (St.after f (upto n k)).cur).length = d at HI
  generalize (St.after f (upto n k)).cur = t at HI c1
  have wk : IntKind.i64.wrap (k - 1) = k - 1 := by rw [IntKind.wrap_i64]; omega
  go_wp2_with fail
  go_loopg [7] (k + 1).toNat (fun gg i W => ∃ z : Int, (gg : Int) = z + 2 ∧ i = .int .i64 z ∧ z < k ∧ (∀ j : Nat, z < (j : Int) → (j : Int) < k → stepHit f t d 3 j = false) ∧ W = w1)
  case atStart => exact ⟨k - 1, by omega, by simp, by omega, fun j h1 h2 => by omega, rfl⟩
  case round =>
    obtain ⟨z, hg, rfl, hzk, hst, rfl⟩ := hrel
    have HST := hide hst
    clear hst
    have g1 := (unhide T1).b1
    by_cases hz : 0 ≤ z
    · obtain ⟨q, rfl⟩ := Int.eq_ofNat_of_zero_le hz
      have hq0 : decide ((0 : Int) ≤ (q : Int)) = true := decide_eq_true hz
      have hlt : q < n := by omega
      have hqn : (q : Int) < (n : Int) := by omega
      have hqz : (0 : Int) ≤ (q : Int) := by omega
      obtain ⟨_, _, e2, hn2, hv⟩ := (unhide H2).below (unhide T1).below
      cases e2
      obtain ⟨b, o, vv, rfl, hc0, hc1, -⟩ := hv q hlt
      clear hv hn2
      have wq : IntKind.i64.wrap ((q : Int) - 1) = (q : Int) - 1 := by rw [IntKind.wrap_i64]; omega
      cases e1 : (f q).kind == 1 with
      | true =>
        cases e3 : (f q).task == (t : Int) with
        | true =>
          have HE : Hid (stepHit f t d 3 q = true) := hide (by unfold stepHit mayEnd; rw [e3]; exact e1)
          go_wp2
          go_ret
          exact ⟨⟨_, rfl, unhide HI _ (.inl ⟨q, rfl, hzk, unhide HE, fun i h1 h2 => unhide HST i (by omega) h2⟩)⟩, (unhide T1).below⟩
        | false =>
          have HE : Hid (stepHit f t d 3 q = false) := hide (by unfold stepHit; rw [e3]; rfl)
          go_wp2
          go_roundg ((q : Int) + 1).toNat
          case measure => omega
          case rel =>
            have hst' : ∀ j : Nat, (q : Int) - 1 < (j : Int) → (j : Int) < k → stepHit f t d 3 j = false := fun j h1 h2 => by
              by_cases e' : j = q
              · rw [e']; exact unhide HE
              · exact unhide HST j (by omega) h2
            exact ⟨(q : Int) - 1, by omega, by simp, by omega, hst', rfl⟩
      | false =>
        have HE : Hid (stepHit f t d 3 q = false) := hide (by unfold stepHit mayEnd; simp [e1])
        go_wp2
        go_roundg ((q : Int) + 1).toNat
        case measure => omega
        case rel =>
          have hst' : ∀ j : Nat, (q : Int) - 1 < (j : Int) → (j : Int) < k → stepHit f t d 3 j = false := fun j h1 h2 => by
            by_cases e' : j = q
            · rw [e']; exact unhide HE
            · exact unhide HST j (by omega) h2
          exact ⟨(q : Int) - 1, by omega, by simp, by omega, hst', rfl⟩
    · have hz0 : decide ((0 : Int) ≤ z) = false := decide_eq_false hz
      go_wp2
      go_ret
      exact ⟨⟨_, rfl, unhide HI _ (.inr ⟨rfl, fun i h1 => unhide HST i (by omega) h1⟩)⟩, (unhide T1).below⟩

/-- Where l4leave ends. -/
def leaveHit (f : Nat → M) (t d : Nat) (kd less : Int) (i : Nat) : Bool := ((f i).kind == kd) && ((f i).task == (t : Int)) && decide ((deepAt f t i : Int) ≤ (d : Int) - less)

def LeaveIs (n : Nat) (f : Nat → M) (k kd less z : Int) : Prop := FwdIs n (leaveHit f (St.after f (upto n k)).cur ((St.after f (upto n k)).tasks (St.after f (upto n k)).cur).length kd less) k z

theorem leave_over (f : Nat → M) (t d : Nat) : leaveHit f t d 1 0 = stepHit f t d 1 := by
  funext i
  unfold leaveHit stepHit mayEnd
  rw [show decide ((deepAt f t i : Int) ≤ (d : Int) - 0) = decide (deepAt f t i ≤ d) from by rw [decide_eq_decide]; omega]
  cases (f i).kind == 1 <;> cases (f i).task == (t : Int) <;> simp

theorem leave_out (f : Nat → M) (t d : Nat) : leaveHit f t d 3 1 = stepHit f t d 2 := by
  funext i
  unfold leaveHit stepHit mayEnd
  rw [show decide ((deepAt f t i : Int) ≤ (d : Int) - 1) = decide (deepAt f t i < d) from by rw [decide_eq_decide]; omega]
  cases (f i).kind == 3 <;> cases (f i).task == (t : Int) <;> simp

set_option maxRecDepth 100000 in
set_option maxHeartbeats 4000000 in
theorem l4leave_any (lo : Nat) (v1 v2 : Value) (nf : Nat) (fns : Nat → ByteArray) (n : Nat) (f : Nat → M) (k kd less : Int) (w : World) (h2 : MomsAt lo w v2 n f) (hs : Sound nf fns n f) (hk1 : -1 ≤ k) (hk2 : k ≤ n) (hl1 : 0 ≤ less) (hl2 : less ≤ 1) :
    Calls Try.prog 102 #[.agg #[v1, v2], .int .i64 k, .int .i64 kd, .int .i64 less] w fun e w' => (∃ z, e = .returned (.int .i64 z) ∧ LeaveIs n f k kd less z) ∧ Below w.heap.size w w' := by
  have H2 := hide h2
  obtain ⟨a2, cap2, rfl, hn2, -⟩ := h2
  have hn3 := hs.1.2.2.1
  have HS := hide hs; clear hs hn2
  have T0 := hide (TrBox.new w v1 (.slice a2 n cap2))
  have HI : Hid (∀ z, FwdIs n (leaveHit f (St.after f (upto n k)).cur ((St.after f (upto n k)).tasks (St.after f (upto n k)).cur).length kd less) k z → LeaveIs n f k kd less z) := hide (fun z hz => hz)
  go_enter Try.func102, Try.ntmps102
  go_wp2_with fail
  refine (l1stand_any lo _ _ nf fns n f k _ ((unhide H2).below (unhide T0).below) (unhide HS) hk1 hk2).mono ?_
  rintro e w1 ⟨⟨ps, rfl, hsp⟩, hb1⟩
  have T1 := hide ((unhide T0).go hb1)
  obtain ⟨B, hBe⟩ : ∃ B, B = (w.alloc (.cells #[v1, .slice a2 n cap2] 31)).heap.size + 1 := ⟨_, rfl⟩
  rw [← hBe] at hsp
  have HBE : Hid (B = w.heap.size + 2) := hide (by rw [hBe]; simp)
  have HSP0 : Hid (∀ p : Nat, k = (p : Int) - 1 → p ≤ n → SpecAt B w1 ps (St.after f p)) := hide (fun p hp hpn => by
    have e : upto n k = p := by unfold upto; omega
    rw [← e]; exact hsp)
  obtain ⟨bt, V, hc⟩ := hsp
  have c0 := hc.c0
  have c1 := hc.c1
  have hcur := hc.cur
  have cV := hc.row.cell hcur
  have hle := hc.len _ hcur
  obtain ⟨sa, scap, eV⟩ := owns_slice (hc.own _ hcur)
  rw [eV] at cV
  clear hc hb1 T0 hBe eV
  generalize ((St.after f (upto n k)).tasks (St.after f (upto n k)).cur).length = d at cV hle HI
  generalize (St.after f (upto n k)).cur = t at c1 cV hcur HI
  obtain ⟨p, hp⟩ : ∃ p : Nat, (p : Int) = k + 1 := ⟨(k + 1).toNat, by omega⟩
  obtain rfl : k = (p : Int) - 1 := by omega
  have HSP := hide (fun h => unhide HSP0 p rfl h)
  have wk : IntKind.i64.wrap ((p : Int) - 1 + 1) = (p : Int) := by rw [IntKind.wrap_i64]; omega
  have wd : IntKind.i64.wrap ((d : Int) - less) = (d : Int) - less := by rw [IntKind.wrap_i64]; omega
  have ht0 : (0 : Int) ≤ (t : Int) := by omega
  have ht1 : (t : Int) < 101 := by omega
  clear hp HSP0
  go_wp2_with fail
  go_loopg [12] (n + 1 - p) (fun gg i W => ∃ q : Nat, q + gg = n + 1 ∧ i = .int .i64 q ∧ p ≤ q ∧ (∀ j, p ≤ j → j < q → leaveHit f t d kd less j = false) ∧ (q ≤ n → SpecAt B W ps (St.after f q)) ∧ TrBox w v1 (.slice a2 n cap2) W)
  case atStart => exact ⟨p, by omega, by simp, Nat.le_refl _, fun j h1 h2 => by omega, unhide HSP, unhide T1⟩
  case round =>
    clear HSP T1 c0 c1 cV
    obtain ⟨q, hqg, rfl, hpq, hst, hsp, ht⟩ := hrel
    have HST := hide hst
    have HT := hide ht
    have g1 := (unhide HT).b1
    by_cases hlt : q < n
    · have HSP := hide (hsp (by omega))
      clear hst ht hsp
      have hqn : (q : Int) < (n : Int) := by omega
      have hqz : (0 : Int) ≤ (q : Int) := by omega
      obtain ⟨_, _, e2, hn2, hv⟩ := (unhide H2).below (unhide HT).below
      cases e2
      obtain ⟨bm, om, vv, rfl, hc0, hc1, hc2, hc3, hc4, hc5, -, hs2, -⟩ := hv q hlt
      clear hv hn2
      obtain ⟨av, capv, rfl, -⟩ := hs2
      have hmo := (unhide HS).2.1 q hlt
      have hm1 : 0 ≤ (f q).task := hmo.1.2.2.1
      have hm2 : (f q).task ≤ 100 := hmo.1.2.2.2.1
      clear hmo
      have wq : IntKind.i64.wrap ((q : Int) + 1) = ((q + 1 : Nat) : Int) := by rw [IntKind.wrap_i64]; omega
      have HBN := hide (below_new wr (.cells #[.int .i64 (f q).kind, .int .i64 (f q).task, .int .i64 (f q).fn, .int .i64 (f q).line, .string (f q).text, .slice av (f q).nv capv] 73))
      have HBX := hide (heap_alloc_new wr (.cells #[.int .i64 (f q).kind, .int .i64 (f q).task, .int .i64 (f q).fn, .int .i64 (f q).line, .string (f q).text, .slice av (f q).nv capv] 73))
      have hpsl : ps < wr.heap.size := by obtain ⟨_, _, hh⟩ := unhide HSP; exact cell_lt hh.c0
      go_wp2_with fail
      refine (move_any B ps (St.after f q) _ _ _ _ _ _ _ _ ((unhide HSP).below (unhide HBN)) hm1 hm2).mono ?_
      rintro e w2 ⟨rfl, hsp, hb2, hkp⟩
      have HT2 : Hid (TrBox w v1 (.slice (some ⟨bm, om, none⟩) n cap2) w2) := hide (Below.trans ((unhide HT).go (unhide HBN)) (hb2.mono (by have := unhide HBE; omega)))
      have HSP2 : Hid (SpecAt B w2 ps (St.after f (q + 1))) := hide (hsp ((unhide HS).2.2 q hlt))
      have HBX2 := hide ((hkp _ _ _ _ (unhide HBX) (by omega) (by decide) (by decide)).trans (unhide HBX))
      obtain ⟨mb, hmb⟩ : ∃ mb, mb = wr.heap.size := ⟨_, rfl⟩
      rw [← hmb] at HBX2
      rw [← hmb]
      have m0 : w2.cell? ⟨mb, 0, none⟩ = some (.int .i64 (f q).kind) := by rw [cell_of_row w2 mb 0 _ _ _ (unhide HBX2)]; rfl
      have m1 : w2.cell? ⟨mb, 1, none⟩ = some (.int .i64 (f q).task) := by rw [cell_of_row w2 mb 1 _ _ _ (unhide HBX2)]; rfl
      clear hsp hb2 hkp hmb hc0 hc1 hc2 hc3 hc4 hc5 HBN HBX HT HSP hpsl HBX2 g1
      generalize hcd : code (St.after f q) (f q).kind (f q).task (f q).fn = cd
      clear hcd
      cases e1 : (f q).kind == kd with
      | true =>
        cases e3 : (f q).task == (t : Int) with
        | true =>
          obtain ⟨bt, V, hc⟩ := unhide HSP2
          have c0 := hc.c0
          have cV := hc.row.cell hcur
          have hle2 := hc.len _ hcur
          obtain ⟨sa, scap, eV⟩ := owns_slice (hc.own _ hcur)
          rw [eV] at cV
          clear hc eV
          have hdp : ((St.after f (q + 1)).tasks t).length = deepAt f t q := rfl
          rw [hdp] at cV hle2
          clear hdp
          cases e4 : decide ((deepAt f t q : Int) ≤ (d : Int) - less) with
          | true =>
            have HE : Hid (leaveHit f t d kd less q = true) := hide (by unfold leaveHit; rw [e1, e3, e4]; rfl)
            go_wp2
            go_ret
            exact ⟨⟨_, rfl, unhide HI _ (.inl ⟨q, rfl, by omega, hlt, unhide HE, fun i h1 h2 => unhide HST i (by omega) h2⟩)⟩, (unhide HT2).below⟩
          | false =>
            have HE : Hid (leaveHit f t d kd less q = false) := hide (by unfold leaveHit; rw [e1, e3, e4]; rfl)
            go_wp2
            go_roundg (n + 1 - (q + 1))
            case measure => omega
            case rel =>
              have hst' : ∀ j, p ≤ j → j < q + 1 → leaveHit f t d kd less j = false := fun j h1 h2 => by
                by_cases e' : j = q
                · rw [e']; exact unhide HE
                · exact unhide HST j h1 (by omega)
              exact ⟨q + 1, by omega, by go_num, by omega, hst', fun _ => unhide HSP2, unhide HT2⟩
        | false =>
          have HE : Hid (leaveHit f t d kd less q = false) := hide (by unfold leaveHit; rw [e1, e3]; rfl)
          go_wp2
          go_roundg (n + 1 - (q + 1))
          case measure => omega
          case rel =>
            have hst' : ∀ j, p ≤ j → j < q + 1 → leaveHit f t d kd less j = false := fun j h1 h2 => by
              by_cases e' : j = q
              · rw [e']; exact unhide HE
              · exact unhide HST j h1 (by omega)
            exact ⟨q + 1, by omega, by go_num, by omega, hst', fun _ => unhide HSP2, unhide HT2⟩
      | false =>
        have HE : Hid (leaveHit f t d kd less q = false) := hide (by unfold leaveHit; rw [e1]; rfl)
        go_wp2
        go_roundg (n + 1 - (q + 1))
        case measure => omega
        case rel =>
          have hst' : ∀ j, p ≤ j → j < q + 1 → leaveHit f t d kd less j = false := fun j h1 h2 => by
            by_cases e' : j = q
            · rw [e']; exact unhide HE
            · exact unhide HST j h1 (by omega)
          exact ⟨q + 1, by omega, by go_num, by omega, hst', fun _ => unhide HSP2, unhide HT2⟩
    · have hqn : ¬ (q : Int) < (n : Int) := by omega
      clear hst ht hsp
      go_wp2
      go_ret
      exact ⟨⟨_, rfl, unhide HI _ (.inr ⟨rfl, fun i h1 h2 => unhide HST i (by omega) (by omega)⟩)⟩, (unhide HT).below⟩

set_option maxRecDepth 100000 in
set_option maxHeartbeats 1000000 in
theorem specInto_any (lo : Nat) (v1 v2 : Value) (nf : Nat) (fns : Nat → ByteArray) (n : Nat) (f : Nat → M) (k : Int) (w : World) (h1 : StrsAt lo w v1 nf fns) (h2 : MomsAt lo w v2 n f) :
    Calls Try.prog 52 #[.agg #[v1, v2], .int .i64 k] w fun e w' => StepSay nf fns n f k 0 e ∧ Below w.heap.size w w' := by
  have H1 := hide h1; clear h1
  have H2 := hide h2; clear h2
  have T0 := hide (TrBox.new w v1 v2)
  go_enter Try.func52, Try.ntmps52
  go_wp2_with fail
  refine (l4good_any lo _ _ nf fns n f k _ ((unhide H1).below (unhide T0).below) ((unhide H2).below (unhide T0).below)).mono ?_
  rintro e w1 ⟨⟨b, rfl, hb⟩, hb1⟩
  have T1 := hide ((unhide T0).go hb1); clear hb1 T0
  cases b with
  | false =>
    have HN : Hid (¬ (Sound nf fns n f ∧ (-1 ≤ k ∧ k ≤ (n : Int)))) := hide (fun h => by have := hb.2 h; cases this)
    clear hb
    go_wp2
    go_ret
    exact ⟨.inr ⟨unhide HN, rfl⟩, (unhide T1).below⟩
  | true =>
    have HG := hide (hb.1 rfl)
    clear hb
    have g0 := (unhide T1).b0
    have g1 := (unhide T1).b1
    go_wp2_with fail
    refine (l4into_any lo _ _ nf fns n f k _ ((unhide H2).below (unhide T1).below) (unhide HG).1 (unhide HG).2.1 (unhide HG).2.2).mono ?_
    rintro e w2 ⟨⟨z, rfl, hz⟩, hb2⟩
    have T2 := hide ((unhide T1).go hb2)
    have HZ : Hid (StepIs n f k 0 z) := hide hz
    clear hb2 hz
    go_wp2
    go_ret
    exact ⟨.inl ⟨unhide HG, z, rfl, unhide HZ⟩, (unhide T2).below⟩

set_option maxRecDepth 100000 in
set_option maxHeartbeats 1000000 in
theorem specOver_any (lo : Nat) (v1 v2 : Value) (nf : Nat) (fns : Nat → ByteArray) (n : Nat) (f : Nat → M) (k : Int) (w : World) (h1 : StrsAt lo w v1 nf fns) (h2 : MomsAt lo w v2 n f) :
    Calls Try.prog 54 #[.agg #[v1, v2], .int .i64 k] w fun e w' => StepSay nf fns n f k 1 e ∧ Below w.heap.size w w' := by
  have H1 := hide h1; clear h1
  have H2 := hide h2; clear h2
  have T0 := hide (TrBox.new w v1 v2)
  go_enter Try.func54, Try.ntmps54
  go_wp2_with fail
  refine (l4good_any lo _ _ nf fns n f k _ ((unhide H1).below (unhide T0).below) ((unhide H2).below (unhide T0).below)).mono ?_
  rintro e w1 ⟨⟨b, rfl, hb⟩, hb1⟩
  have T1 := hide ((unhide T0).go hb1); clear hb1 T0
  cases b with
  | false =>
    have HN : Hid (¬ (Sound nf fns n f ∧ (-1 ≤ k ∧ k ≤ (n : Int)))) := hide (fun h => by have := hb.2 h; cases this)
    clear hb
    go_wp2
    go_ret
    exact ⟨.inr ⟨unhide HN, rfl⟩, (unhide T1).below⟩
  | true =>
    have HG := hide (hb.1 rfl)
    clear hb
    have g0 := (unhide T1).b0
    have g1 := (unhide T1).b1
    go_wp2_with fail
    refine (l4leave_any lo _ _ nf fns n f k 1 0 _ ((unhide H2).below (unhide T1).below) (unhide HG).1 (unhide HG).2.1 (unhide HG).2.2 (by omega) (by omega)).mono ?_
    rintro e w2 ⟨⟨z, rfl, hz⟩, hb2⟩
    have T2 := hide ((unhide T1).go hb2)
    have HZ : Hid (StepIs n f k 1 z) := hide (.inl ⟨by omega, by rw [← leave_over]; exact hz⟩)
    clear hb2 hz
    go_wp2
    go_ret
    exact ⟨.inl ⟨unhide HG, z, rfl, unhide HZ⟩, (unhide T2).below⟩

set_option maxRecDepth 100000 in
set_option maxHeartbeats 1000000 in
theorem specOut_any (lo : Nat) (v1 v2 : Value) (nf : Nat) (fns : Nat → ByteArray) (n : Nat) (f : Nat → M) (k : Int) (w : World) (h1 : StrsAt lo w v1 nf fns) (h2 : MomsAt lo w v2 n f) :
    Calls Try.prog 56 #[.agg #[v1, v2], .int .i64 k] w fun e w' => StepSay nf fns n f k 2 e ∧ Below w.heap.size w w' := by
  have H1 := hide h1; clear h1
  have H2 := hide h2; clear h2
  have T0 := hide (TrBox.new w v1 v2)
  go_enter Try.func56, Try.ntmps56
  go_wp2_with fail
  refine (l4good_any lo _ _ nf fns n f k _ ((unhide H1).below (unhide T0).below) ((unhide H2).below (unhide T0).below)).mono ?_
  rintro e w1 ⟨⟨b, rfl, hb⟩, hb1⟩
  have T1 := hide ((unhide T0).go hb1); clear hb1 T0
  cases b with
  | false =>
    have HN : Hid (¬ (Sound nf fns n f ∧ (-1 ≤ k ∧ k ≤ (n : Int)))) := hide (fun h => by have := hb.2 h; cases this)
    clear hb
    go_wp2
    go_ret
    exact ⟨.inr ⟨unhide HN, rfl⟩, (unhide T1).below⟩
  | true =>
    have HG := hide (hb.1 rfl)
    clear hb
    have g0 := (unhide T1).b0
    have g1 := (unhide T1).b1
    go_wp2_with fail
    refine (l4leave_any lo _ _ nf fns n f k 3 1 _ ((unhide H2).below (unhide T1).below) (unhide HG).1 (unhide HG).2.1 (unhide HG).2.2 (by omega) (by omega)).mono ?_
    rintro e w2 ⟨⟨z, rfl, hz⟩, hb2⟩
    have T2 := hide ((unhide T1).go hb2)
    have HZ : Hid (StepIs n f k 2 z) := hide (.inl ⟨by omega, by rw [← leave_out]; exact hz⟩)
    clear hb2 hz
    go_wp2
    go_ret
    exact ⟨.inl ⟨unhide HG, z, rfl, unhide HZ⟩, (unhide T2).below⟩

set_option maxRecDepth 100000 in
set_option maxHeartbeats 1000000 in
theorem specBefore_any (lo : Nat) (v1 v2 : Value) (nf : Nat) (fns : Nat → ByteArray) (n : Nat) (f : Nat → M) (k : Int) (w : World) (h1 : StrsAt lo w v1 nf fns) (h2 : MomsAt lo w v2 n f) :
    Calls Try.prog 58 #[.agg #[v1, v2], .int .i64 k] w fun e w' => StepSay nf fns n f k 3 e ∧ Below w.heap.size w w' := by
  have H1 := hide h1; clear h1
  have H2 := hide h2; clear h2
  have T0 := hide (TrBox.new w v1 v2)
  go_enter Try.func58, Try.ntmps58
  go_wp2_with fail
  refine (l4good_any lo _ _ nf fns n f k _ ((unhide H1).below (unhide T0).below) ((unhide H2).below (unhide T0).below)).mono ?_
  rintro e w1 ⟨⟨b, rfl, hb⟩, hb1⟩
  have T1 := hide ((unhide T0).go hb1); clear hb1 T0
  cases b with
  | false =>
    have HN : Hid (¬ (Sound nf fns n f ∧ (-1 ≤ k ∧ k ≤ (n : Int)))) := hide (fun h => by have := hb.2 h; cases this)
    clear hb
    go_wp2
    go_ret
    exact ⟨.inr ⟨unhide HN, rfl⟩, (unhide T1).below⟩
  | true =>
    have HG := hide (hb.1 rfl)
    clear hb
    have g0 := (unhide T1).b0
    have g1 := (unhide T1).b1
    go_wp2_with fail
    refine (l4before_any lo _ _ nf fns n f k _ ((unhide H2).below (unhide T1).below) (unhide HG).1 (unhide HG).2.1 (unhide HG).2.2).mono ?_
    rintro e w2 ⟨⟨z, rfl, hz⟩, hb2⟩
    have T2 := hide ((unhide T1).go hb2)
    have HZ : Hid (StepIs n f k 3 z) := hide hz
    clear hb2 hz
    go_wp2
    go_ret
    exact ⟨.inl ⟨unhide HG, z, rfl, unhide HZ⟩, (unhide T2).below⟩

end Go.Proofs.Ytoiacbdnkkolmab
