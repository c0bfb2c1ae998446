import Derived.Test.YtmnmeaeicjhkhaaGreatDoorGFz
import Derived.Laws.EntriesVeiled
import Derived.WalkMore
import Derived.Deep.LoopGhost
namespace Go.Proofs.YtmnmeaeicjhkhaaGreatDoor
open Go.RowKit Go.Lib

set_option maxRecDepth 100000 in
set_option maxHeartbeats 2000000 in
theorem ways_any (lo : Nat) (mv pv : Value) (n : Nat) (f : Nat → M) (k : Int) (t d : Nat) (w : World) (h2 : MomsAt lo w mv n f) (hp : ∃ a m c, pv = .slice a m c) :
    Calls Tryz.prog 174 #[startV mv pv k t d] w fun e w' => e = .returned (.agg #[.func (.func 214) #[.agg #[mv, pv, .int .i64 k, .int .i64 (t : Int), .int .i64 (d : Int)]] #[], .int .i64 1, .int .i64 (n : Int), .func (.func 215) #[.agg #[mv, pv, .int .i64 k, .int .i64 (t : Int), .int .i64 (d : Int)]] #[], .int .i64 1, .int .i64 (n : Int), .func (.func 216) #[.agg #[mv, pv, .int .i64 k, .int .i64 (t : Int), .int .i64 (d : Int)]] #[], .int .i64 1, .int .i64 (n : Int), .func (.func 214) #[.agg #[mv, pv, .int .i64 k, .int .i64 (t : Int), .int .i64 (d : Int)]] #[], .int .i64 (-1), .int .i64 (-1)]) ∧ Below w.heap.size w w' := by
  obtain ⟨pa, pn, pc, rfl⟩ := hp
  obtain ⟨a2, cap2, rfl, hn2, -⟩ := h2
  unfold maxLen at hn2
  go_enter Tryz.func174, Tryz.ntmps174
  go_wp2
  refine bodyPost_ret (v := .agg #[.func (.func 214) #[.agg #[.slice a2 n cap2, .slice pa pn pc, .int .i64 k, .int .i64 (t : Int), .int .i64 (d : Int)]] #[], .int .i64 1, .int .i64 (n : Int), .func (.func 215) #[.agg #[.slice a2 n cap2, .slice pa pn pc, .int .i64 k, .int .i64 (t : Int), .int .i64 (d : Int)]] #[], .int .i64 1, .int .i64 (n : Int), .func (.func 216) #[.agg #[.slice a2 n cap2, .slice pa pn pc, .int .i64 k, .int .i64 (t : Int), .int .i64 (d : Int)]] #[], .int .i64 1, .int .i64 (n : Int), .func (.func 214) #[.agg #[.slice a2 n cap2, .slice pa pn pc, .int .i64 k, .int .i64 (t : Int), .int .i64 (d : Int)]] #[], .int .i64 (-1), .int .i64 (-1)]) (by simp [results, Tryz.results174, go_sem]) rfl ⟨rfl, ((Below.refl _ _).alloc (Nat.le_refl _) _).alloc (by simp) _⟩

/-- The two boxes of a walk. -/
def WkBox (w : World) (mv pv : Value) (k : Int) (t d : Nat) (fv : Value) (by_ none_ : Int) (w' : World) : Prop :=
  Below (w.heap.size + 2) ((w.alloc (.cells #[mv, pv, .int .i64 k, .int .i64 (t : Int), .int .i64 (d : Int)] 264)).alloc (.cells #[fv, .int .i64 by_, .int .i64 none_] 267)) w'

section
variable {w w' : World} {mv pv : Value} {k : Int} {t d : Nat} {fv : Value} {by_ none_ : Int} (h : WkBox w mv pv k t d fv by_ none_ w')
include h
theorem WkBox.below : Below w.heap.size w w' := (((Below.refl _ _).alloc (Nat.le_refl _) _).alloc (by simp) _).trans (Below.mono h (by omega))
theorem WkBox.size : w.heap.size + 2 ≤ w'.heap.size := by have := Below.size h; simpa using this
theorem WkBox.go {w'' : World} (hb : Below w'.heap.size w' w'') : WkBox w mv pv k t d fv by_ none_ w'' := Below.trans h (hb.mono h.size)
theorem WkBox.b0 : w'.cell? ⟨w.heap.size, 0, none⟩ = some mv := by rw [Below.cell h (by simp), World.cell?_alloc_old _ _ _ (by simp), cell_alloc_at _ _ _ _ _ rfl]; rfl
theorem WkBox.b3 : w'.cell? ⟨w.heap.size, 3, none⟩ = some (.int .i64 (t : Int)) := by rw [Below.cell h (by simp), World.cell?_alloc_old _ _ _ (by simp), cell_alloc_at _ _ _ _ _ rfl]; rfl
theorem WkBox.c0 : w'.cell? ⟨w.heap.size + 1, 0, none⟩ = some fv := by rw [Below.cell h (by simp), cell_alloc_at _ _ _ _ _ (by simp)]; rfl
theorem WkBox.c1 : w'.cell? ⟨w.heap.size + 1, 1, none⟩ = some (.int .i64 by_) := by rw [Below.cell h (by simp), cell_alloc_at _ _ _ _ _ (by simp)]; rfl
end

set_option maxRecDepth 100000 in
set_option maxHeartbeats 4000000 in
theorem walk0_any (lo lp : Nat) (mv pv : Value) (nf : Nat) (fns : Nat → ByteArray) (n : Nat) (f : Nat → M) (k : Int) (t d : Nat) (w : World) (h2 : MomsAt lo w mv n f) (hp : PlacesAt lp w pv n f) (hs : Sound nf fns n f) (hk0 : -1 ≤ k) (hk1 : k ≤ n) :
    Calls Tryz.prog 173 #[startV mv pv k t d, .agg #[.func (.func 214) #[.agg #[mv, pv, .int .i64 k, .int .i64 (t : Int), .int .i64 (d : Int)]] #[], .int .i64 1, .int .i64 (n : Int)]] w fun e w' => (∃ z, e = .returned (.int .i64 z) ∧ FwdIs n (stepHit f t d 0) k z) ∧ Below w.heap.size w w' := by
  have H2 := hide h2
  have HP := hide hp
  have HS := hide hs
  have h3 := hs.1.2.2.1
  obtain ⟨a2, cap2, rfl, hn2, -⟩ := h2
  obtain ⟨xs, ho, -⟩ := hp
  obtain ⟨pa, pn, pc, rfl⟩ : ∃ a m c, pv = .slice a m c := by
    rcases ho.2 with ⟨rfl, _⟩ | ⟨g, cap, cur, rfl, _⟩
    · exact ⟨_, _, _, rfl⟩
    · exact ⟨_, _, _, rfl⟩
  clear ho hs hn2
  obtain ⟨p, hp⟩ : ∃ p : Nat, (p : Int) = k + 1 := ⟨(k + 1).toNat, by omega⟩
  obtain rfl : k = (p : Int) - 1 := by omega
  have wk : IntKind.i64.wrap ((p : Int) - 1 + 1) = (p : Int) := by rw [IntKind.wrap_i64]; omega
  clear hp
  have T0 : Hid (WkBox w (.slice a2 n cap2) (.slice pa pn pc) ((p : Int) - 1) t d (.func (.func 214) #[.agg #[.slice a2 n cap2, .slice pa pn pc, .int .i64 ((p : Int) - 1), .int .i64 (t : Int), .int .i64 (d : Int)]] #[]) 1 n _) := hide (Below.refl _ _)
  go_enter Tryz.func173, Tryz.ntmps173
  go_wp2
  go_step3
  go_wp2
  go_step3
  go_wp2
  go_loopg [5, 6] (n + 1 - p) (fun gg fo i W => ∃ q : Nat, q + gg = n + 1 ∧ fo = .int .i64 n ∧ i = .int .i64 q ∧ p ≤ q ∧ (∀ j, p ≤ j → j < q → stepHit f t d 0 j = false) ∧ WkBox w (.slice a2 n cap2) (.slice pa pn pc) ((p : Int) - 1) t d (.func (.func 214) #[.agg #[.slice a2 n cap2, .slice pa pn pc, .int .i64 ((p : Int) - 1), .int .i64 (t : Int), .int .i64 (d : Int)]] #[]) 1 n W)
  case atStart => exact ⟨p, by omega, rfl, by simp, Nat.le_refl _, fun j h1 h2 => by omega, unhide T0⟩
  case round =>
    obtain ⟨q, hqg, rfl, rfl, hpq, hst, ht⟩ := hrel
    have HST := hide hst
    have HT := hide ht
    clear hst ht T0
    have hq0 : decide ((0 : Int) ≤ (q : Int)) = true := decide_eq_true (by omega)
    have x0 := (unhide HT).b0
    have x3 := (unhide HT).b3
    have y0 := (unhide HT).c0
    have y1 := (unhide HT).c1
    by_cases hlt : q < n
    · have hqn : (q : Int) < (n : Int) := by omega
      have hqz : (0 : Int) ≤ (q : Int) := by omega
      have HM := (unhide H2).below (unhide HT).below
      have HMM := hide HM
      obtain ⟨_, _, e2, hn2, hv⟩ := HM
      cases e2
      obtain ⟨b, o, vv, rfl, -, hc1, -⟩ := hv q hlt
      clear hv hn2
      have wq : IntKind.i64.wrap ((q : Int) + 1) = ((q + 1 : Nat) : Int) := by rw [IntKind.wrap_i64]; omega
      by_cases htk : (f q).task = (t : Int)
      · have HTQ := hide htk
        rw [htk] at hc1
        clear htk
        go_wp2_with fail
        go_quiet (fail)
        generalize hwd : wr.drewN _ = wd
        have HTD : Hid (WkBox w (.slice (some ⟨b, o, none⟩) n cap2) (.slice pa pn pc) ((p : Int) - 1) t d (.func (.func 214) #[.agg #[.slice (some ⟨b, o, none⟩) n cap2, .slice pa pn pc, .int .i64 ((p : Int) - 1), .int .i64 (t : Int), .int .i64 (d : Int)]] #[]) 1 n wd) := hide ((unhide HT).go (by rw [← hwd]; exact below_drewN (Below.refl _ _) _))
        clear hwd x0 x3 y0 y1 hc1
        have HMD := (unhide H2).below (unhide HTD).below
        have HPD := (unhide HP).below (unhide HTD).below
        have y0 := (unhide HTD).c0
        go_wp2_with fail
        refine (begins_any lo _ _ n f ((p : Int) - 1) t d q _ HMD hlt).mono ?_
        rintro e wA ⟨rfl, hbA⟩
        have HTA := hide ((unhide HTD).go hbA)
        have y1 := (unhide HTA).c1
        clear hbA HTD HMD HPD y0
        cases em : (f q).kind == 1 with
        | true =>
          have HE : Hid (stepHit f t d 0 q = true) := hide (by unfold stepHit; rw [unhide HTQ, beq_self_eq_true, Bool.true_and]; exact em)
          clear em
          go_wp2
          try rw [Exit.noGoto_ret]
          go_ret
          exact ⟨⟨_, rfl, .inl ⟨q, rfl, by omega, hlt, unhide HE, fun i h1 h2 => unhide HST i (by omega) h2⟩⟩, (unhide HTA).below⟩
        | false =>
          have HE : Hid (stepHit f t d 0 q = false) := hide (by unfold stepHit; rw [unhide HTQ, beq_self_eq_true, Bool.true_and]; exact em)
          clear em
          go_wp2
          go_roundg (n + 1 - (q + 1))
          case measure => omega
          case rel =>
            have hst' : ∀ j, p ≤ j → j < q + 1 → stepHit f t d 0 j = false := fun j h1 h2 => by
              by_cases e' : j = q
              · rw [e']; exact unhide HE
              · exact unhide HST j h1 (by omega)
            exact ⟨q + 1, by omega, rfl, by go_num, by omega, hst', unhide HTA⟩
      · have hbt : ((f q).task == (t : Int)) = false := by simpa using htk
        have HE : Hid (stepHit f t d 0 q = false) := hide (by unfold stepHit; rw [hbt]; rfl)
        clear htk
        go_wp2_with fail
        go_quiet (fail)
        generalize hwd : wr.drewN _ = wd
        have HTD : Hid (WkBox w (.slice (some ⟨b, o, none⟩) n cap2) (.slice pa pn pc) ((p : Int) - 1) t d (.func (.func 214) #[.agg #[.slice (some ⟨b, o, none⟩) n cap2, .slice pa pn pc, .int .i64 ((p : Int) - 1), .int .i64 (t : Int), .int .i64 (d : Int)]] #[]) 1 n wd) := hide ((unhide HT).go (by rw [← hwd]; exact below_drewN (Below.refl _ _) _))
        clear hwd x0 x3 y0 y1 hc1
        have y1 := (unhide HTD).c1
        go_wp2
        go_roundg (n + 1 - (q + 1))
        case measure => omega
        case rel =>
          have hst' : ∀ j, p ≤ j → j < q + 1 → stepHit f t d 0 j = false := fun j h1 h2 => by
            by_cases e' : j = q
            · rw [e']; exact unhide HE
            · exact unhide HST j h1 (by omega)
          exact ⟨q + 1, by omega, rfl, by go_num, by omega, hst', unhide HTD⟩
    · have hqn : ¬ (q : Int) < (n : Int) := by omega
      go_wp2
      try rw [Exit.noGoto_ret]
      go_ret
      exact ⟨⟨_, rfl, .inr ⟨rfl, fun i h1 h2 => unhide HST i (by omega) (by omega)⟩⟩, (unhide HT).below⟩

set_option maxRecDepth 100000 in
set_option maxHeartbeats 4000000 in
theorem walk1_any (lo lp : Nat) (mv pv : Value) (nf : Nat) (fns : Nat → ByteArray) (n : Nat) (f : Nat → M) (k : Int) (t d : Nat) (w : World) (h2 : MomsAt lo w mv n f) (hp : PlacesAt lp w pv n f) (hs : Sound nf fns n f) (hk0 : -1 ≤ k) (hk1 : k ≤ n) :
    Calls Tryz.prog 173 #[startV mv pv k t d, .agg #[.func (.func 215) #[.agg #[mv, pv, .int .i64 k, .int .i64 (t : Int), .int .i64 (d : Int)]] #[], .int .i64 1, .int .i64 (n : Int)]] w fun e w' => (∃ z, e = .returned (.int .i64 z) ∧ FwdIs n (stepHit f t d 1) k z) ∧ Below w.heap.size w w' := by
  have H2 := hide h2
  have HP := hide hp
  have HS := hide hs
  have h3 := hs.1.2.2.1
  obtain ⟨a2, cap2, rfl, hn2, -⟩ := h2
  obtain ⟨xs, ho, -⟩ := hp
  obtain ⟨pa, pn, pc, rfl⟩ : ∃ a m c, pv = .slice a m c := by
    rcases ho.2 with ⟨rfl, _⟩ | ⟨g, cap, cur, rfl, _⟩
    · exact ⟨_, _, _, rfl⟩
    · exact ⟨_, _, _, rfl⟩
  clear ho hs hn2
  obtain ⟨p, hp⟩ : ∃ p : Nat, (p : Int) = k + 1 := ⟨(k + 1).toNat, by omega⟩
  obtain rfl : k = (p : Int) - 1 := by omega
  have wk : IntKind.i64.wrap ((p : Int) - 1 + 1) = (p : Int) := by rw [IntKind.wrap_i64]; omega
  clear hp
  have T0 : Hid (WkBox w (.slice a2 n cap2) (.slice pa pn pc) ((p : Int) - 1) t d (.func (.func 215) #[.agg #[.slice a2 n cap2, .slice pa pn pc, .int .i64 ((p : Int) - 1), .int .i64 (t : Int), .int .i64 (d : Int)]] #[]) 1 n _) := hide (Below.refl _ _)
  go_enter Tryz.func173, Tryz.ntmps173
  go_wp2
  go_step3
  go_wp2
  go_step3
  go_wp2
  go_loopg [5, 6] (n + 1 - p) (fun gg fo i W => ∃ q : Nat, q + gg = n + 1 ∧ fo = .int .i64 n ∧ i = .int .i64 q ∧ p ≤ q ∧ (∀ j, p ≤ j → j < q → stepHit f t d 1 j = false) ∧ WkBox w (.slice a2 n cap2) (.slice pa pn pc) ((p : Int) - 1) t d (.func (.func 215) #[.agg #[.slice a2 n cap2, .slice pa pn pc, .int .i64 ((p : Int) - 1), .int .i64 (t : Int), .int .i64 (d : Int)]] #[]) 1 n W)
  case atStart => exact ⟨p, by omega, rfl, by simp, Nat.le_refl _, fun j h1 h2 => by omega, unhide T0⟩
  case round =>
    obtain ⟨q, hqg, rfl, rfl, hpq, hst, ht⟩ := hrel
    have HST := hide hst
    have HT := hide ht
    clear hst ht T0
    have hq0 : decide ((0 : Int) ≤ (q : Int)) = true := decide_eq_true (by omega)
    have x0 := (unhide HT).b0
    have x3 := (unhide HT).b3
    have y0 := (unhide HT).c0
    have y1 := (unhide HT).c1
    by_cases hlt : q < n
    · have hqn : (q : Int) < (n : Int) := by omega
      have hqz : (0 : Int) ≤ (q : Int) := by omega
      have HM := (unhide H2).below (unhide HT).below
      have HMM := hide HM
      obtain ⟨_, _, e2, hn2, hv⟩ := HM
      cases e2
      obtain ⟨b, o, vv, rfl, -, hc1, -⟩ := hv q hlt
      clear hv hn2
      have wq : IntKind.i64.wrap ((q : Int) + 1) = ((q + 1 : Nat) : Int) := by rw [IntKind.wrap_i64]; omega
      by_cases htk : (f q).task = (t : Int)
      · have HTQ := hide htk
        rw [htk] at hc1
        clear htk
        go_wp2_with fail
        go_quiet (fail)
        generalize hwd : wr.drewN _ = wd
        have HTD : Hid (WkBox w (.slice (some ⟨b, o, none⟩) n cap2) (.slice pa pn pc) ((p : Int) - 1) t d (.func (.func 215) #[.agg #[.slice (some ⟨b, o, none⟩) n cap2, .slice pa pn pc, .int .i64 ((p : Int) - 1), .int .i64 (t : Int), .int .i64 (d : Int)]] #[]) 1 n wd) := hide ((unhide HT).go (by rw [← hwd]; exact below_drewN (Below.refl _ _) _))
        clear hwd x0 x3 y0 y1 hc1
        have HMD := (unhide H2).below (unhide HTD).below
        have HPD := (unhide HP).below (unhide HTD).below
        have y0 := (unhide HTD).c0
        go_wp2_with fail
        refine (beginsNoDeeper_any lo lp _ _ nf fns n f ((p : Int) - 1) t d q _ HMD HPD (unhide HS) hlt (unhide HTQ)).mono ?_
        rintro e wA ⟨rfl, hbA⟩
        have HTA := hide ((unhide HTD).go hbA)
        have y1 := (unhide HTA).c1
        clear hbA HTD HMD HPD y0
        cases em : mayEnd f t d 1 q with
        | true =>
          have HE : Hid (stepHit f t d 1 q = true) := hide (by unfold stepHit; rw [unhide HTQ, beq_self_eq_true, Bool.true_and]; exact em)
          clear em
          go_wp2
          try rw [Exit.noGoto_ret]
          go_ret
          exact ⟨⟨_, rfl, .inl ⟨q, rfl, by omega, hlt, unhide HE, fun i h1 h2 => unhide HST i (by omega) h2⟩⟩, (unhide HTA).below⟩
        | false =>
          have HE : Hid (stepHit f t d 1 q = false) := hide (by unfold stepHit; rw [unhide HTQ, beq_self_eq_true, Bool.true_and]; exact em)
          clear em
          go_wp2
          go_roundg (n + 1 - (q + 1))
          case measure => omega
          case rel =>
            have hst' : ∀ j, p ≤ j → j < q + 1 → stepHit f t d 1 j = false := fun j h1 h2 => by
              by_cases e' : j = q
              · rw [e']; exact unhide HE
              · exact unhide HST j h1 (by omega)
            exact ⟨q + 1, by omega, rfl, by go_num, by omega, hst', unhide HTA⟩
      · have hbt : ((f q).task == (t : Int)) = false := by simpa using htk
        have HE : Hid (stepHit f t d 1 q = false) := hide (by unfold stepHit; rw [hbt]; rfl)
        clear htk
        go_wp2_with fail
        go_quiet (fail)
        generalize hwd : wr.drewN _ = wd
        have HTD : Hid (WkBox w (.slice (some ⟨b, o, none⟩) n cap2) (.slice pa pn pc) ((p : Int) - 1) t d (.func (.func 215) #[.agg #[.slice (some ⟨b, o, none⟩) n cap2, .slice pa pn pc, .int .i64 ((p : Int) - 1), .int .i64 (t : Int), .int .i64 (d : Int)]] #[]) 1 n wd) := hide ((unhide HT).go (by rw [← hwd]; exact below_drewN (Below.refl _ _) _))
        clear hwd x0 x3 y0 y1 hc1
        have y1 := (unhide HTD).c1
        go_wp2
        go_roundg (n + 1 - (q + 1))
        case measure => omega
        case rel =>
          have hst' : ∀ j, p ≤ j → j < q + 1 → stepHit f t d 1 j = false := fun j h1 h2 => by
            by_cases e' : j = q
            · rw [e']; exact unhide HE
            · exact unhide HST j h1 (by omega)
          exact ⟨q + 1, by omega, rfl, by go_num, by omega, hst', unhide HTD⟩
    · have hqn : ¬ (q : Int) < (n : Int) := by omega
      go_wp2
      try rw [Exit.noGoto_ret]
      go_ret
      exact ⟨⟨_, rfl, .inr ⟨rfl, fun i h1 h2 => unhide HST i (by omega) (by omega)⟩⟩, (unhide HT).below⟩

set_option maxRecDepth 100000 in
set_option maxHeartbeats 4000000 in
theorem walk2_any (lo lp : Nat) (mv pv : Value) (nf : Nat) (fns : Nat → ByteArray) (n : Nat) (f : Nat → M) (k : Int) (t d : Nat) (w : World) (h2 : MomsAt lo w mv n f) (hp : PlacesAt lp w pv n f) (hs : Sound nf fns n f) (hk0 : -1 ≤ k) (hk1 : k ≤ n) :
    Calls Tryz.prog 173 #[startV mv pv k t d, .agg #[.func (.func 216) #[.agg #[mv, pv, .int .i64 k, .int .i64 (t : Int), .int .i64 (d : Int)]] #[], .int .i64 1, .int .i64 (n : Int)]] w fun e w' => (∃ z, e = .returned (.int .i64 z) ∧ FwdIs n (stepHit f t d 2) k z) ∧ Below w.heap.size w w' := by
  have H2 := hide h2
  have HP := hide hp
  have HS := hide hs
  have h3 := hs.1.2.2.1
  obtain ⟨a2, cap2, rfl, hn2, -⟩ := h2
  obtain ⟨xs, ho, -⟩ := hp
  obtain ⟨pa, pn, pc, rfl⟩ : ∃ a m c, pv = .slice a m c := by
    rcases ho.2 with ⟨rfl, _⟩ | ⟨g, cap, cur, rfl, _⟩
    · exact ⟨_, _, _, rfl⟩
    · exact ⟨_, _, _, rfl⟩
  clear ho hs hn2
  obtain ⟨p, hp⟩ : ∃ p : Nat, (p : Int) = k + 1 := ⟨(k + 1).toNat, by omega⟩
  obtain rfl : k = (p : Int) - 1 := by omega
  have wk : IntKind.i64.wrap ((p : Int) - 1 + 1) = (p : Int) := by rw [IntKind.wrap_i64]; omega
  clear hp
  have T0 : Hid (WkBox w (.slice a2 n cap2) (.slice pa pn pc) ((p : Int) - 1) t d (.func (.func 216) #[.agg #[.slice a2 n cap2, .slice pa pn pc, .int .i64 ((p : Int) - 1), .int .i64 (t : Int), .int .i64 (d : Int)]] #[]) 1 n _) := hide (Below.refl _ _)
  go_enter Tryz.func173, Tryz.ntmps173
  go_wp2
  go_step3
  go_wp2
  go_step3
  go_wp2
  go_loopg [5, 6] (n + 1 - p) (fun gg fo i W => ∃ q : Nat, q + gg = n + 1 ∧ fo = .int .i64 n ∧ i = .int .i64 q ∧ p ≤ q ∧ (∀ j, p ≤ j → j < q → stepHit f t d 2 j = false) ∧ WkBox w (.slice a2 n cap2) (.slice pa pn pc) ((p : Int) - 1) t d (.func (.func 216) #[.agg #[.slice a2 n cap2, .slice pa pn pc, .int .i64 ((p : Int) - 1), .int .i64 (t : Int), .int .i64 (d : Int)]] #[]) 1 n W)
  case atStart => exact ⟨p, by omega, rfl, by simp, Nat.le_refl _, fun j h1 h2 => by omega, unhide T0⟩
  case round =>
    obtain ⟨q, hqg, rfl, rfl, hpq, hst, ht⟩ := hrel
    have HST := hide hst
    have HT := hide ht
    clear hst ht T0
    have hq0 : decide ((0 : Int) ≤ (q : Int)) = true := decide_eq_true (by omega)
    have x0 := (unhide HT).b0
    have x3 := (unhide HT).b3
    have y0 := (unhide HT).c0
    have y1 := (unhide HT).c1
    by_cases hlt : q < n
    · have hqn : (q : Int) < (n : Int) := by omega
      have hqz : (0 : Int) ≤ (q : Int) := by omega
      have HM := (unhide H2).below (unhide HT).below
      have HMM := hide HM
      obtain ⟨_, _, e2, hn2, hv⟩ := HM
      cases e2
      obtain ⟨b, o, vv, rfl, -, hc1, -⟩ := hv q hlt
      clear hv hn2
      have wq : IntKind.i64.wrap ((q : Int) + 1) = ((q + 1 : Nat) : Int) := by rw [IntKind.wrap_i64]; omega
      by_cases htk : (f q).task = (t : Int)
      · have HTQ := hide htk
        rw [htk] at hc1
        clear htk
        go_wp2_with fail
        go_quiet (fail)
        generalize hwd : wr.drewN _ = wd
        have HTD : Hid (WkBox w (.slice (some ⟨b, o, none⟩) n cap2) (.slice pa pn pc) ((p : Int) - 1) t d (.func (.func 216) #[.agg #[.slice (some ⟨b, o, none⟩) n cap2, .slice pa pn pc, .int .i64 ((p : Int) - 1), .int .i64 (t : Int), .int .i64 (d : Int)]] #[]) 1 n wd) := hide ((unhide HT).go (by rw [← hwd]; exact below_drewN (Below.refl _ _) _))
        clear hwd x0 x3 y0 y1 hc1
        have HMD := (unhide H2).below (unhide HTD).below
        have HPD := (unhide HP).below (unhide HTD).below
        have y0 := (unhide HTD).c0
        go_wp2_with fail
        refine (leavesFewer_any lo lp _ _ nf fns n f ((p : Int) - 1) t d q _ HMD HPD (unhide HS) hlt (unhide HTQ)).mono ?_
        rintro e wA ⟨rfl, hbA⟩
        have HTA := hide ((unhide HTD).go hbA)
        have y1 := (unhide HTA).c1
        clear hbA HTD HMD HPD y0
        cases em : mayEnd f t d 2 q with
        | true =>
          have HE : Hid (stepHit f t d 2 q = true) := hide (by unfold stepHit; rw [unhide HTQ, beq_self_eq_true, Bool.true_and]; exact em)
          clear em
          go_wp2
          try rw [Exit.noGoto_ret]
          go_ret
          exact ⟨⟨_, rfl, .inl ⟨q, rfl, by omega, hlt, unhide HE, fun i h1 h2 => unhide HST i (by omega) h2⟩⟩, (unhide HTA).below⟩
        | false =>
          have HE : Hid (stepHit f t d 2 q = false) := hide (by unfold stepHit; rw [unhide HTQ, beq_self_eq_true, Bool.true_and]; exact em)
          clear em
          go_wp2
          go_roundg (n + 1 - (q + 1))
          case measure => omega
          case rel =>
            have hst' : ∀ j, p ≤ j → j < q + 1 → stepHit f t d 2 j = false := fun j h1 h2 => by
              by_cases e' : j = q
              · rw [e']; exact unhide HE
              · exact unhide HST j h1 (by omega)
            exact ⟨q + 1, by omega, rfl, by go_num, by omega, hst', unhide HTA⟩
      · have hbt : ((f q).task == (t : Int)) = false := by simpa using htk
        have HE : Hid (stepHit f t d 2 q = false) := hide (by unfold stepHit; rw [hbt]; rfl)
        clear htk
        go_wp2_with fail
        go_quiet (fail)
        generalize hwd : wr.drewN _ = wd
        have HTD : Hid (WkBox w (.slice (some ⟨b, o, none⟩) n cap2) (.slice pa pn pc) ((p : Int) - 1) t d (.func (.func 216) #[.agg #[.slice (some ⟨b, o, none⟩) n cap2, .slice pa pn pc, .int .i64 ((p : Int) - 1), .int .i64 (t : Int), .int .i64 (d : Int)]] #[]) 1 n wd) := hide ((unhide HT).go (by rw [← hwd]; exact below_drewN (Below.refl _ _) _))
        clear hwd x0 x3 y0 y1 hc1
        have y1 := (unhide HTD).c1
        go_wp2
        go_roundg (n + 1 - (q + 1))
        case measure => omega
        case rel =>
          have hst' : ∀ j, p ≤ j → j < q + 1 → stepHit f t d 2 j = false := fun j h1 h2 => by
            by_cases e' : j = q
            · rw [e']; exact unhide HE
            · exact unhide HST j h1 (by omega)
          exact ⟨q + 1, by omega, rfl, by go_num, by omega, hst', unhide HTD⟩
    · have hqn : ¬ (q : Int) < (n : Int) := by omega
      go_wp2
      try rw [Exit.noGoto_ret]
      go_ret
      exact ⟨⟨_, rfl, .inr ⟨rfl, fun i h1 h2 => unhide HST i (by omega) (by omega)⟩⟩, (unhide HT).below⟩

set_option maxRecDepth 100000 in
set_option maxHeartbeats 4000000 in
theorem walk3_any (lo : Nat) (mv pv : Value) (nf : Nat) (fns : Nat → ByteArray) (n : Nat) (f : Nat → M) (k : Int) (t d : Nat) (w : World) (h2 : MomsAt lo w mv n f) (hp : ∃ a m c, pv = .slice a m c) (hs : Sound nf fns n f) (hk0 : -1 ≤ k) (hk1 : k ≤ n) :
    Calls Tryz.prog 173 #[startV mv pv k t d, .agg #[.func (.func 214) #[.agg #[mv, pv, .int .i64 k, .int .i64 (t : Int), .int .i64 (d : Int)]] #[], .int .i64 (-1), .int .i64 (-1)]] w fun e w' => (∃ z, e = .returned (.int .i64 z) ∧ BackIs (stepHit f t d 3) k z) ∧ Below w.heap.size w w' := by
  have H2 := hide h2
  have h3 := hs.1.2.2.1
  obtain ⟨a2, cap2, rfl, hn2, -⟩ := h2
  obtain ⟨pa, pn, pc, rfl⟩ := hp
  clear hs hn2
  have wk : IntKind.i64.wrap (k + -1) = k - 1 := by rw [IntKind.wrap_i64]; omega
  have T0 : Hid (WkBox w (.slice a2 n cap2) (.slice pa pn pc) k t d (.func (.func 214) #[.agg #[.slice a2 n cap2, .slice pa pn pc, .int .i64 k, .int .i64 (t : Int), .int .i64 (d : Int)]] #[]) (-1) (-1) _) := hide (Below.refl _ _)
  go_enter Tryz.func173, Tryz.ntmps173
  go_wp2
  go_step3
  go_wp2
  go_step3
  go_wp2
  go_loopg [5, 6] (k + 1).toNat (fun gg fo i W => ∃ z : Int, (gg : Int) = z + 2 ∧ fo = .int .i64 (-1) ∧ i = .int .i64 z ∧ z < k ∧ (∀ j : Nat, z < (j : Int) → (j : Int) < k → stepHit f t d 3 j = false) ∧ WkBox w (.slice a2 n cap2) (.slice pa pn pc) k t d (.func (.func 214) #[.agg #[.slice a2 n cap2, .slice pa pn pc, .int .i64 k, .int .i64 (t : Int), .int .i64 (d : Int)]] #[]) (-1) (-1) W)
  case atStart => exact ⟨k - 1, by omega, rfl, by simp, by omega, fun j h1 h2 => by omega, unhide T0⟩
  case round =>
    obtain ⟨z, hg, rfl, rfl, hzk, hst, ht⟩ := hrel
    have HST := hide hst
    have HT := hide ht
    clear hst ht T0
    have x0 := (unhide HT).b0
    have x3 := (unhide HT).b3
    have y0 := (unhide HT).c0
    have y1 := (unhide HT).c1
    by_cases hz : 0 ≤ z
    · obtain ⟨q, rfl⟩ := Int.eq_ofNat_of_zero_le hz
      have hq0 : decide ((0 : Int) ≤ (q : Int)) = true := decide_eq_true hz
      have hlt : q < n := by omega
      have hqn : (q : Int) < (n : Int) := by omega
      have hqz : (0 : Int) ≤ (q : Int) := by omega
      have HM := (unhide H2).below (unhide HT).below
      obtain ⟨_, _, e2, hn2, hv⟩ := HM
      cases e2
      obtain ⟨b, o, vv, rfl, -, hc1, -⟩ := hv q hlt
      clear hv hn2
      have wq : IntKind.i64.wrap ((q : Int) + -1) = (q : Int) - 1 := by rw [IntKind.wrap_i64]; omega
      by_cases htk : (f q).task = (t : Int)
      · have HTQ := hide htk
        rw [htk] at hc1
        clear htk
        go_wp2_with fail
        go_quiet (fail)
        generalize hwd : wr.drewN _ = wd
        have HTD : Hid (WkBox w (.slice (some ⟨b, o, none⟩) n cap2) (.slice pa pn pc) k t d (.func (.func 214) #[.agg #[.slice (some ⟨b, o, none⟩) n cap2, .slice pa pn pc, .int .i64 k, .int .i64 (t : Int), .int .i64 (d : Int)]] #[]) (-1) (-1) wd) := hide ((unhide HT).go (by rw [← hwd]; exact below_drewN (Below.refl _ _) _))
        clear hwd x0 x3 y0 y1 hc1
        have HMD := (unhide H2).below (unhide HTD).below
        have y0 := (unhide HTD).c0
        go_wp2_with fail
        refine (begins_any lo _ _ n f k t d q _ HMD hlt).mono ?_
        rintro e wA ⟨rfl, hbA⟩
        have HTA := hide ((unhide HTD).go hbA)
        have y1 := (unhide HTA).c1
        clear hbA HTD HMD y0
        cases em : (f q).kind == 1 with
        | true =>
          have HE : Hid (stepHit f t d 3 q = true) := hide (by unfold stepHit; rw [unhide HTQ, beq_self_eq_true, Bool.true_and]; exact em)
          clear em
          go_wp2
          try rw [Exit.noGoto_ret]
          go_ret
          exact ⟨⟨_, rfl, .inl ⟨q, rfl, hzk, unhide HE, fun i h1 h2 => unhide HST i (by omega) h2⟩⟩, (unhide HTA).below⟩
        | false =>
          have HE : Hid (stepHit f t d 3 q = false) := hide (by unfold stepHit; rw [unhide HTQ, beq_self_eq_true, Bool.true_and]; exact em)
          clear em
          go_wp2
          go_roundg ((q : Int) + 1).toNat
          case measure => omega
          case rel =>
            have hst' : ∀ j : Nat, (q : Int) - 1 < (j : Int) → (j : Int) < k → stepHit f t d 3 j = false := fun j h1 h2 => by
              by_cases e' : j = q
              · rw [e']; exact unhide HE
              · exact unhide HST j (by omega) h2
            exact ⟨(q : Int) - 1, by omega, rfl, by simp, by omega, hst', unhide HTA⟩
      · have hbt : ((f q).task == (t : Int)) = false := by simpa using htk
        have HE : Hid (stepHit f t d 3 q = false) := hide (by unfold stepHit; rw [hbt]; rfl)
        clear htk
        go_wp2_with fail
        go_quiet (fail)
        generalize hwd : wr.drewN _ = wd
        have HTD : Hid (WkBox w (.slice (some ⟨b, o, none⟩) n cap2) (.slice pa pn pc) k t d (.func (.func 214) #[.agg #[.slice (some ⟨b, o, none⟩) n cap2, .slice pa pn pc, .int .i64 k, .int .i64 (t : Int), .int .i64 (d : Int)]] #[]) (-1) (-1) wd) := hide ((unhide HT).go (by rw [← hwd]; exact below_drewN (Below.refl _ _) _))
        clear hwd x0 x3 y0 y1 hc1
        have y1 := (unhide HTD).c1
        go_wp2
        go_roundg ((q : Int) + 1).toNat
        case measure => omega
        case rel =>
          have hst' : ∀ j : Nat, (q : Int) - 1 < (j : Int) → (j : Int) < k → stepHit f t d 3 j = false := fun j h1 h2 => by
            by_cases e' : j = q
            · rw [e']; exact unhide HE
            · exact unhide HST j (by omega) h2
          exact ⟨(q : Int) - 1, by omega, rfl, by simp, by omega, hst', unhide HTD⟩
    · have hz0 : decide ((0 : Int) ≤ z) = false := decide_eq_false hz
      go_wp2
      try rw [Exit.noGoto_ret]
      go_ret
      exact ⟨⟨_, rfl, .inr ⟨rfl, fun i h1 => unhide HST i (by omega) h1⟩⟩, (unhide HT).below⟩

end Go.Proofs.YtmnmeaeicjhkhaaGreatDoor
