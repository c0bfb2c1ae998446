import Derived.Test.YtoiacbdnkkolmaaF3z
import Derived.Test.YtoiacbdnkkolmaaF5z
import Derived.Test.YtoiacbdnkkolmaaGTz
import Derived.Deep.LoopGhost
namespace Go.Proofs.Ytoiacbdnkkolmaa
open Go.RowKit

theorem runs_sound {nf : Nat} {fns : Nat → ByteArray} {n : Nat} {f : Nat → M} {k : Int} {e : Ending} (h : Running nf fns n f k e) (hs : Sound nf fns n f) (hk : -1 ≤ k ∧ k ≤ n) : e = .returned (.int .i64 (St.after f (upto n k)).cur) := by
  rcases h with ⟨_, _, h⟩ | ⟨h, _⟩
  · exact h
  · exact absurd ⟨hs, hk⟩ h

theorem stack_sound {nf : Nat} {fns : Nat → ByteArray} {n : Nat} {f : Nat → M} {k t : Int} {l : List Fr} (h : IsStack nf fns n f k t l) (hs : Sound nf fns n f) (hk : -1 ≤ k ∧ k ≤ n) (ht : 0 ≤ t ∧ t ≤ 100) : l = (St.after f (upto n k)).tasks t.toNat := by
  rcases h with ⟨_, _, _, h⟩ | ⟨h, _⟩
  · exact h
  · exact absurd ⟨hs, hk, ht⟩ h

theorem step_sound {nf : Nat} {fns : Nat → ByteArray} {n : Nat} {f : Nat → M} {k : Int} {kd : Nat} {e : Ending} (h : StepSay nf fns n f k kd e) (hs : Sound nf fns n f) (hk : -1 ≤ k ∧ k ≤ n) (z : Int) (hz : StepIs n f k kd z) : e = .returned (.int .i64 z) := by
  rcases h with ⟨_, z', h, h'⟩ | ⟨h, _⟩
  · rw [h, h'.uniq hz]
  · exact absurd ⟨hs, hk⟩ h

theorem wrap64_id' (y : Int) (h1 : -1 ≤ y) (h2 : y ≤ 100) : wrap64 y = y := by
  unfold wrap64
  omega

theorem cur_le {nf : Nat} {fns : Nat → ByteArray} {n : Nat} {f : Nat → M} (h : Sound nf fns n f) : ∀ j, j ≤ n → (St.after f j).cur ≤ 100
  | 0, _ => Nat.zero_le _
  | j + 1, hj => by
    have hc := after_cur (n := n) (f := f) j (by omega)
    rw [hc]
    split
    · have := (h.2.1 j (by omega)).1.2.2.2.1
      omega
    · exact cur_le h j (by omega)

set_option maxRecDepth 100000 in
set_option maxHeartbeats 4000000 in
theorem fnSteps_any (hdr : DrawsWell) (v v' : Value) (len len' : Nat) (w : World) (h : BytesAt w v len) (h' : BytesAt w v' len') :
    Calls Try.prog 6 #[v, v'] w fun e w' => e = .returned (.bool true) ∧ Below w.heap.size w w' := by
  have H := hide h
  have H' := hide h'
  have HDR := hide hdr
  obtain ⟨a, cap, rfl, _⟩ := h
  obtain ⟨a', cap', rfl, _⟩ := h'
  clear hdr
  by_cases hlen : len ≤ 1048576
  · have hle2 : decide ((1048576 : Int) < (len : Int)) = false := by simp; omega
    by_cases hlen' : len' ≤ 1048576
    · have hle2' : decide ((1048576 : Int) < (len' : Int)) = false := by simp; omega
      go_enter Try.func6, Try.ntmps6
      go_wp2_with fail
      refine (unhide HDR _ len _ (unhide H) hlen).mono ?_
      rintro e wd ⟨⟨v1, v2, n, ms, rfl, hn, hs, hm, hso⟩, hb⟩
      obtain ⟨f, hf⟩ : ∃ f, f = momOf ms := ⟨_, rfl⟩
      rw [← hf] at hm hso
      clear hf
      have T0 := hide (TrBox.new wd v1 v2)
      have DS := hide hs
      have DM := hide hm
      have DD := hide hso
      have HB := hide hb
      have H2 := hide ((unhide H').below hb)
      obtain ⟨a1, cap1, rfl, _⟩ := hs
      obtain ⟨a2, cap2, rfl, _⟩ := hm
      clear hso hb hle2 hle2' H H' HDR hlen
      go_wp2_with fail
      refine (wByte_any _ len' 0 _ ((unhide H2).below (unhide T0).below) hlen').mono ?_
      rintro e w1 ⟨⟨b0, rfl, hb0⟩, rfl⟩
      go_wp2_with fail
      refine (wByte_any _ len' 1 _ ((unhide H2).below (unhide T0).below) hlen').mono ?_
      rintro e w1 ⟨⟨b1, rfl, hb1⟩, rfl⟩
      have hw : ∀ y : Int, -1 ≤ y → y ≤ 100 → wrap64 y = y := fun y h1 h2 => by rw [wrap64_id' y h1 h2]
      go_wp2_with fail
      have hkk : wrap64 (((b0 : Int) + 256 * (b1 : Int)) % ((n : Int) + 2) - 1) = ((b0 : Int) + 256 * (b1 : Int)) % ((n : Int) + 2) - 1 := by
        have h1 := Int.emod_nonneg ((b0 : Int) + 256 * (b1 : Int)) (show ((n : Int) + 2) ≠ 0 by omega)
        have h2 := Int.emod_lt_of_pos ((b0 : Int) + 256 * (b1 : Int)) (show 0 < ((n : Int) + 2) by omega)
        exact hw _ (by omega) (by omega)
      rw [hkk]
      obtain ⟨k, hk⟩ : ∃ k, k = ((b0 : Int) + 256 * (b1 : Int)) % ((n : Int) + 2) - 1 := ⟨_, rfl⟩
      have hk0 : -1 ≤ k := by
        have h1 := Int.emod_nonneg ((b0 : Int) + 256 * (b1 : Int)) (show ((n : Int) + 2) ≠ 0 by omega)
        omega
      have hk1 : k ≤ (n : Int) := by
        have h2 := Int.emod_lt_of_pos ((b0 : Int) + 256 * (b1 : Int)) (show 0 < ((n : Int) + 2) by omega)
        omega
      rw [← hk]
      clear hk hkk hw
      refine (specRunningAt_any _ _ _ 4 drawnFns n f k _ ((unhide DS).below (unhide T0).below) ((unhide DM).below (unhide T0).below)).mono ?_
      rintro e w1 ⟨hrun, hb1⟩
      obtain rfl := runs_sound hrun (unhide DD) ⟨hk0, hk1⟩
      have T1 := hide ((unhide T0).go hb1)
      clear hrun hb1 T0
      have HI : Hid (∀ kd z, (kd ≠ 3 → FwdIs n (stepHit f (St.after f (upto n k)).cur ((St.after f (upto n k)).tasks (St.after f (upto n k)).cur).length kd) k z → StepIs n f k kd z) ∧ (BackIs (stepHit f (St.after f (upto n k)).cur ((St.after f (upto n k)).tasks (St.after f (upto n k)).cur).length 3) k z → StepIs n f k 3 z)) := hide (fun kd z => ⟨fun h1 h2 => .inl ⟨h1, h2⟩, fun h2 => .inr ⟨rfl, h2⟩⟩)
      have htl : (St.after f (upto n k)).cur ≤ 100 := cur_le (unhide DD) _ (by unfold upto; omega)
      have x0 := (unhide T1).b0
      have x1 := (unhide T1).b1
      go_wp2_with fail
      refine (specStackAt_any _ _ _ 4 drawnFns n f k _ _ ((unhide DS).below (unhide T1).below) ((unhide DM).below (unhide T1).below)).mono ?_
      rintro e w2 ⟨⟨sv, l, rfl, hst, hfr⟩, hb2⟩
      obtain rfl := stack_sound hst (unhide DD) ⟨hk0, hk1⟩ ⟨by omega, by omega⟩
      obtain ⟨sa, scap, rfl⟩ := owns_slice hfr
      rw [Int.toNat_natCast]
      have T2 := hide ((unhide T1).go hb2)
      clear hst hfr hb2 T1 x0 x1
      generalize ((St.after f (upto n k)).tasks (St.after f (upto n k)).cur).length = d at HI ⊢
      generalize (St.after f (upto n k)).cur = t at HI htl ⊢
      have x1 := (unhide T2).b1
      go_wp2_with fail
      go_loopg [10, 11, 12, 13, 54] n (fun gg a b c e i W => ∃ (q : Nat) (za zb zc zd : Int), q + gg = n ∧ a = .int .i64 za ∧ b = .int .i64 zb ∧ c = .int .i64 zc ∧ e = .int .i64 zd ∧ i = .int .i64 q ∧ NextTo n (stepHit f t d 0) k q za ∧ NextTo n (stepHit f t d 1) k q zb ∧ NextTo n (stepHit f t d 2) k q zc ∧ BackTo (stepHit f t d 3) k q zd ∧ TrBox wd (.slice a1 4 cap1) (.slice a2 n cap2) W)
      case atStart => exact ⟨0, n, n, n, -1, by omega, rfl, rfl, rfl, rfl, rfl, NextTo.start _ _ _, NextTo.start _ _ _, NextTo.start _ _ _, BackTo.start _ _, unhide T2⟩
      case round =>
        obtain ⟨q, za, zb, zc, zd, hqg, rfl, rfl, rfl, rfl, rfl, hA, hB, hC, hD, ht⟩ := hrel
        have HA := hide hA
        have HBo := hide hB
        have HC := hide hC
        have HD := hide hD
        have HT := hide ht
        clear hA hB hC hD ht T2 x1
        by_cases hlt : q < n
        · as_aux_lemma =>
            have hqn : (q : Int) < (n : Int) := by omega
            have hqz : (0 : Int) ≤ (q : Int) := by omega
            obtain ⟨_, _, e2, hn2, hv⟩ := (unhide DM).below (unhide HT).below
            cases e2
            obtain ⟨bm, om, vv, rfl, hc0, hc1, hc2, hc3, hc4, hc5, -, hs2, -⟩ := hv q hlt
            clear hv hn2
            obtain ⟨av, capv, rfl, -⟩ := hs2
            have wq : IntKind.i64.wrap ((q : Int) + 1) = ((q + 1 : Nat) : Int) := by rw [IntKind.wrap_i64]; omega
            have HBN := hide (below_new wr (.cells #[.int .i64 (f q).kind, .int .i64 (f q).task, .int .i64 (f q).fn, .int .i64 (f q).line, .string (f q).text, .slice av (f q).nv capv] 30))
            have HT2 := hide ((unhide HT).go (unhide HBN))
            have y0 := (unhide HT2).b0
            have y1 := (unhide HT2).b1
            cases e3 : (f q).task == (t : Int) with
            | false =>
              have hno : ∀ kd, stepHit f t d kd q = false := fun kd => by unfold stepHit; rw [e3]; rfl
              have HN := hide hno
              clear hno y0 y1
              go_wp2
              go_roundg (n - (q + 1))
              case measure => omega
              case rel => exact ⟨q + 1, za, zb, zc, zd, by omega, rfl, rfl, rfl, rfl, by go_num, (unhide HA).no (.inr (unhide HN _)), (unhide HBo).no (.inr (unhide HN _)), (unhide HC).no (.inr (unhide HN _)), (unhide HD).no (.inr (unhide HN _)), unhide HT2⟩
            | true =>
              have hyes : ∀ kd, stepHit f t d kd q = mayEnd f t d kd q := fun kd => by unfold stepHit; rw [e3]; rfl
              have HY := hide hyes
              clear hyes
              rcases Int.lt_trichotomy (q : Int) k with hqk | hqk | hqk
              · have d1 : decide ((q : Int) < k) = true := decide_eq_true hqk
                have d2 : decide ((q : Int) ≤ k) = true := decide_eq_true (by omega)
                clear y0 y1
                cases e1 : (f q).kind == 1 with
                | true =>
                  have HE : Hid (stepHit f t d 3 q = true) := hide (by rw [unhide HY]; exact e1)
                  go_wp2
                  go_roundg (n - (q + 1))
                  case measure => omega
                  case rel => exact ⟨q + 1, za, zb, zc, q, by omega, rfl, rfl, rfl, rfl, by go_num, (unhide HA).no (.inl (by omega)), (unhide HBo).no (.inl (by omega)), (unhide HC).no (.inl (by omega)), (unhide HD).hit hqk (unhide HE), unhide HT2⟩
                | false =>
                  have HE : Hid (stepHit f t d 3 q = false) := hide (by rw [unhide HY]; exact e1)
                  go_wp2
                  go_roundg (n - (q + 1))
                  case measure => omega
                  case rel => exact ⟨q + 1, za, zb, zc, zd, by omega, rfl, rfl, rfl, rfl, by go_num, (unhide HA).no (.inl (by omega)), (unhide HBo).no (.inl (by omega)), (unhide HC).no (.inl (by omega)), (unhide HD).no (.inr (unhide HE)), unhide HT2⟩
              · have d1 : decide ((q : Int) < k) = false := decide_eq_false (by omega)
                have d2 : decide ((q : Int) ≤ k) = true := decide_eq_true (by omega)
                have HQK := hide hqk
                clear y0 y1 hqk
                go_wp2
                go_roundg (n - (q + 1))
                case measure => omega
                case rel => exact ⟨q + 1, za, zb, zc, zd, by omega, rfl, rfl, rfl, rfl, by go_num, (unhide HA).no (.inl (by rw [unhide HQK]; exact Int.le_refl _)), (unhide HBo).no (.inl (by rw [unhide HQK]; exact Int.le_refl _)), (unhide HC).no (.inl (by rw [unhide HQK]; exact Int.le_refl _)), (unhide HD).no (.inl (by rw [unhide HQK]; exact Int.le_refl _)), unhide HT2⟩
              · have d1 : decide ((q : Int) < k) = false := decide_eq_false (by omega)
                have d2 : decide ((q : Int) ≤ k) = false := decide_eq_false (by omega)
                go_wp2_with fail
                refine (specStackAt_any _ _ _ 4 drawnFns n f (q : Int) _ _ ((unhide DS).below (unhide HT2).below) ((unhide DM).below (unhide HT2).below)).mono ?_
                rintro e w5 ⟨⟨sv, l, rfl, hst, hfr⟩, hb5⟩
                obtain rfl := stack_sound hst (unhide DD) ⟨by omega, by omega⟩ ⟨by omega, by omega⟩
                obtain ⟨sa, scap, rfl⟩ := owns_slice hfr
                have hdp : ((St.after f (upto n (q : Int))).tasks ((t : Int)).toNat).length = deepAt f t q := by
                  have e : upto n (q : Int) = q + 1 := by unfold upto; omega
                  rw [e, Int.toNat_natCast]; rfl
                rw [hdp]
                have HT5 := hide ((unhide HT2).go hb5)
                have m0 : w5.cell? ⟨wr.heap.size, 0, none⟩ = some (.int .i64 (f q).kind) := cell_below hb5 (by rw [cell_of_row _ _ 0 _ _ _ (heap_alloc_new wr _)]; rfl)
                have HX := hide (hfr)
                clear hst hfr hb5 hdp y0 y1 HX hc0 hc1 hc2 hc3 hc4 hc5 HT2 HBN
                cases e1 : (f q).kind == 1 with
                | true =>
                  have e13 : ((f q).kind == 3) = false := by have := eq_of_beq e1; rw [this]; rfl
                  have HE0 : Hid (stepHit f t d 0 q = true) := hide (by rw [unhide HY]; exact e1)
                  have HE2 : Hid (stepHit f t d 2 q = false) := hide (by rw [unhide HY]; unfold mayEnd; rw [e13]; rfl)
                  have HE1 : Hid (stepHit f t d 1 q = decide (deepAt f t q ≤ d)) := hide (by rw [unhide HY]; unfold mayEnd; rw [e1]; rfl)
                  cases ea : za == (n : Int) with
                  | true =>
                    have hza : za = n := eq_of_beq ea
                    have HZA := hide hza
                    clear hza
                    cases ed : decide (deepAt f t q ≤ d) with
                    | true =>
                      rw [ed] at HE1
                      cases eb : zb == (n : Int) with
                      | true =>
                        have HZB := hide (eq_of_beq eb)
                        go_wp2
                        go_roundg (n - (q + 1))
                        case measure => omega
                        case rel => exact ⟨q + 1, q, q, zc, zd, by omega, rfl, rfl, rfl, rfl, by go_num, (unhide HA).hit (unhide HZA) hlt hqk (unhide HE0), (unhide HBo).hit (unhide HZB) hlt hqk (unhide HE1), (unhide HC).no (.inr (unhide HE2)), (unhide HD).no (.inl (by omega)), unhide HT5⟩
                      | false =>
                        have HZB : Hid (zb ≠ (n : Int)) := hide (by simpa using eb)
                        go_wp2
                        go_roundg (n - (q + 1))
                        case measure => omega
                        case rel => exact ⟨q + 1, q, zb, zc, zd, by omega, rfl, rfl, rfl, rfl, by go_num, (unhide HA).hit (unhide HZA) hlt hqk (unhide HE0), (unhide HBo).old (unhide HZB), (unhide HC).no (.inr (unhide HE2)), (unhide HD).no (.inl (by omega)), unhide HT5⟩
                    | false =>
                      rw [ed] at HE1
                      go_wp2
                      go_roundg (n - (q + 1))
                      case measure => omega
                      case rel => exact ⟨q + 1, q, zb, zc, zd, by omega, rfl, rfl, rfl, rfl, by go_num, (unhide HA).hit (unhide HZA) hlt hqk (unhide HE0), (unhide HBo).no (.inr (unhide HE1)), (unhide HC).no (.inr (unhide HE2)), (unhide HD).no (.inl (by omega)), unhide HT5⟩
                  | false =>
                    have HZA : Hid (za ≠ (n : Int)) := hide (by simpa using ea)
                    cases ed : decide (deepAt f t q ≤ d) with
                    | true =>
                      rw [ed] at HE1
                      cases eb : zb == (n : Int) with
                      | true =>
                        have HZB := hide (eq_of_beq eb)
                        go_wp2
                        go_roundg (n - (q + 1))
                        case measure => omega
                        case rel => exact ⟨q + 1, za, q, zc, zd, by omega, rfl, rfl, rfl, rfl, by go_num, (unhide HA).old (unhide HZA), (unhide HBo).hit (unhide HZB) hlt hqk (unhide HE1), (unhide HC).no (.inr (unhide HE2)), (unhide HD).no (.inl (by omega)), unhide HT5⟩
                      | false =>
                        have HZB : Hid (zb ≠ (n : Int)) := hide (by simpa using eb)
                        go_wp2
                        go_roundg (n - (q + 1))
                        case measure => omega
                        case rel => exact ⟨q + 1, za, zb, zc, zd, by omega, rfl, rfl, rfl, rfl, by go_num, (unhide HA).old (unhide HZA), (unhide HBo).old (unhide HZB), (unhide HC).no (.inr (unhide HE2)), (unhide HD).no (.inl (by omega)), unhide HT5⟩
                    | false =>
                      rw [ed] at HE1
                      go_wp2
                      go_roundg (n - (q + 1))
                      case measure => omega
                      case rel => exact ⟨q + 1, za, zb, zc, zd, by omega, rfl, rfl, rfl, rfl, by go_num, (unhide HA).old (unhide HZA), (unhide HBo).no (.inr (unhide HE1)), (unhide HC).no (.inr (unhide HE2)), (unhide HD).no (.inl (by omega)), unhide HT5⟩
                | false =>
                  have HE0 : Hid (stepHit f t d 0 q = false) := hide (by rw [unhide HY]; exact e1)
                  have HE1 : Hid (stepHit f t d 1 q = false) := hide (by rw [unhide HY]; unfold mayEnd; rw [e1]; rfl)
                  cases e5 : (f q).kind == 3 with
                  | true =>
                    have HE2 : Hid (stepHit f t d 2 q = decide (deepAt f t q < d)) := hide (by rw [unhide HY]; unfold mayEnd; rw [e5]; rfl)
                    cases ed : decide (deepAt f t q < d) with
                    | true =>
                      rw [ed] at HE2
                      cases ec : zc == (n : Int) with
                      | true =>
                        have HZC := hide (eq_of_beq ec)
                        go_wp2
                        go_roundg (n - (q + 1))
                        case measure => omega
                        case rel => exact ⟨q + 1, za, zb, q, zd, by omega, rfl, rfl, rfl, rfl, by go_num, (unhide HA).no (.inr (unhide HE0)), (unhide HBo).no (.inr (unhide HE1)), (unhide HC).hit (unhide HZC) hlt hqk (unhide HE2), (unhide HD).no (.inl (by omega)), unhide HT5⟩
                      | false =>
                        have HZC : Hid (zc ≠ (n : Int)) := hide (by simpa using ec)
                        go_wp2
                        go_roundg (n - (q + 1))
                        case measure => omega
                        case rel => exact ⟨q + 1, za, zb, zc, zd, by omega, rfl, rfl, rfl, rfl, by go_num, (unhide HA).no (.inr (unhide HE0)), (unhide HBo).no (.inr (unhide HE1)), (unhide HC).old (unhide HZC), (unhide HD).no (.inl (by omega)), unhide HT5⟩
                    | false =>
                      rw [ed] at HE2
                      go_wp2
                      go_roundg (n - (q + 1))
                      case measure => omega
                      case rel => exact ⟨q + 1, za, zb, zc, zd, by omega, rfl, rfl, rfl, rfl, by go_num, (unhide HA).no (.inr (unhide HE0)), (unhide HBo).no (.inr (unhide HE1)), (unhide HC).no (.inr (unhide HE2)), (unhide HD).no (.inl (by omega)), unhide HT5⟩
                  | false =>
                    have HE2 : Hid (stepHit f t d 2 q = false) := hide (by rw [unhide HY]; unfold mayEnd; rw [e5]; rfl)
                    go_wp2
                    go_roundg (n - (q + 1))
                    case measure => omega
                    case rel => exact ⟨q + 1, za, zb, zc, zd, by omega, rfl, rfl, rfl, rfl, by go_num, (unhide HA).no (.inr (unhide HE0)), (unhide HBo).no (.inr (unhide HE1)), (unhide HC).no (.inr (unhide HE2)), (unhide HD).no (.inl (by omega)), unhide HT5⟩
        · have hqn : ¬ (q : Int) < (n : Int) := by omega
          obtain rfl : q = n := by omega
          as_aux_lemma =>
            have SA := hide ((unhide HI 0 za).1 (by omega) (unhide HA).done)
            have SB := hide ((unhide HI 1 zb).1 (by omega) (unhide HBo).done)
            have SC := hide ((unhide HI 2 zc).1 (by omega) (unhide HC).done)
            have SD := hide ((unhide HI 3 zd).2 ((unhide HD).done hk1))
            clear HA HBo HC HD HI
            have x0 := (unhide HT).b0
            have x1 := (unhide HT).b1
            go_wp2_with fail
            refine (implInto_any _ _ _ 4 drawnFns q f k _ ((unhide DS).below (unhide HT).below) ((unhide DM).below (unhide HT).below)).mono ?_
            rintro e w6 ⟨hst, hb6⟩
            obtain rfl := step_sound hst (unhide DD) ⟨hk0, hk1⟩ _ (unhide SA)
            have T6 := hide ((unhide HT).go hb6)
            clear hst hb6 x0 x1 HT
            have x0 := (unhide T6).b0
            have x1 := (unhide T6).b1
            go_wp2_with fail
            refine (implOver_any _ _ _ 4 drawnFns q f k _ ((unhide DS).below (unhide T6).below) ((unhide DM).below (unhide T6).below)).mono ?_
            rintro e w7 ⟨hst, hb7⟩
            obtain rfl := step_sound hst (unhide DD) ⟨hk0, hk1⟩ _ (unhide SB)
            have T7 := hide ((unhide T6).go hb7)
            clear hst hb7 x0 x1 T6
            have x0 := (unhide T7).b0
            have x1 := (unhide T7).b1
            go_wp2_with fail
            refine (implOut_any _ _ _ 4 drawnFns q f k _ ((unhide DS).below (unhide T7).below) ((unhide DM).below (unhide T7).below)).mono ?_
            rintro e w8 ⟨hst, hb8⟩
            obtain rfl := step_sound hst (unhide DD) ⟨hk0, hk1⟩ _ (unhide SC)
            have T8 := hide ((unhide T7).go hb8)
            clear hst hb8 x0 x1 T7
            have x0 := (unhide T8).b0
            have x1 := (unhide T8).b1
            go_wp2_with fail
            refine (implBefore_any _ _ _ 4 drawnFns q f k _ ((unhide DS).below (unhide T8).below) ((unhide DM).below (unhide T8).below)).mono ?_
            rintro e w9 ⟨hst, hb9⟩
            obtain rfl := step_sound hst (unhide DD) ⟨hk0, hk1⟩ _ (unhide SD)
            have T9 := hide ((unhide T8).go hb9)
            clear hst hb9 x0 x1 T8
            go_wp2
            go_ret
            exact ⟨by simp, (unhide HB).trans ((unhide T9).below.mono (unhide HB).size)⟩
    · have hle2' : decide ((1048576 : Int) < (len' : Int)) = true := by simp; omega
      go_enter Try.func6, Try.ntmps6
      go_wp2
      go_ret
      exact ⟨rfl, Below.refl _ _⟩
  · have hle2 : decide ((1048576 : Int) < (len : Int)) = true := by simp; omega
    go_enter Try.func6, Try.ntmps6
    go_wp2
    go_ret
    exact ⟨rfl, Below.refl _ _⟩
end Go.Proofs.Ytoiacbdnkkolmaa
