import Derived.Test.YtoiacbdnkkolmaaG1z
import Derived.Test.YtoiacbdnkkolmaaG2z
import Derived.Test.YtoiacbdnkkolmaaGEez
import Derived.Test.YtoiacbdnkkolmaaGDcz
import Derived.Deep.LoopGhost
import Derived.Deep.RegionHeld3
import Derived.Deep.DeepCutAuto
namespace Go.Proofs.Ytoiacbdnkkolmaa
open Go.RowKit Go.Lib

theorem wrap64_id2 (y : Int) (h1 : -1 ≤ y) (h2 : y ≤ 100) : wrap64 y = y := by
  unfold wrap64
  omega

theorem implStopOk_yes (s : Sp) (w : World) (hz : s.name.size ≤ maxLen) (hs : StopIs s) :
    Calls Try.prog 23 #[.agg #[.int .i64 s.kind, .int .i64 s.fn, .int .i64 s.line, .string s.name]] w fun e w' => e = .returned (.bool true) ∧ Below w.heap.size w w' :=
  (implStopOk_any s.kind s.fn s.line s.name w hz).mono (by rintro e w' ⟨⟨b, rfl, hb⟩, h⟩; exact ⟨by rw [hb.2 hs], h⟩)

theorem specStopOk_yes (s : Sp) (w : World) (hz : s.name.size ≤ maxLen) (hs : StopIs s) :
    Calls Try.prog 24 #[.agg #[.int .i64 s.kind, .int .i64 s.fn, .int .i64 s.line, .string s.name]] w fun e w' => e = .returned (.bool true) ∧ Below w.heap.size w w' :=
  (specStopOk_any s.kind s.fn s.line s.name w hz).mono (by rintro e w' ⟨⟨b, rfl, hb⟩, h⟩; exact ⟨by rw [hb.2 hs], h⟩)

set_option maxRecDepth 100000 in
set_option maxHeartbeats 4000000 in
theorem fnStops_any (hdr : DrawsWell) (v v' : Value) (len len' : Nat) (w : World) (h : BytesAt w v len) (h' : BytesAt w v' len') :
    Calls Try.prog 5 #[v, v'] w fun e w' => e = .returned (.bool true) ∧ Below w.heap.size w w' := by
  have H := hide h
  have H' := hide h'
  have HDR := hide hdr
  obtain ⟨a, cap, rfl, _⟩ := h
  obtain ⟨a', cap', rfl, _⟩ := h'
  clear hdr
  by_cases hlen : len ≤ 1048576
  · have hle2 : decide ((1048576 : Int) < (len : Int)) = false := by simp; omega
    by_cases hlen' : len' ≤ 1048576
    · have hle2' : decide ((1048576 : Int) < (len' : Int)) = false := by simp; omega
      go_enter Try.func5, Try.ntmps5
      go_wp2_with fail
      refine (unhide HDR _ len _ (unhide H) hlen).mono ?_
      rintro e wd ⟨⟨v1, v2, n, ms, rfl, hn, hs, hm, hso⟩, hb⟩
      obtain ⟨f, hf⟩ : ∃ f, f = momOf ms := ⟨_, rfl⟩
      rw [← hf] at hm hso
      clear hf
      have DS := hide hs
      have DM := hide hm
      have DD := hide hso
      have HB := hide hb
      have HV := hide ((unhide H').below hb)
      obtain ⟨a1, cap1, rfl, _⟩ := hs
      obtain ⟨a2, cap2, rfl, _⟩ := hm
      clear hso hb hle2 hle2' H H' HDR hlen
      have X0 := hide (heap_alloc_new wd (.cells #[.slice a1 4 cap1, .slice a2 n cap2] 26))
      have B0 := hide (below_new wd (.cells #[.slice a1 4 cap1, .slice a2 n cap2] 26))
      go_wp2_with fail
      refine (anyStop_any _ len' _ ((unhide HV).below (unhide B0)) hlen').mono ?_
      rintro e w1 ⟨⟨s, rfl, hss, hsz⟩, hb1⟩
      have B1 := hide ((unhide B0).trans (hb1.mono (unhide B0).size))
      have X1 := hide ((hb1.block _ (heap_in (unhide X0))).trans (unhide X0))
      have HSS := hide hss
      have hzm : s.name.size ≤ maxLen := by unfold maxLen; omega
      clear hb1 X0 B0 hss
      have F2 : Hid (FSB wd (.slice a1 4 cap1) (.slice a2 n cap2) s wd.heap.size w1.heap.size (w1.alloc (.cells #[.int .i64 s.kind, .int .i64 s.fn, .int .i64 s.line, .string s.name] 52))) :=
        hide ⟨(unhide B1).trans ((below_new w1 _).mono (unhide B1).size), ((below_new w1 _).block _ (heap_in (unhide X1))).trans (unhide X1), heap_alloc_new w1 _⟩
      obtain ⟨tb, htb⟩ : ∃ tb, tb = wd.heap.size := ⟨_, rfl⟩
      obtain ⟨sb, hsb⟩ : ∃ sb, sb = w1.heap.size := ⟨_, rfl⟩
      have F2' := F2
      rw [← hsb] at F2'
      have F2'' : Hid (FSB wd (.slice a1 4 cap1) (.slice a2 n cap2) s tb sb (w1.alloc (.cells #[.int .i64 s.kind, .int .i64 s.fn, .int .i64 s.line, .string s.name] 52))) := by rw [htb]; exact F2'
      clear F2 F2' X1 B1
      go_upto_region 5 with fail
      rw [← hsb, ← htb]
      generalize w1.alloc (.cells #[.int .i64 s.kind, .int .i64 s.fn, .int .i64 s.line, .string s.name] 52) = W2 at F2'' ⊢
      clear htb hsb
      have F2 := F2''
      clear F2''
      obtain ⟨x0, x1, y0, y1, y2, y3⟩ := (unhide F2).cells
      go_wp2_with fail
      refine (implHits_any _ _ _ 4 drawnFns n f s _ ((unhide DS).below (unhide F2).below) ((unhide DM).below (unhide F2).below) hzm (by omega)).mono ?_
      rintro e w3 ⟨⟨hv, lh, rfl, hoh, hlh, ha, hm, hc, rfl⟩, hb3⟩
      obtain rfl : lh = ups (hit f s) 0 n := by
        rcases hlh with ⟨_, h⟩ | ⟨h, _⟩
        · exact h
        · exact absurd ⟨unhide DD, unhide HSS⟩ h
      obtain rfl := hoh.len
      have F3 := hide ((unhide F2).go hb3)
      have OH := hide hoh
      clear hb3 hoh hlh F2 x0 x1 y0 y1 y2 y3
      obtain ⟨x0, x1, y0, y1, y2, y3⟩ := (unhide F3).cells
      go_wp2_with fail
      refine (specHits_any _ _ _ 4 drawnFns n f s _ ((unhide DS).below (unhide F3).below) ((unhide DM).below (unhide F3).below) hzm (by omega)).mono ?_
      rintro e w4 ⟨⟨wv, lw, rfl, how, hlw, wa, wm, wc, rfl⟩, hb4⟩
      obtain rfl : lw = ups (hit f s) 0 n := by
        rcases hlw with ⟨_, h⟩ | ⟨h, _⟩
        · exact h
        · exact absurd ⟨unhide DD, unhide HSS⟩ h
      obtain rfl := how.len
      have F4 := hide ((unhide F3).go hb4)
      have OH4 := hide ((unhide OH).below hb4)
      have OW4 := hide how
      clear hb4 how hlw F3 OH x0 x1 y0 y1 y2 y3
      have BD4 := hide ((Below.refl w4.heap.size w4).drew)
      obtain ⟨x0, x1, y0, y1, y2, y3⟩ := (unhide F4).cells
      go_wp2_with fail
      go_region_held3 (fun w' => w'.cell? ⟨sb, 0, none⟩ = some (.int .i64 s.kind) ∧ w'.cell? ⟨sb, 1, none⟩ = some (.int .i64 s.fn) ∧ w'.cell? ⟨sb, 2, none⟩ = some (.int .i64 s.line) ∧ w'.cell? ⟨sb, 3, none⟩ = some (.string s.name))
        (first | (exact ((unhide F4).go (unhide BD4)).stop) | (exact (((unhide F4).go (unhide BD4)).go hbA).stop) | (exact ((((unhide F4).go (unhide BD4)).go hbA).go hbB).stop))
        ((first | (go_at_call 23; refine (implStopOk_yes s _ hzm (unhide HSS)).mono ?_; rintro e wA ⟨rfl, hbA⟩) | (go_at_call 24; refine (specStopOk_yes s _ hzm (unhide HSS)).mono ?_; rintro e wB ⟨rfl, hbB⟩)))
      have hb5 : Below w4.heap.size w4 wB := (unhide BD4).trans ((hbA.mono (by simp)).trans (hbB.mono (by have := hbA.size; simpa using this)))
      have F5 := hide ((unhide F4).go hb5)
      have OH5 := hide (owns_low ((unhide OH4).below hb5) (Nat.zero_le _))
      have OW5 := hide (owns_low ((unhide OW4).below hb5) (Nat.zero_le _))
      clear hb5 hbA hbB F4 OH4 OW4 BD4 x0 x1 y0 y1 y2 y3
      have BD5 := hide ((Below.refl wB.heap.size wB).drew)
      have F6 := hide ((unhide F5).go (unhide BD5))
      have OH6 : Hid (IntsOwn 0 wB.drew (.slice ha (ups (hit f s) 0 n).length hc) (ups (hit f s) 0 n)) := hide (IntsOwn.below (unhide OH5) (unhide BD5))
      have OW6 : Hid (IntsOwn 0 wB.drew (.slice wa (ups (hit f s) 0 n).length wc) (ups (hit f s) 0 n)) := hide (IntsOwn.below (unhide OW5) (unhide BD5))
      have x1 := (unhide F5).t1
      have hm3 : IntKind.i64.wrap ((n : Int) + 2) = (n : Int) + 2 := by rw [IntKind.wrap_i64]; omega
      have hm4 : ((n : Int) + 2 == 0) = false := by simp; omega
      go_wp2_with fail
      refine wp_region_held_drew (S := fun w' => w'.cell? ⟨tb, 1, none⟩ = some (.slice a2 n cap2)) (by kernel_rfl) (unhide F6).t1 (fun hHeld => ?_)
      refine takeAt 0 (some 45) (v := ?v0y) (by decide) rfl (by kernel_rfl) (by kernel_rfl) (by kernel_rfl) (fun _ _ _ h => h) (by rfl) ?hy0y (by assumption) ?r0y
      case hy0y => (intro wx hSw; go_simp; with_reducible rfl)
      simp only [Act.put, List.setIfInBounds_toArray, List.set_cons_zero, List.set_cons_succ]
      refine takeAt 2 (some 47) (v := ?v2y) (by decide) rfl (by kernel_rfl) (by kernel_rfl) (by kernel_rfl) (fun _ _ _ h => h) (by rfl) ?hy2y (by assumption) ?r2y
      case hy2y => (intro wx hSw; go_simp; with_reducible rfl)
      simp only [Act.put, List.setIfInBounds_toArray, List.set_cons_zero, List.set_cons_succ]
      refine takeAt 3 (some 48) (v := ?v3y) (by decide) rfl (by kernel_rfl) (by kernel_rfl) (by kernel_rfl) (fun _ _ _ h => h) (by rfl) ?hy3y (by assumption) ?r3y
      case hy3y => (intro wx hSw; go_simp; with_reducible rfl)
      simp only [Act.put, List.setIfInBounds_toArray, List.set_cons_zero, List.set_cons_succ]
      refine takeAt 4 (some 49) (v := ?v4y) (by decide) rfl (by kernel_rfl) (by kernel_rfl) (by kernel_rfl) (fun _ _ _ h => h) (by rfl) ?hy4y (by assumption) ?r4y
      case hy4y => (intro wx hSw; go_simp; with_reducible rfl)
      simp only [Act.put, List.setIfInBounds_toArray, List.set_cons_zero, List.set_cons_succ]
      refine takeAt 5 (some 50) (v := ?v5y) (by decide) rfl (by kernel_rfl) (by kernel_rfl) (by kernel_rfl) (fun _ _ _ h => h) (by rfl) ?hy5y (by assumption) ?r5y
      case hy5y => (intro wx hSw; go_simp; with_reducible rfl)
      simp only [Act.put, List.setIfInBounds_toArray, List.set_cons_zero, List.set_cons_succ]
      refine wpAnyH_ready (rs := [1]) (by kernel_rfl) (by simp) ?_
      refine AllReadyH.cons rfl (fun K hK => ?_) AllReadyH.nil
      go_simp
      refine (wByte_any _ len' 3 _ ((unhide HV).below (by exact (unhide F6).below)) hlen').mono ?_
      rintro e wC ⟨⟨b3, rfl, hb3⟩, rfl⟩
      refine hK.out _ _ hHeld (fun hHeld => ?_)
      clear hK K
      try simp only [Act.put, List.setIfInBounds_toArray, List.set_cons_zero, List.set_cons_succ]
      refine wpAnyH_ready (rs := [6]) (by kernel_rfl) (by simp) ?_
      refine AllReadyH.cons rfl (fun K hK => ?_) AllReadyH.nil
      go_simp
      refine hK.out _ _ hHeld (fun hHeld => ?_)
      clear hK K
      try simp only [Act.put, List.setIfInBounds_toArray, List.set_cons_zero, List.set_cons_succ]
      refine takeAt 7 (some 52) (v := ?v7y) (by decide) rfl (by kernel_rfl) (by kernel_rfl) (by kernel_rfl) (fun _ _ _ h => h) (by rfl) ?hy7y (by assumption) ?r7y
      case hy7y => (intro wx hSw; go_simp; with_reducible rfl)
      simp only [Act.put, List.setIfInBounds_toArray, List.set_cons_zero, List.set_cons_succ]
      refine takeAt 8 (some 9) (v := ?v8y) (by decide) rfl (by kernel_rfl) (by kernel_rfl) (by kernel_rfl) (fun _ _ _ h => h) (by rfl) ?hy8y (by assumption) ?r8y
      case hy8y => (intro wx hSw; go_simp; with_reducible rfl)
      simp only [Act.put, List.setIfInBounds_toArray, List.set_cons_zero, List.set_cons_succ]
      refine wpAnyH_done (by kernel_rfl) ?_ _
      clear F5 OH5 OW5 BD5 x1
      have hkk : wrap64 ((b3 : Int) % ((n : Int) + 2) - 1) = (b3 : Int) % ((n : Int) + 2) - 1 := by
        have h1 := Int.emod_nonneg (b3 : Int) (show ((n : Int) + 2) ≠ 0 by omega)
        have h2 := Int.emod_lt_of_pos (b3 : Int) (show 0 < ((n : Int) + 2) by omega)
        exact wrap64_id2 _ (by omega) (by omega)
      have et : (b3 : Int).tmod ((n : Int) + 2) = (b3 : Int) % ((n : Int) + 2) := Int.tmod_eq_emod_of_nonneg (by omega)
      rw [et]
      obtain ⟨k, hk⟩ : ∃ k, k = (b3 : Int) % ((n : Int) + 2) - 1 := ⟨_, rfl⟩
      have hk0 : -1 ≤ k := by
        have h1 := Int.emod_nonneg (b3 : Int) (show ((n : Int) + 2) ≠ 0 by omega)
        omega
      have hk1 : k ≤ (n : Int) := by
        have h2 := Int.emod_lt_of_pos (b3 : Int) (show 0 < ((n : Int) + 2) by omega)
        omega
      rw [← hk]
      have hkw : IntKind.i64.wrap k = k := by rw [IntKind.wrap_i64]; omega
      try rw [hkw]
      clear hk hkk hm3 hm4 hkw et
      generalize wB.drew = W6 at F6 OH6 OW6 ⊢
      have x1 := (unhide F6).t1
      go_wp2_with fail
      go_loopg [10, 11, 12, 59] n (fun gg nx la jj i W => ∃ (q : Nat) (zn zl : Int), q + gg = n ∧ nx = .int .i64 zn ∧ la = .int .i64 zl ∧ jj = .int .i64 (((ups (hit f s) 0 q).length : Nat) : Int) ∧ i = .int .i64 q ∧ NextTo n (hit f s) k q zn ∧ BackTo (hit f s) k q zl ∧ FSB wd (.slice a1 4 cap1) (.slice a2 n cap2) s tb sb W ∧ IntsOwn 0 W (.slice ha (ups (hit f s) 0 n).length hc) (ups (hit f s) 0 n) ∧ IntsOwn 0 W (.slice wa (ups (hit f s) 0 n).length wc) (ups (hit f s) 0 n))
      case atStart => exact ⟨0, n, -1, by omega, rfl, rfl, by rw [ups_self]; rfl, rfl, NextTo.start _ _ _, BackTo.start _ _, unhide F6, unhide OH6, unhide OW6⟩
      case round =>
        obtain ⟨q, zn, zl, hqg, rfl, rfl, rfl, rfl, hA, hD, hF, hoh, how⟩ := hrel
        have HA := hide hA
        have HD := hide hD
        have HF := hide hF
        have OH := hide hoh
        have OW := hide how
        clear hA hD hF hoh how F6 OH6 OW6 x1
        by_cases hlt : q < n
        · as_aux_lemma =>
            have hqn : (q : Int) < (n : Int) := by omega
            have hqz : (0 : Int) ≤ (q : Int) := by omega
            have wq : IntKind.i64.wrap ((q : Int) + 1) = ((q + 1 : Nat) : Int) := by rw [IntKind.wrap_i64]; omega
            obtain ⟨x0, x1, y0, y1, y2, y3⟩ := (unhide HF).cells
            have hle := ups_le (hit f s) 0 q
            have hleL := ups_le (hit f s) 0 n
            cases hp : hit f s q with
            | true =>
              have HP := hide hp
              obtain ⟨hj, hg⟩ := upsAt_yes hp hlt
              obtain ⟨g1, rfl, cw⟩ := (unhide OW).cell hj
              obtain ⟨g2, rfl, ch⟩ := (unhide OH).cell hj
              rw [hg] at cw ch
              clear hg hp
              have hjl : (((ups (hit f s) 0 q).length : Nat) : Int) < (((ups (hit f s) 0 n).length : Nat) : Int) := by omega
              have hj0 : (0 : Int) ≤ (((ups (hit f s) 0 q).length : Nat) : Int) := by omega
              have hd1 : decide ((((ups (hit f s) 0 q).length : Nat) : Int) < (((ups (hit f s) 0 n).length : Nat) : Int)) = true := decide_eq_true hjl
              have wj : IntKind.i64.wrap ((((ups (hit f s) 0 q).length : Nat) : Int) + 1) = (((ups (hit f s) 0 q).length + 1 : Nat) : Int) := by rw [IntKind.wrap_i64]; omega
              rcases Int.lt_trichotomy (q : Int) k with hqk | hqk | hqk
              · have d1 : decide ((q : Int) < k) = true := decide_eq_true hqk
                have d2 : decide (k < (q : Int)) = false := decide_eq_false (by omega)
                cases e30 : decide ((q : Int) < 30) with
                | true =>
                  go_wp2_with fail
                  refine (implStopsAt_any _ _ _ 4 drawnFns n f s (q : Int) _ ((unhide DS).below (unhide HF).below) ((unhide DM).below (unhide HF).below) hzm).mono ?_
                  rintro e w9 ⟨⟨bs, rfl, hbs⟩, hb9⟩
                  obtain rfl : bs = true := hbs.2 ⟨unhide DD, unhide HSS, by omega, by omega, by rw [Int.toNat_natCast]; exact unhide HP⟩
                  have HF9 := hide ((unhide HF).go hb9)
                  have OH9 := hide ((unhide OH).below hb9)
                  have OW9 := hide ((unhide OW).below hb9)
                  clear hb9 hbs
                  go_wp2
                  go_roundg (n - (q + 1))
                  case measure => omega
                  case rel => exact ⟨q + 1, zn, q, by omega, rfl, rfl, by rw [ups_yes (Nat.zero_le _) (unhide HP), List.length_append]; rfl, by go_num, (unhide HA).no (.inl (by omega)), (unhide HD).hit hqk (unhide HP), unhide HF9, unhide OH9, unhide OW9⟩
                | false =>
                  go_wp2
                  go_roundg (n - (q + 1))
                  case measure => omega
                  case rel => exact ⟨q + 1, zn, q, by omega, rfl, rfl, by rw [ups_yes (Nat.zero_le _) (unhide HP), List.length_append]; rfl, by go_num, (unhide HA).no (.inl (by omega)), (unhide HD).hit hqk (unhide HP), unhide HF, unhide OH, unhide OW⟩
              · have d1 : decide ((q : Int) < k) = false := decide_eq_false (by omega)
                have d2 : decide (k < (q : Int)) = false := decide_eq_false (by omega)
                have HQK := hide hqk
                clear hqk
                cases e30 : decide ((q : Int) < 30) with
                | true =>
                  go_wp2_with fail
                  refine (implStopsAt_any _ _ _ 4 drawnFns n f s (q : Int) _ ((unhide DS).below (unhide HF).below) ((unhide DM).below (unhide HF).below) hzm).mono ?_
                  rintro e w9 ⟨⟨bs, rfl, hbs⟩, hb9⟩
                  obtain rfl : bs = true := hbs.2 ⟨unhide DD, unhide HSS, by omega, by omega, by rw [Int.toNat_natCast]; exact unhide HP⟩
                  have HF9 := hide ((unhide HF).go hb9)
                  have OH9 := hide ((unhide OH).below hb9)
                  have OW9 := hide ((unhide OW).below hb9)
                  clear hb9 hbs
                  go_wp2
                  go_roundg (n - (q + 1))
                  case measure => omega
                  case rel => exact ⟨q + 1, zn, zl, by omega, rfl, rfl, by rw [ups_yes (Nat.zero_le _) (unhide HP), List.length_append]; rfl, by go_num, (unhide HA).no (.inl (by rw [unhide HQK]; exact Int.le_refl _)), (unhide HD).no (.inl (by rw [unhide HQK]; exact Int.le_refl _)), unhide HF9, unhide OH9, unhide OW9⟩
                | false =>
                  go_wp2
                  go_roundg (n - (q + 1))
                  case measure => omega
                  case rel => exact ⟨q + 1, zn, zl, by omega, rfl, rfl, by rw [ups_yes (Nat.zero_le _) (unhide HP), List.length_append]; rfl, by go_num, (unhide HA).no (.inl (by rw [unhide HQK]; exact Int.le_refl _)), (unhide HD).no (.inl (by rw [unhide HQK]; exact Int.le_refl _)), unhide HF, unhide OH, unhide OW⟩
              · have d1 : decide ((q : Int) < k) = false := decide_eq_false (by omega)
                have d2 : decide (k < (q : Int)) = true := decide_eq_true hqk
                cases ea : zn == (n : Int) with
                | true =>
                  have HZ := hide (eq_of_beq ea)
                  cases e30 : decide ((q : Int) < 30) with
                  | true =>
                    go_wp2_with fail
                    refine (implStopsAt_any _ _ _ 4 drawnFns n f s (q : Int) _ ((unhide DS).below (unhide HF).below) ((unhide DM).below (unhide HF).below) hzm).mono ?_
                    rintro e w9 ⟨⟨bs, rfl, hbs⟩, hb9⟩
                    obtain rfl : bs = true := hbs.2 ⟨unhide DD, unhide HSS, by omega, by omega, by rw [Int.toNat_natCast]; exact unhide HP⟩
                    have HF9 := hide ((unhide HF).go hb9)
                    have OH9 := hide ((unhide OH).below hb9)
                    have OW9 := hide ((unhide OW).below hb9)
                    clear hb9 hbs
                    go_wp2
                    go_roundg (n - (q + 1))
                    case measure => omega
                    case rel => exact ⟨q + 1, q, zl, by omega, rfl, rfl, by rw [ups_yes (Nat.zero_le _) (unhide HP), List.length_append]; rfl, by go_num, (unhide HA).hit (unhide HZ) hlt hqk (unhide HP), (unhide HD).no (.inl (by omega)), unhide HF9, unhide OH9, unhide OW9⟩
                  | false =>
                    go_wp2
                    go_roundg (n - (q + 1))
                    case measure => omega
                    case rel => exact ⟨q + 1, q, zl, by omega, rfl, rfl, by rw [ups_yes (Nat.zero_le _) (unhide HP), List.length_append]; rfl, by go_num, (unhide HA).hit (unhide HZ) hlt hqk (unhide HP), (unhide HD).no (.inl (by omega)), unhide HF, unhide OH, unhide OW⟩
                | false =>
                  have HZ : Hid (zn ≠ (n : Int)) := hide (by simpa using ea)
                  cases e30 : decide ((q : Int) < 30) with
                  | true =>
                    go_wp2_with fail
                    refine (implStopsAt_any _ _ _ 4 drawnFns n f s (q : Int) _ ((unhide DS).below (unhide HF).below) ((unhide DM).below (unhide HF).below) hzm).mono ?_
                    rintro e w9 ⟨⟨bs, rfl, hbs⟩, hb9⟩
                    obtain rfl : bs = true := hbs.2 ⟨unhide DD, unhide HSS, by omega, by omega, by rw [Int.toNat_natCast]; exact unhide HP⟩
                    have HF9 := hide ((unhide HF).go hb9)
                    have OH9 := hide ((unhide OH).below hb9)
                    have OW9 := hide ((unhide OW).below hb9)
                    clear hb9 hbs
                    go_wp2
                    go_roundg (n - (q + 1))
                    case measure => omega
                    case rel => exact ⟨q + 1, zn, zl, by omega, rfl, rfl, by rw [ups_yes (Nat.zero_le _) (unhide HP), List.length_append]; rfl, by go_num, (unhide HA).old (unhide HZ), (unhide HD).no (.inl (by omega)), unhide HF9, unhide OH9, unhide OW9⟩
                  | false =>
                    go_wp2
                    go_roundg (n - (q + 1))
                    case measure => omega
                    case rel => exact ⟨q + 1, zn, zl, by omega, rfl, rfl, by rw [ups_yes (Nat.zero_le _) (unhide HP), List.length_append]; rfl, by go_num, (unhide HA).old (unhide HZ), (unhide HD).no (.inl (by omega)), unhide HF, unhide OH, unhide OW⟩
            | false =>
              have HP := hide hp
              by_cases hj : (ups (hit f s) 0 q).length < (ups (hit f s) 0 n).length
              · have hg := upsAt_no hp hj
                obtain ⟨g1, rfl, cw⟩ := (unhide OW).cell hj
                have hne : ((((ups (hit f s) 0 n).getD (ups (hit f s) 0 q).length 0 : Nat) : Int) == (q : Int)) = false := by rw [beq_eq_false_iff_ne]; exact fun e => hg (by omega)
                generalize (ups (hit f s) 0 n).getD (ups (hit f s) 0 q).length 0 = gx at cw hne hg
                have hjl : (((ups (hit f s) 0 q).length : Nat) : Int) < (((ups (hit f s) 0 n).length : Nat) : Int) := by omega
                have hj0 : (0 : Int) ≤ (((ups (hit f s) 0 q).length : Nat) : Int) := by omega
                have hd1 : decide ((((ups (hit f s) 0 q).length : Nat) : Int) < (((ups (hit f s) 0 n).length : Nat) : Int)) = true := decide_eq_true hjl
                clear hp hg
                cases e30 : decide ((q : Int) < 30) with
                | true =>
                  go_wp2_with fail
                  refine (implStopsAt_any _ _ _ 4 drawnFns n f s (q : Int) _ ((unhide DS).below (unhide HF).below) ((unhide DM).below (unhide HF).below) hzm).mono ?_
                  rintro e w9 ⟨⟨bs, rfl, hbs⟩, hb9⟩
                  obtain rfl : bs = false := by cases bs with | false => rfl | true => have h := (hbs.1 rfl).2.2.2.2; rw [Int.toNat_natCast, unhide HP] at h; cases h
                  have HF9 := hide ((unhide HF).go hb9)
                  have OH9 := hide ((unhide OH).below hb9)
                  have OW9 := hide ((unhide OW).below hb9)
                  clear hb9 hbs
                  go_wp2
                  go_roundg (n - (q + 1))
                  case measure => omega
                  case rel => exact ⟨q + 1, zn, zl, by omega, rfl, rfl, by rw [ups_no (unhide HP)], by go_num, (unhide HA).no (.inr (unhide HP)), (unhide HD).no (.inr (unhide HP)), unhide HF9, unhide OH9, unhide OW9⟩
                | false =>
                  go_wp2
                  go_roundg (n - (q + 1))
                  case measure => omega
                  case rel => exact ⟨q + 1, zn, zl, by omega, rfl, rfl, by rw [ups_no (unhide HP)], by go_num, (unhide HA).no (.inr (unhide HP)), (unhide HD).no (.inr (unhide HP)), unhide HF, unhide OH, unhide OW⟩
              · have hd1 : decide ((((ups (hit f s) 0 q).length : Nat) : Int) < (((ups (hit f s) 0 n).length : Nat) : Int)) = false := decide_eq_false (by omega)
                clear hp
                cases e30 : decide ((q : Int) < 30) with
                | true =>
                  go_wp2_with fail
                  refine (implStopsAt_any _ _ _ 4 drawnFns n f s (q : Int) _ ((unhide DS).below (unhide HF).below) ((unhide DM).below (unhide HF).below) hzm).mono ?_
                  rintro e w9 ⟨⟨bs, rfl, hbs⟩, hb9⟩
                  obtain rfl : bs = false := by cases bs with | false => rfl | true => have h := (hbs.1 rfl).2.2.2.2; rw [Int.toNat_natCast, unhide HP] at h; cases h
                  have HF9 := hide ((unhide HF).go hb9)
                  have OH9 := hide ((unhide OH).below hb9)
                  have OW9 := hide ((unhide OW).below hb9)
                  clear hb9 hbs
                  go_wp2
                  go_roundg (n - (q + 1))
                  case measure => omega
                  case rel => exact ⟨q + 1, zn, zl, by omega, rfl, rfl, by rw [ups_no (unhide HP)], by go_num, (unhide HA).no (.inr (unhide HP)), (unhide HD).no (.inr (unhide HP)), unhide HF9, unhide OH9, unhide OW9⟩
                | false =>
                  go_wp2
                  go_roundg (n - (q + 1))
                  case measure => omega
                  case rel => exact ⟨q + 1, zn, zl, by omega, rfl, rfl, by rw [ups_no (unhide HP)], by go_num, (unhide HA).no (.inr (unhide HP)), (unhide HD).no (.inr (unhide HP)), unhide HF, unhide OH, unhide OW⟩
        · have hqn : ¬ (q : Int) < (n : Int) := by omega
          obtain rfl : q = n := by omega
          as_aux_lemma =>
            obtain ⟨x0, x1, y0, y1, y2, y3⟩ := (unhide HF).cells
            have FN := hide ((unhide HF).go (below_new wr (.cells #[.int .i64 s.kind, .int .i64 s.fn, .int .i64 s.line, .string s.name] 52)))
            have SI := hide (StopsIn.one (heap_alloc_new wr (.cells #[.int .i64 s.kind, .int .i64 s.fn, .int .i64 s.line, .string s.name] 52)) hzm)
            have hgood : GoodStops 4 drawnFns q f 1 (fun _ => s) k := ⟨unhide DD, ⟨hk0, hk1⟩, by omega, fun _ _ => unhide HSS⟩
            have HG := hide hgood
            clear hgood OH OW
            go_wp2_with fail
            refine (implNext_any _ _ _ _ 4 drawnFns q f 1 (fun _ => s) k _ ((unhide DS).below (unhide FN).below) ((unhide DM).below (unhide FN).below) (unhide SI) (by omega)).mono ?_
            rintro e w6 ⟨hnx, hb6⟩
            obtain rfl : e = .returned (.int .i64 zn) := by
              rcases hnx with ⟨_, z, rfl, hz⟩ | ⟨h, _⟩
              · rw [anyOf_one] at hz
                rw [NextIs.uniq hz (unhide HA).done]
              · exact absurd (unhide HG) h
            have F7 := hide ((unhide FN).go hb6)
            clear hnx hb6 FN SI x0 x1 y0 y1 y2 y3 HF
            obtain ⟨x0, x1, y0, y1, y2, y3⟩ := (unhide F7).cells
            have FM := hide ((unhide F7).go (below_new w6 (.cells #[.int .i64 s.kind, .int .i64 s.fn, .int .i64 s.line, .string s.name] 52)))
            have SI := hide (StopsIn.one (heap_alloc_new w6 (.cells #[.int .i64 s.kind, .int .i64 s.fn, .int .i64 s.line, .string s.name] 52)) hzm)
            go_wp2_with fail
            refine (implLast_any _ _ _ _ 4 drawnFns q f 1 (fun _ => s) k _ ((unhide DS).below (unhide FM).below) ((unhide DM).below (unhide FM).below) (unhide SI) (by omega)).mono ?_
            rintro e w7 ⟨hnx, hb7⟩
            obtain rfl : e = .returned (.int .i64 zl) := by
              rcases hnx with ⟨_, z, rfl, hz⟩ | ⟨h, _⟩
              · rw [anyOf_one] at hz
                rw [LastIs.uniq hz ((unhide HD).done hk1)]
              · exact absurd (unhide HG) h
            have F8 := hide ((unhide FM).go hb7)
            clear hnx hb7 FM SI x0 x1 y0 y1 y2 y3 F7
            go_wp2
            go_ret
            exact ⟨by simp, (unhide HB).trans ((unhide F8).below.mono (unhide HB).size)⟩
    · have hle2' : decide ((1048576 : Int) < (len' : Int)) = true := by simp; omega
      go_enter Try.func5, Try.ntmps5
      go_wp2
      go_ret
      exact ⟨rfl, Below.refl _ _⟩
  · have hle2 : decide ((1048576 : Int) < (len : Int)) = true := by simp; omega
    go_enter Try.func5, Try.ntmps5
    go_wp2
    go_ret
    exact ⟨rfl, Below.refl _ _⟩
end Go.Proofs.Ytoiacbdnkkolmaa
