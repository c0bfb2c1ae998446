import Derived.Test.YtoiacbdnkkolmabS10
namespace Go.Proofs.Ytoiacbdnkkolmab
open Go.RowKit

/-- The trace's box and the answer's cell stand as they were laid. -/
def Two (w : World) (v1 v2 : Value) (w' : World) : Prop :=
  Below (w.heap.size + 2) ((w.alloc (.cells #[v1, v2] 31)).alloc (.cells #[.int .i64 0, .int .i64 0] 79)) w'

theorem Two.below {w w' : World} {v1 v2 : Value} (h : Two w v1 v2 w') : Below w.heap.size w w' :=
  (((Below.refl _ _).alloc (Nat.le_refl _) _).alloc (by simp) _).trans (Below.mono h (by omega))
theorem Two.size {w w' : World} {v1 v2 : Value} (h : Two w v1 v2 w') : w.heap.size + 2 ≤ w'.heap.size := by
  have := Below.size h; simpa using this
theorem Two.go {w w' w'' : World} {v1 v2 : Value} (h : Two w v1 v2 w') (hb : Below w'.heap.size w' w'') : Two w v1 v2 w'' := Below.trans h (hb.mono h.size)
theorem Two.b0 {w w' : World} {v1 v2 : Value} (h : Two w v1 v2 w') : w'.cell? ⟨w.heap.size, 0, none⟩ = some v1 := by
  rw [Below.cell h (by simp), World.cell?_alloc_old _ _ _ (by simp), cell_alloc_at _ _ _ _ _ rfl]; rfl
theorem Two.b1 {w w' : World} {v1 v2 : Value} (h : Two w v1 v2 w') : w'.cell? ⟨w.heap.size, 1, none⟩ = some v2 := by
  rw [Below.cell h (by simp), World.cell?_alloc_old _ _ _ (by simp), cell_alloc_at _ _ _ _ _ rfl]; rfl
theorem Two.r0 {w w' : World} {v1 v2 : Value} (h : Two w v1 v2 w') : w'.cell? ⟨w.heap.size + 1, 0, none⟩ = some (.int .i64 0) := by
  rw [Below.cell h (by simp), cell_alloc_at _ _ _ _ _ (by simp)]; rfl
theorem Two.r1 {w w' : World} {v1 v2 : Value} (h : Two w v1 v2 w') : w'.cell? ⟨w.heap.size + 1, 1, none⟩ = some (.int .i64 0) := by
  rw [Below.cell h (by simp), cell_alloc_at _ _ _ _ _ (by simp)]; rfl
theorem Two.f0 {w w' : World} {v1 v2 : Value} (h : Two w v1 v2 w') : w'.frozen? ⟨w.heap.size + 1, 0, none⟩ = false := by
  rw [Below.frozen h (by simp), frozen_alloc_at _ _ _ _ _ (by simp)]
theorem Two.f1 {w w' : World} {v1 v2 : Value} (h : Two w v1 v2 w') : w'.frozen? ⟨w.heap.size + 1, 1, none⟩ = false := by
  rw [Below.frozen h (by simp), frozen_alloc_at _ _ _ _ _ (by simp)]

def SaysF (nf : Nat) (fns : Nat → ByteArray) (nm : Nat) (f : Nat → M) (e : Ending) : Prop := ∃ c m, e = .returned (.agg #[.int .i64 c, .int .i64 m]) ∧ Ans nf fns nm f c m

set_option maxRecDepth 100000 in
set_option maxHeartbeats 2000000 in
theorem specTraceOk_any (lo : Nat) (v1 v2 : Value) (nf : Nat) (fns : Nat → ByteArray) (n : Nat) (f : Nat → M) (w : World) (h1 : StrsAt lo w v1 nf fns) (h2 : MomsAt lo w v2 n f) :
    Calls Try.prog 105 #[.agg #[v1, v2]] w fun e w' => SaysF nf fns n f e ∧ Below w.heap.size w w' := by
  have H1 := hide h1
  have H2 := hide h2
  obtain ⟨a1, cap1, rfl, hn1, -⟩ := h1
  obtain ⟨a2, cap2, rfl, hn2, -⟩ := h2
  unfold maxLen at hn1 hn2
  have T0 : Hid (Two w (.slice a1 nf cap1) (.slice a2 n cap2) ((w.alloc (.cells #[.slice a1 nf cap1, .slice a2 n cap2] 31)).alloc (.cells #[.int .i64 0, .int .i64 0] 79))) := Below.refl _ _
  go_enter Try.func105, Try.ntmps105
  go_wp2_with fail
  refine (l1sizes_any lo _ _ nf fns n f _ ((unhide H1).below (unhide T0).below) ((unhide H2).below (unhide T0).below)).mono ?_
  rintro e w1 ⟨⟨b, rfl, hsz⟩, hb1⟩
  have T1 := hide ((unhide T0).go hb1); clear hb1 T0
  have g0 := (unhide T1).b0
  have g1 := (unhide T1).b1
  have g2 := (unhide T1).r0
  have g3 := (unhide T1).r1
  have g4 := (unhide T1).f0
  have g5 := (unhide T1).f1
  cases b with
  | false =>
    have HS : Hid (¬ SizesOk nf fns n) := fun h => by simp [h] at hsz
    clear hsz
    go_wp2
    refine bodyPost_ret (v := .agg #[.int .i64 1, .int .i64 0]) (by simp [results, Try.results105, go_sem, g2, g3]) rfl ⟨⟨1, 0, rfl, .inl ⟨unhide HS, rfl, rfl⟩⟩, ?_⟩
    repeat (refine Below.setCell ?_ (by simp) _)
    exact (unhide T1).below
  | true =>
    have HS : Hid (SizesOk nf fns n) := hide (by simpa using hsz)
    clear hsz
    go_wp2
    go_loopw [16] (fun i w' => ∃ (k : Nat), k ≤ n ∧ i = .int .i64 k ∧ (∀ j, j < k → MomentOk nf (f j)) ∧ Two w (.slice a1 nf cap1) (.slice a2 n cap2) w') (fun i _ => n - (intOf i).toNat)
    case atStart => exact ⟨0, by omega, rfl, by omega, unhide T1⟩
    case round =>
      obtain ⟨k, hk, rfl, hq, ht⟩ := hrel
      have HQ := hide hq; clear hq
      have HT := hide ht; clear ht g0 g1 g2 g3 g4 g5 T1
      by_cases hlt : k < n
      · obtain ⟨_, _, e, _, hv⟩ := (unhide H2).below (unhide HT).below
        cases e
        obtain ⟨b, o, vv, rfl, hc0, hc1, hc2, hc3, hc4, hc5, hs1, hs2, -⟩ := hv k hlt
        clear hv
        have HV := hide hs2
        obtain ⟨av, capv, rfl, -⟩ := hs2
        have g0 := (unhide HT).b0
        have g1 := (unhide HT).b1
        have hsz := (unhide HT).size
        have n1 : w.heap.size ≠ wr.heap.size := by omega
        have BA := hide ((Below.refl wr.heap.size wr).alloc (Nat.le_refl _) (.cells #[.int .i64 (f k).kind, .int .i64 (f k).task, .int .i64 (f k).fn, .int .i64 (f k).line, .string (f k).text, .slice av (f k).nv capv] 73))
        have g6 := ((unhide HT).go (unhide BA)).b0
        have g7 := ((unhide HT).go (unhide BA)).b1
        go_wp2_with fail
        refine (l1moment_any lo _ _ nf fns _ _ _ _ _ _ (f k).nv (f k).vars _ ((unhide H1).below ((unhide HT).go (unhide BA)).below) hs1 ((unhide HV).below (unhide BA))).mono ?_
        rintro e w2 ⟨⟨b, rfl, hm⟩, hb2⟩
        have T2 := hide (((unhide HT).go (unhide BA)).go hb2); clear hb2
        have g2 := (unhide T2).r0
        have g3 := (unhide T2).r1
        have g4 := (unhide T2).f0
        have g5 := (unhide T2).f1
        cases b with
        | false =>
          have HM : Hid (¬ MomentOk nf (f k)) := hide (fun h => by
            have := hm.2 h
            cases this)
          clear hm
          go_wp2
          refine bodyPost_ret (v := .agg #[.int .i64 2, .int .i64 k]) (by simp [results, Try.results105, go_sem, g2, g3]) rfl ⟨⟨2, k, rfl, .inr (.inl ⟨unhide HS, k, hlt, unhide HM, unhide HQ, rfl, rfl⟩)⟩, ?_⟩
          repeat (refine Below.setCell ?_ (by simp) _)
          exact (unhide T2).below
        | true =>
          have HM : Hid (MomentOk nf (f k)) := hide (hm.1 rfl)
          clear hm
          go_wp2
          go_roundw
          case rel =>
            refine ⟨k + 1, by omega, by go_num, fun j hj => ?_, unhide T2⟩
            by_cases hjk : j < k
            · exact unhide HQ j hjk
            · have e : j = k := by omega
              rw [e]; exact unhide HM
          case measure => simp [intOf]; omega
      · have hkn : k = n := by omega
        subst hkn
        clear hlt
        have g0 := (unhide HT).b0
        have g1 := (unhide HT).b1
        go_wp2_with fail
        refine (l1begin_any _).mono ?_
        rintro e w2 ⟨⟨ps, rfl, hsp⟩, hb2⟩
        have T2 := hide ((unhide HT).go hb2)
        have hB := (unhide HT).size
        have HSP := hide hsp
        clear hb2 hsp g0 g1
        have g0 := (unhide T2).b0
        have g1 := (unhide T2).b1
        obtain ⟨B, hBe⟩ : ∃ B, B = wr.heap.size := ⟨_, rfl⟩
        rw [← hBe] at hB HSP
        clear hBe HT
        go_wp2
        go_loopw [32] (fun i w' => ∃ (j : Nat), j ≤ k ∧ i = .int .i64 j ∧ (∀ i, i < j → codeAt f i = 0) ∧ SpecAt B w' ps (St.after f j) ∧ Two w (.slice a1 nf cap1) (.slice a2 k cap2) w') (fun i _ => k - (intOf i).toNat)
        case atStart => exact ⟨0, by omega, rfl, by omega, unhide HSP, unhide T2⟩
        case round =>
          obtain ⟨j, hj, rfl, hq, hsp, ht⟩ := hrel
          have HC := hide hq; clear hq
          have HT := hide ht; clear ht g0 g1 T2 HSP
          have HSP := hide hsp; clear hsp
          by_cases hlt : j < k
          · obtain ⟨_, _, e, _, hv⟩ := (unhide H2).below (unhide HT).below
            cases e
            obtain ⟨b, o, vv, rfl, hc0, hc1, hc2, hc3, hc4, hc5, hs1, hs2, -⟩ := hv j hlt
            clear hv
            obtain ⟨av, capv, rfl, -⟩ := hs2
            have BA := hide ((Below.refl wr.heap.size wr).alloc (Nat.le_refl _) (.cells #[.int .i64 (f j).kind, .int .i64 (f j).task, .int .i64 (f j).fn, .int .i64 (f j).line, .string (f j).text, .slice av (f j).nv capv] 73))
            have hmo := unhide HQ j hlt
            have ht1 : 0 ≤ (f j).task := hmo.1.2.2.1
            have ht2 : (f j).task ≤ 100 := hmo.1.2.2.2.1
            clear hmo
            go_wp2_with fail
            refine (move_any B ps (St.after f j) _ _ _ _ _ _ _ _ ((unhide HSP).below (unhide BA)) ht1 ht2).mono ?_
            rintro e w2 ⟨rfl, hsp, hb2, -⟩
            have T2 : Hid (Two w (.slice a1 nf cap1) (.slice (some ⟨b, o, none⟩) k cap2) w2) := hide (Below.trans ((unhide HT).go (unhide BA)) (hb2.mono hB))
            have HSP2 := hide hsp
            clear hb2 hsp
            have g2 := (unhide T2).r0
            have g3 := (unhide T2).r1
            have g4 := (unhide T2).f0
            have g5 := (unhide T2).f1
            have hce : code (St.after f j) (f j).kind (f j).task (f j).fn = codeAt f j := rfl
            rw [hce]
            clear hce
            by_cases hcode : codeAt f j = 0
            · rw [hcode]
              have HCO := hide hcode; clear hcode
              go_wp2
              go_roundw
              case rel =>
                refine ⟨j + 1, by omega, by go_num, fun i hi => ?_, unhide HSP2 (unhide HCO), unhide T2⟩
                by_cases hij : i < j
                · exact unhide HC i hij
                · have e : i = j := by omega
                  rw [e]; exact unhide HCO
              case measure => simp [intOf]; omega
            · have hb : (codeAt f j != 0) = true := by simpa using hcode
              have HCO := hide hcode; clear hcode
              go_wp2
              refine bodyPost_ret (v := .agg #[.int .i64 (codeAt f j), .int .i64 j]) (by simp [results, Try.results105, go_sem, g2, g3]) rfl ⟨⟨_, j, rfl, .inr (.inr (.inl ⟨unhide HS, unhide HQ, j, hlt, unhide HCO, unhide HC, rfl, rfl⟩))⟩, ?_⟩
              repeat (refine Below.setCell ?_ (by simp) _)
              exact (unhide T2).below
          · have hjk : j = k := by omega
            subst hjk
            have g2 := (unhide HT).r0
            have g3 := (unhide HT).r1
            have g4 := (unhide HT).f0
            have g5 := (unhide HT).f1
            go_wp2
            refine bodyPost_ret (v := .agg #[.int .i64 0, .int .i64 0]) (by simp [results, Try.results105, go_sem, g2, g3]) rfl ⟨⟨0, 0, rfl, .inr (.inr (.inr ⟨unhide HS, unhide HQ, unhide HC, rfl, rfl⟩))⟩, ?_⟩
            repeat (refine Below.setCell ?_ (by simp) _)
            exact (unhide HT).below
end Go.Proofs.Ytoiacbdnkkolmab
