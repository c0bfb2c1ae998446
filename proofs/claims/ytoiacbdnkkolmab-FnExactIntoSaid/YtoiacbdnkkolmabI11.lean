import Derived.Test.YtoiacbdnkkolmabS11
import Derived.Test.YtoiacbdnkkolmabI10
namespace Go.Proofs.Ytoiacbdnkkolmab
open Go.RowKit

def Readed (lo nf : Nat) (fns : Nat → ByteArray) (n : Nat) (f : Nat → M) (e : Ending) (w' : World) : Prop :=
  ∃ v' c m, e = .returned (.tuple #[v', .agg #[.int .i64 c, .int .i64 m]]) ∧ Ans nf fns n f c m ∧ (c = 0 → PlacesAt lo w' v' n f) ∧ ∃ a l cp, v' = .slice a l cp

set_option maxRecDepth 100000 in
set_option maxHeartbeats 2000000 in
theorem readTrace_any (lo : Nat) (v1 v2 : Value) (nf : Nat) (fns : Nat → ByteArray) (n : Nat) (f : Nat → M) (w : World) (h1 : StrsAt lo w v1 nf fns) (h2 : MomsAt lo w v2 n f) :
    Calls Try.prog 76 #[.agg #[v1, v2]] w fun e w' => Readed w.heap.size nf fns n f e w' ∧ Below w.heap.size w w' := by
  have H1 := hide h1
  have H2 := hide h2
  obtain ⟨a1, cap1, rfl, hn1, -⟩ := h1
  obtain ⟨a2, cap2, rfl, hn2, -⟩ := h2
  unfold maxLen at hn1 hn2
  have T0 : Hid (Two w (.slice a1 nf cap1) (.slice a2 n cap2) ((w.alloc (.cells #[.slice a1 nf cap1, .slice a2 n cap2] 31)).alloc (.cells #[.int .i64 0, .int .i64 0] 79))) := hide (Below.refl _ _)
  go_enter Try.func76, Try.ntmps76
  go_wp2_with fail
  refine (sizesOk_any lo _ _ nf fns n f _ ((unhide H1).below (unhide T0).below) ((unhide H2).below (unhide T0).below)).mono ?_
  rintro e w1 ⟨⟨b, rfl, hsz⟩, hb1⟩
  have T1 := hide ((unhide T0).go hb1); clear hb1 T0
  have g0 := (unhide T1).b0
  have g1 := (unhide T1).b1
  have g2 := (unhide T1).r0
  have g3 := (unhide T1).r1
  have g4 := (unhide T1).f0
  have g5 := (unhide T1).f1
  cases b with
  | false =>
    have HS : Hid (¬ SizesOk nf fns n) := hide (fun h => by simp [h] at hsz)
    clear hsz
    go_wp2
    refine bodyPost_ret (v := .tuple #[.slice none 0 0, .agg #[.int .i64 1, .int .i64 0]]) (by simp [results, Try.results76, go_sem, g2, g3]) rfl ⟨⟨_, 1, 0, rfl, .inl ⟨unhide HS, rfl, rfl⟩, (fun h => absurd h (by decide)), _, _, _, rfl⟩, ?_⟩
    repeat (refine Below.setCell ?_ (by simp) _)
    exact (unhide T1).below
  | true =>
    have HS : Hid (SizesOk nf fns n) := hide (by simpa using hsz)
    clear hsz
    go_wp2
    go_loopw [13] (fun i w' => ∃ (k : Nat), k ≤ n ∧ i = .int .i64 k ∧ (∀ j, j < k → MomentOk nf (f j)) ∧ Two w (.slice a1 nf cap1) (.slice a2 n cap2) w') (fun i _ => n - (intOf i).toNat)
    case atStart => exact ⟨0, by omega, rfl, by omega, unhide T1⟩
    case round =>
      obtain ⟨k, hk, rfl, hq, ht⟩ := hrel
      have HQ := hide hq; clear hq
      have HT := hide ht; clear ht g0 g1 g2 g3 g4 g5 T1
      by_cases hlt : k < n
      · obtain ⟨_, _, e, _, hv⟩ := (unhide H2).below (unhide HT).below
        cases e
        obtain ⟨b, o, vv, rfl, hc0, hc1, hc2, hc3, hc4, hc5, hs1, hs2, -⟩ := hv k hlt
        clear hv
        have HV := hide hs2
        obtain ⟨av, capv, rfl, -⟩ := hs2
        have hsz := (unhide HT).size
        have BA := hide ((Below.refl wr.heap.size wr).alloc (Nat.le_refl _) (.cells #[.int .i64 (f k).kind, .int .i64 (f k).task, .int .i64 (f k).fn, .int .i64 (f k).line, .string (f k).text, .slice av (f k).nv capv] 73))
        have g6 := ((unhide HT).go (unhide BA)).b0
        have g7 := ((unhide HT).go (unhide BA)).b1
        go_wp2_with fail
        refine (momentOk_any lo nf _ _ _ _ _ _ (f k).nv (f k).vars _ hs1 ((unhide HV).below (unhide BA))).mono ?_
        rintro e w2 ⟨⟨b, rfl, hm⟩, hb2⟩
        have T2 := hide (((unhide HT).go (unhide BA)).go hb2); clear hb2
        have g2 := (unhide T2).r0
        have g3 := (unhide T2).r1
        have g4 := (unhide T2).f0
        have g5 := (unhide T2).f1
        cases b with
        | false =>
          have HM : Hid (¬ MomentOk nf (f k)) := hide (fun h => by
            have := hm.2 h
            cases this)
          clear hm
          go_wp2
          refine bodyPost_ret (v := .tuple #[.slice none 0 0, .agg #[.int .i64 2, .int .i64 k]]) (by simp [results, Try.results76, go_sem, g2, g3]) rfl ⟨⟨_, 2, k, rfl, .inr (.inl ⟨unhide HS, k, hlt, unhide HM, unhide HQ, rfl, rfl⟩), (fun h => absurd h (by decide)), _, _, _, rfl⟩, ?_⟩
          repeat (refine Below.setCell ?_ (by simp) _)
          exact (unhide T2).below
        | true =>
          have HM : Hid (MomentOk nf (f k)) := hide (hm.1 rfl)
          clear hm
          go_wp2
          go_roundw
          case rel =>
            refine ⟨k + 1, by omega, by go_num, fun j hj => ?_, unhide T2⟩
            by_cases hjk : j < k
            · exact unhide HQ j hjk
            · have e : j = k := by omega
              rw [e]; exact unhide HM
          case measure => simp [intOf]; omega
      · have hkn : k = n := by omega
        subst hkn
        clear hlt
        have g0 := (unhide HT).b0
        have g1 := (unhide HT).b1
        go_wp2_with fail
        refine (followMoments_any lo nf _ k f _ ((unhide H2).below (unhide HT).below) (unhide HS).2.2.1 (unhide HQ)).mono ?_
        rintro e w2 ⟨hfo, hb2⟩
        have T2 := hide ((unhide HT).go hb2); clear hb2 g0 g1
        have g2 := (unhide T2).r0
        have g3 := (unhide T2).r1
        have g4 := (unhide T2).f0
        have g5 := (unhide T2).f1
        rcases hfo with ⟨i, hi, hcd, hq, rfl⟩ | ⟨hq, v', rfl, hpl⟩
        · have HC := hide (And.intro hcd hq); clear hcd hq
          go_wp2
          refine bodyPost_ret (v := .tuple #[.slice none 0 0, .agg #[.int .i64 (codeAt f i), .int .i64 i]]) (by simp [results, Try.results76, go_sem, g2, g3]) rfl ⟨⟨_, _, i, rfl, .inr (.inr (.inl ⟨unhide HS, unhide HQ, i, hi, (unhide HC).1, (unhide HC).2, rfl, rfl⟩)), fun h => absurd h (unhide HC).1, _, _, _, rfl⟩, ?_⟩
          repeat (refine Below.setCell ?_ (by simp) _)
          exact (unhide T2).below
        · have HC := hide hq; clear hq
          have HP := hide hpl
          obtain ⟨xs, hp1, -⟩ := hpl
          obtain ⟨ap, cp, rfl⟩ := owns_slice hp1
          clear hp1
          go_wp2
          refine bodyPost_ret (v := .tuple #[.slice ap (k + 1) cp, .agg #[.int .i64 0, .int .i64 0]]) (by simp [results, Try.results76, go_sem, g2, g3]) rfl ⟨⟨_, 0, 0, rfl, .inr (.inr (.inr ⟨unhide HS, unhide HQ, unhide HC, rfl, rfl⟩)), fun _ => ?_, _, _, _, rfl⟩, ?_⟩
          · have hsz := (unhide HT).size
            have ob : (Value.slice ap (k + 1) cp).ownBlock ≠ some (w.heap.size + 1) := fun e => by
              obtain ⟨xs', hp2, -⟩ := unhide HP
              have := (hp2.lt _ e).1
              omega
            have z4 : w2.cell? ⟨w.heap.size + 1, 4, none⟩ = none := by
              have h2 : Two w _ _ w2 := unhide T2
              rw [Below.cell h2 (by simp), cell_alloc_at _ _ _ _ _ (by simp)]; rfl
            have h3 := PlacesAt.setBox (o := 1) (u := .int .i64 0) (PlacesAt.setBox (o := 0) (u := .int .i64 0) (unhide HP) z4 ob) (cell_none_set z4) ob
            obtain ⟨xs', hp3, hp4⟩ := h3
            exact ⟨xs', owns_low hp3 (by omega), hp4⟩
          · repeat (refine Below.setCell ?_ (by simp) _)
            exact (unhide T2).below
end Go.Proofs.Ytoiacbdnkkolmab
