import Derived.Test.YtjhfdjdmiombpabE13
import Derived.Test.YtjhfdjdmiombpabE7
namespace Go.Proofs.Ytjhfdjdmiombpab
open Go.RowKit Go.Lib

/-- One of the stops holds at moment k. -/
def anyOf (f : Nat → M) (ns : Nat) (ss : Nat → Sp) (k : Nat) : Bool := decide (∃ i, i < ns ∧ hit f (ss i) k = true)

theorem anyOf_no {f : Nat → M} {ns : Nat} {ss : Nat → Sp} {k : Nat} (h : ∀ i, i < ns → hit f (ss i) k = false) : anyOf f ns ss k = false := by
  unfold anyOf
  simp only [decide_eq_false_iff_not]
  rintro ⟨i, hi, e⟩
  rw [h i hi] at e
  cases e

theorem anyOf_yes {f : Nat → M} {ns : Nat} {ss : Nat → Sp} {k i : Nat} (hi : i < ns) (h : hit f (ss i) k = true) : anyOf f ns ss k = true := by
  unfold anyOf
  simp only [decide_eq_true_eq]
  exact ⟨i, hi, h⟩

/-- What l3good says. -/
def GoodStops (nf : Nat) (fns : Nat → ByteArray) (n : Nat) (f : Nat → M) (ns : Nat) (ss : Nat → Sp) (k : Int) : Prop := Sound nf fns n f ∧ (-1 ≤ k ∧ k ≤ (n : Int)) ∧ ns ≤ 50 ∧ ∀ i, i < ns → StopIs (ss i)

/-- The hits of each stop, spec's way. -/
def HitsAt (B : Nat) (W : World) (hv : Value) (ns n : Nat) (f : Nat → M) (ss : Nat → Sp) : Prop := ∃ bs : Nat → Nat, W.ownsRow B 99 1 hv ns ((List.range ns).map fun i => .slice (some ⟨bs i, 0, none⟩) n n) ∧ ∀ i, i < ns → Bools (bs i) W n (hit f (ss i))

theorem HitsAt.below {B : Nat} {w w' : World} {hv : Value} {ns n : Nat} {f : Nat → M} {ss : Nat → Sp} (h : HitsAt B w hv ns n f ss) (hb : Below w.heap.size w w') : HitsAt B w' hv ns n f ss := by
  obtain ⟨bs, h1, h2⟩ := h
  exact ⟨bs, owns_below h1 hb, fun i hi => (h2 i hi).below hb⟩

theorem HitsAt.at {B : Nat} {w : World} {hv : Value} {ns n : Nat} {f : Nat → M} {ss : Nat → Sp} (h : HitsAt B w hv ns n f ss) (hn : 0 < ns) : ∃ g cap, hv = .slice (some ⟨g, 0, none⟩) ns cap := by
  obtain ⟨bs, h1, -⟩ := h
  rcases h1.2 with ⟨h, h0⟩ | ⟨g, cap, cur, hv, -⟩
  · omega
  · exact ⟨g, cap, hv⟩

set_option maxRecDepth 100000 in
set_option maxHeartbeats 4000000 in
theorem l3good_any (lo : Nat) (v1 v2 sv : Value) (nf : Nat) (fns : Nat → ByteArray) (n : Nat) (f : Nat → M) (ns : Nat) (ss : Nat → Sp) (k : Int) (w : World) (h1 : StrsAt lo w v1 nf fns) (h2 : MomsAt lo w v2 n f) (h3 : StopsIn w sv ns ss) :
    Calls Try.prog 91 #[.agg #[v1, v2], sv, .int .i64 k] w fun e w' => SaysB (GoodStops nf fns n f ns ss k) e ∧ Below w.heap.size w w' := by
  have H1 := hide h1; clear h1
  have H2 := hide h2
  have H3 := hide h3
  obtain ⟨a2, cap2, rfl, hn2, -⟩ := h2
  obtain ⟨a3, cap3, rfl, hn3, -⟩ := h3
  unfold maxLen at hn2 hn3
  have T0 := hide (TrBox.new w v1 (.slice a2 n cap2))
  go_enter Try.func91, Try.ntmps91
  go_wp2_with fail
  refine (l1ok_any lo _ _ nf fns n f _ ((unhide H1).below (unhide T0).below) ((unhide H2).below (unhide T0).below)).mono ?_
  rintro e w1 ⟨⟨ok, rfl, hok⟩, hb1⟩
  have T1 := hide ((unhide T0).go hb1)
  clear hb1 T0
  cases ok with
  | false =>
    have HN : Hid (¬ Sound nf fns n f) := hide (fun h => by have := hok.2 h; cases this)
    clear hok
    go_wp2_with fail
    go_ret
    exact ⟨SaysB.no (fun h => unhide HN h.1), (unhide T1).below⟩
  | true =>
    have HS := hide (hok.1 rfl)
    clear hok
    have g0 := (unhide T1).b0
    have g1 := (unhide T1).b1
    go_wp2_with fail
    refine (l1place_any lo _ _ n f k _ ((unhide H2).below (unhide T1).below)).mono ?_
    rintro e w2 ⟨rfl, hb2⟩
    have T2 := hide ((unhide T1).go hb2)
    clear hb2 T1 g0 g1
    by_cases hp : (-1 ≤ k ∧ k ≤ (n : Int))
    · have dp : decide (-1 ≤ k ∧ k ≤ (n : Int)) = true := decide_eq_true hp
      rw [dp]
      have HP := hide hp
      clear hp dp
      by_cases h50 : ns ≤ 50
      · have d1 : decide ((50 : Int) < (ns : Int)) = false := by simp; omega
        obtain ⟨B, hB⟩ : ∃ B, B = w2.heap.size := ⟨_, rfl⟩
        have HBE := hide hB
        have HB0 : Hid (Below B w2 w2) := hide (Below.refl _ _)
        clear hB
        go_wp2_with fail
        go_loopg [25] ns (fun gg i W => ∃ k' : Nat, k' + gg = ns ∧ i = .int .i64 k' ∧ (∀ j, j < k' → StopIs (ss j)) ∧ Below B w2 W)
        case atStart => exact ⟨0, by omega, rfl, fun j hj => absurd hj (Nat.not_lt_zero _), unhide HB0⟩
        case round =>
          clear HB0
          obtain ⟨q, hq, rfl, hst, hb⟩ := hrel
          have HST := hide hst
          have HX := hide ((unhide T2).go (by rw [unhide HBE] at hb; exact hb))
          have hB2 : B ≤ wr.heap.size := Nat.le_trans (Nat.le_of_eq (unhide HBE)) hb.size
          have HBP := hide hb
          clear hst hb
          by_cases hlt : q < ns
          · obtain ⟨_, _, e, _, hv⟩ := (unhide H3).below (unhide HX).below
            cases e
            obtain ⟨bs, os, rfl, hc0, hc1, hc2, hc3, hzk⟩ := hv q hlt
            clear hv
            have hkn : (q : Int) < (ns : Int) := by omega
            have hkz : (0 : Int) ≤ (q : Int) := by omega
            have HBN := hide (below_new wr (.cells #[.int .i64 (ss q).kind, .int .i64 (ss q).fn, .int .i64 (ss q).line, .string (ss q).name] 50))
            have HBX := hide (heap_alloc_new wr (.cells #[.int .i64 (ss q).kind, .int .i64 (ss q).fn, .int .i64 (ss q).line, .string (ss q).name] 50))
            go_upto_region 6 with fail
            have HB3 : Hid (Below B w2 (wr.alloc (.cells #[.int .i64 (ss q).kind, .int .i64 (ss q).fn, .int .i64 (ss q).line, .string (ss q).name] 50))) := hide ((unhide HBP).trans ((unhide HBN).mono hB2))
            have HX3 := hide ((unhide HX).go (unhide HBN))
            generalize wr.alloc (.cells #[.int .i64 (ss q).kind, .int .i64 (ss q).fn, .int .i64 (ss q).line, .string (ss q).name] 50) = W3 at HBX HB3 HX3 ⊢
            obtain ⟨xb, hxb⟩ : ∃ xb, xb = wr.heap.size := ⟨_, rfl⟩
            rw [← hxb] at HBX
            rw [← hxb]
            clear hxb hc0 hc1 hc2 hc3 HBN HBP HX
            have y0 : W3.cell? ⟨xb, 0, none⟩ = some (.int .i64 (ss q).kind) := by rw [cell_of_row W3 xb 0 _ _ _ (unhide HBX)]; rfl
            have y1 : W3.cell? ⟨xb, 1, none⟩ = some (.int .i64 (ss q).fn) := by rw [cell_of_row W3 xb 1 _ _ _ (unhide HBX)]; rfl
            have y2 : W3.cell? ⟨xb, 2, none⟩ = some (.int .i64 (ss q).line) := by rw [cell_of_row W3 xb 2 _ _ _ (unhide HBX)]; rfl
            have y3 : W3.cell? ⟨xb, 3, none⟩ = some (.string (ss q).name) := by rw [cell_of_row W3 xb 3 _ _ _ (unhide HBX)]; rfl
            go_wp2_with fail
            refine (specStopOk_any (ss q).kind (ss q).fn (ss q).line (ss q).name _ hzk).mono ?_
            rintro e w4 ⟨⟨ok, rfl, hok⟩, hb4⟩
            have hsB : B ≤ W3.heap.size := Nat.le_trans (Nat.le_of_eq (unhide HBE)) (unhide HB3).size
            have HB4 := hide ((unhide HB3).trans (hb4.mono hsB))
            have HX4 := hide ((unhide HX3).go hb4)
            have HOK := hide hok
            clear hb4 hok HB3 HX3 HBX y0 y1 y2 y3 hsB
            cases ok with
            | false =>
              go_wp2_with fail
              go_ret
              exact ⟨SaysB.no (fun h => absurd ((unhide HOK).2 (h.2.2.2 q hlt)) Bool.false_ne_true), (unhide HX4).below⟩
            | true =>
              have HSK : Hid (StopIs (ss q)) := hide ((unhide HOK).1 rfl)
              clear HOK
              go_wp2_with fail
              go_roundg (ns - (q + 1))
              case measure => omega
              case rel =>
                have hst' : ∀ j, j < q + 1 → StopIs (ss j) := fun j hj => by
                  by_cases e : j = q
                  · rw [e]; exact unhide HSK
                  · exact unhide HST j (by omega)
                exact ⟨q + 1, by omega, by go_num, hst', unhide HB4⟩
          · have e : ns = q := by omega
            subst e
            have hnk : ¬ ((ns : Int) < (ns : Int)) := by omega
            go_wp2_with fail
            go_ret
            exact ⟨SaysB.yes ⟨unhide HS, unhide HP, h50, unhide HST⟩, (unhide HX).below⟩
      · have d1 : decide ((50 : Int) < (ns : Int)) = true := by simp; omega
        go_wp2_with fail
        go_ret
        exact ⟨SaysB.no (fun h => h50 h.2.2.1), (unhide T2).below⟩
    · have dp : decide (-1 ≤ k ∧ k ≤ (n : Int)) = false := decide_eq_false hp
      rw [dp]
      have HP := hide hp
      clear hp dp
      go_wp2_with fail
      go_ret
      exact ⟨SaysB.no (fun h => unhide HP h.2.1), (unhide T2).below⟩

set_option maxRecDepth 100000 in
set_option maxHeartbeats 4000000 in
theorem l3any_any (B : Nat) (hv : Value) (n : Nat) (f : Nat → M) (ns : Nat) (ss : Nat → Sp) (k : Nat) (w : World) (h : HitsAt B w hv ns n f ss) (hk : k < n) (hns : ns ≤ 50) :
    Calls Try.prog 130 #[hv, .int .i64 k] w fun e w' => e = .returned (.bool (anyOf f ns ss k)) ∧ w' = w := by
  obtain ⟨bs, h1, h2⟩ := h
  obtain ⟨a, cap, rfl, hc⟩ : ∃ a cap, hv = .slice a ns cap ∧ ∀ i, i < ns → ∃ g, a = some ⟨g, 0, none⟩ ∧ w.cell? ⟨g, i, none⟩ = some (.slice (some ⟨bs i, 0, none⟩) n n) := by
    have h1' := h1
    rcases h1.2 with ⟨e, h0⟩ | ⟨g, cap, cur, e, -⟩
    · have hz : ns = 0 := h0
      subst hz
      exact ⟨none, 0, e, fun i hi => absurd hi (Nat.not_lt_zero _)⟩
    · subst e
      refine ⟨_, cap, rfl, fun i hi => ⟨g, rfl, (owns_cell h1' i _ ?_).1⟩⟩
      rw [List.getElem?_map, List.getElem?_range hi]; rfl
  clear h1
  have HC := hide hc
  have H2 := hide h2
  clear hc h2
  go_enter Try.func130, Try.ntmps130
  go_wp2_with fail
  go_loopg [6, 9] ns (fun gg _ i W => ∃ q : Nat, q + gg = ns ∧ i = .int .i64 q ∧ (∀ j, j < q → hit f (ss j) k = false) ∧ W = w)
  case atStart => exact ⟨0, by omega, rfl, fun j hj => absurd hj (Nat.not_lt_zero _), rfl⟩
  case round =>
    obtain ⟨q, hq, rfl, hst, rfl⟩ := hrel
    by_cases hlt : q < ns
    · obtain ⟨g, rfl, c0⟩ := unhide HC q hlt
      have c1 := (unhide H2 q hlt).2 k hk
      have hkn : (q : Int) < (ns : Int) := by omega
      have hkz : (0 : Int) ≤ (q : Int) := by omega
      have hkm : (k : Int) < (n : Int) := by omega
      have hkm0 : (0 : Int) ≤ (k : Int) := by omega
      have HST := hide hst
      clear hst
      cases e : hit f (ss q) k with
      | true =>
        rw [e] at c1
        go_wp2_with fail
        go_ret
        exact ⟨by rw [anyOf_yes hlt e]; rfl, rfl⟩
      | false =>
        rw [e] at c1
        go_wp2_with fail
        go_roundg (ns - (q + 1))
        case measure => omega
        case rel =>
          have hst' : ∀ j, j < q + 1 → hit f (ss j) k = false := fun j hj => by
            by_cases e' : j = q
            · rw [e']; exact e
            · exact unhide HST j (by omega)
          exact ⟨q + 1, by omega, by go_num, hst', rfl⟩
    · have e : ns = q := by omega
      subst e
      have hnk : ¬ ((ns : Int) < (ns : Int)) := by omega
      go_wp2_with fail
      go_ret
      exact ⟨by rw [anyOf_no hst]; rfl, rfl⟩
end Go.Proofs.Ytjhfdjdmiombpab
