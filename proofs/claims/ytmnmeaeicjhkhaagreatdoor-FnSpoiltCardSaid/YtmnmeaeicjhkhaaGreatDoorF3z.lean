import Derived.Test.YtmnmeaeicjhkhaaGreatDoorF2z
import Derived.Deep.RegionHeld3
import Derived.Deep.DeepCutAuto
namespace Go.Proofs.YtmnmeaeicjhkhaaGreatDoor
open Go.RowKit Go.Lib

theorem index_way0 (x0 x1 x2 x3 x4 x5 x6 x7 x8 x9 x10 x11 : Value) (w : World) : (Instr.index 268 (.agg #[x0, x1, x2, x3, x4, x5, x6, x7, x8, x9, x10, x11]) (.int .i64 0)).run Tryz.prog w = .ok (.agg #[x0, x1, x2]) w := by kernel_rfl

theorem index_way1 (x0 x1 x2 x3 x4 x5 x6 x7 x8 x9 x10 x11 : Value) (w : World) : (Instr.index 268 (.agg #[x0, x1, x2, x3, x4, x5, x6, x7, x8, x9, x10, x11]) (.int .i64 1)).run Tryz.prog w = .ok (.agg #[x3, x4, x5]) w := by kernel_rfl

theorem index_way2 (x0 x1 x2 x3 x4 x5 x6 x7 x8 x9 x10 x11 : Value) (w : World) : (Instr.index 268 (.agg #[x0, x1, x2, x3, x4, x5, x6, x7, x8, x9, x10, x11]) (.int .i64 2)).run Tryz.prog w = .ok (.agg #[x6, x7, x8]) w := by kernel_rfl

theorem index_way3 (x0 x1 x2 x3 x4 x5 x6 x7 x8 x9 x10 x11 : Value) (w : World) : (Instr.index 268 (.agg #[x0, x1, x2, x3, x4, x5, x6, x7, x8, x9, x10, x11]) (.int .i64 3)).run Tryz.prog w = .ok (.agg #[x9, x10, x11]) w := by kernel_rfl

set_option maxRecDepth 100000 in
set_option maxHeartbeats 4000000 in
theorem stepFrom0_any (lo lp : Nat) (mv pv : Value) (nf : Nat) (fns : Nat → ByteArray) (n : Nat) (f : Nat → M) (k : Int) (w : World) (h2 : MomsAt lo w mv n f) (hp : PlacesAt lp w pv n f) (hs : Sound nf fns n f) (hk0 : -1 ≤ k) (hk1 : k ≤ n) :
    Calls Tryz.prog 127 #[mv, pv, .int .i64 k, .int .i64 0] w fun e w' => (∃ z, e = .returned (.int .i64 z) ∧ StepIs n f k 0 z) ∧ Below w.heap.size w w' := by
  have H2 := hide h2
  have HP := hide hp
  have HS := hide hs
  have h3 := hs.1.2.2.1
  obtain ⟨a2, cap2, rfl, hn2, -⟩ := h2
  obtain ⟨xs, ho, -⟩ := hp
  obtain ⟨pa, pn, pc, rfl⟩ : ∃ a m c, pv = .slice a m c := by
    rcases ho.2 with ⟨rfl, _⟩ | ⟨g, cap, cur, rfl, _⟩
    · exact ⟨_, _, _, rfl⟩
    · exact ⟨_, _, _, rfl⟩
  clear ho hs hn2
  have HI : Hid (∀ z, FwdIs n (stepHit f (St.after f (upto n k)).cur ((St.after f (upto n k)).tasks (St.after f (upto n k)).cur).length 0) k z → StepIs n f k 0 z) := hide (fun z hz => .inl ⟨by omega, hz⟩)
  go_enter Tryz.func127, Tryz.ntmps127
  go_wp2_with fail
  refine (placeAt_any lp _ n f k _ (unhide HP) h3 hk0 hk1).mono ?_
  rintro e w1 ⟨⟨top, bw, rfl, hpl⟩, hb1⟩
  have HL := hide hpl.1
  have HB1 := hide hb1
  clear hpl hb1
  generalize ((St.after f (upto n k)).tasks (St.after f (upto n k)).cur) = lst at HL HI
  generalize (St.after f (upto n k)).cur = t at HI ⊢
  obtain ⟨d, hd⟩ : ∃ d, d = lst.length := ⟨_, rfl⟩
  have HD := hide hd
  rw [← hd] at HI
  clear hd
  go_wp2_with fail
  go_region_held3 (fun w' => w'.cell? ⟨w1.heap.size, 0, none⟩ = some (.int .i64 (t : Int)) ∧ w'.cell? ⟨w1.heap.size, 1, none⟩ = some (.pointer top))
    (go_keep) ((go_at_call 172; refine (count_any lst top _ ((unhide HL).below (by first | exact (below_new w1 _).drew | exact ((below_new w1 _).trans ((below_new _ _).mono (by simp))).drew))).mono ?_; rw [← unhide HD]; rintro e w2 ⟨rfl, rfl⟩))
  all_goals
    obtain ⟨W1, hW1⟩ : ∃ W1, W1 = w1.alloc (.cells #[.int .i64 (t : Int), .pointer top, .pointer (some ⟨bw, 0, none⟩)] 119) := ⟨_, rfl⟩
    have hs1 : W1.heap.size = w1.heap.size + 1 := by rw [hW1]; simp
    have HB2 := hide ((unhide HB1).trans ((by rw [hW1]; exact below_new _ _ : Below w1.heap.size w1 W1).mono (unhide HB1).size))
    rw [← hW1, ← hs1]
    clear hW1 hs1 HL HD
    obtain ⟨W2, hW2⟩ : ∃ W2, W2 = (W1.alloc (.cells #[.slice a2 n cap2, .slice pa pn pc, .int .i64 k, .int .i64 (t : Int), .int .i64 (d : Int)] 264)).drew := ⟨_, rfl⟩
    have T2 : Hid (StBox W1 (.slice a2 n cap2) (.slice pa pn pc) k t d W2) := hide (by rw [hW2]; exact (StBox.new _ _ _ _ _ _).go (Below.refl _ _).drew)
    rw [← hW2]
    clear hW2
    have T3 := hide ((unhide T2).go ((Below.refl _ _).drew))
    have hix := index_way0
    have x0 := (unhide T2).b0
    have x1 := (unhide T2).b1
    have x2 := (unhide T2).b2
    have x3 := (unhide T2).b3
    have x4 := (unhide T2).b4
    go_wp2_with fail
    go_region_held3 (fun w' => w'.cell? ⟨W1.heap.size, 0, none⟩ = some (.slice a2 n cap2) ∧ w'.cell? ⟨W1.heap.size, 1, none⟩ = some (.slice pa pn pc) ∧ w'.cell? ⟨W1.heap.size, 2, none⟩ = some (.int .i64 k) ∧ w'.cell? ⟨W1.heap.size, 3, none⟩ = some (.int .i64 (t : Int)) ∧ w'.cell? ⟨W1.heap.size, 4, none⟩ = some (.int .i64 (d : Int)))
      (first | (exact (unhide T3).cells) | (exact ((unhide T3).go hbA).cells) | (exact (((unhide T3).go hbA).go hbB).cells))
      ((first | (go_at_call 174; refine (ways_any lo _ _ n f k t d _ ((unhide H2).below (by exact (unhide HB2).trans ((unhide T3).below.mono (unhide HB2).size))) ⟨_, _, _, rfl⟩).mono ?_; rintro e wA ⟨rfl, hbA⟩) | (go_at_call 173; have HBX := (unhide HB2).trans (((unhide T3).go hbA).below.mono (unhide HB2).size); refine (walk0_any lo lp _ _ nf fns n f k t d _ (by exact (unhide H2).below HBX) (by exact (unhide HP).below HBX) (unhide HS) hk0 hk1).mono ?_; rintro e wB ⟨⟨z, rfl, hz⟩, hbB⟩)))
    go_wp2
    go_ret
    exact ⟨⟨z, rfl, unhide HI z hz⟩, (unhide HB2).trans ((((unhide T3).go hbA).go hbB).below.mono (unhide HB2).size)⟩

set_option maxRecDepth 100000 in
set_option maxHeartbeats 1000000 in
theorem stepIn0_any (lo : Nat) (v1 v2 : Value) (nf : Nat) (fns : Nat → ByteArray) (n : Nat) (f : Nat → M) (k : Int) (w : World) (h1 : StrsAt lo w v1 nf fns) (h2 : MomsAt lo w v2 n f) :
    Calls Tryz.prog 64 #[.agg #[v1, v2], .int .i64 k, .int .i64 0] w fun e w' => StepSay nf fns n f k 0 e ∧ Below w.heap.size w w' := by
  have H1 := hide h1; clear h1
  have H2 := hide h2
  obtain ⟨a2, cap2, rfl, -⟩ := h2
  have T0 := hide (TrBox.new w v1 (.slice a2 n cap2))
  go_enter Tryz.func64, Tryz.ntmps64
  go_wp2_with fail
  refine (readTrace_any lo _ _ nf fns n f _ ((unhide H1).below (unhide T0).below) ((unhide H2).below (unhide T0).below)).mono ?_
  rintro e w1 ⟨⟨pv, c, m, rfl, ha, hp, pa, pn, pc, rfl⟩, hb1⟩
  have BA := hide (below_new w1 (.cells #[.int .i64 c, .int .i64 m] 49))
  have T1 := hide (((unhide T0).go hb1).go (unhide BA))
  clear hb1 T0
  by_cases hc : c = 0
  · have HS := hide (ha.zero.1.1 hc)
    have hm := ha.zero.2 hc
    have HP := hide ((hp hc).below (unhide BA))
    subst hm
    subst hc
    clear ha hp
    have g0 := (unhide T1).b0
    have g1 := (unhide T1).b1
    go_wp2_with fail
    refine (isPlace_any lo _ _ n f k _ ((unhide H2).below (unhide T1).below)).mono ?_
    rintro e w2 ⟨rfl, hb2⟩
    have HP2 := hide ((unhide HP).below hb2)
    have T2 := hide ((unhide T1).go hb2); clear hb2 T1 g0 g1 HP
    by_cases hk : -1 ≤ k ∧ k ≤ (n : Int)
    · have hkb : decide (-1 ≤ k ∧ k ≤ (n : Int)) = true := by simpa using hk
      rw [hkb]
      clear hkb
      have HK := hide hk; clear hk
      have g1 := (unhide T2).b1
      go_wp2_with fail
      refine (stepFrom0_any lo _ _ _ nf fns n f k _ ((unhide H2).below (unhide T2).below) (unhide HP2) (unhide HS) (unhide HK).1 (unhide HK).2).mono ?_
      rintro e w3 ⟨⟨z, rfl, hz⟩, hb3⟩
      have T3 := hide ((unhide T2).go hb3)
      have HZ := hide hz
      clear hb3 hz
      go_wp2
      go_ret
      exact ⟨.inl ⟨⟨unhide HS, unhide HK⟩, z, rfl, unhide HZ⟩, (unhide T3).below⟩
    · have hkb : decide (-1 ≤ k ∧ k ≤ (n : Int)) = false := by simpa using hk
      rw [hkb]
      clear hkb
      have HK := hide hk; clear hk
      go_wp2
      go_ret
      exact ⟨.inr ⟨fun h => unhide HK h.2, rfl⟩, (unhide T2).below⟩
  · have HS : Hid (¬ Sound nf fns n f) := hide (fun h => hc (ha.zero.1.2 h))
    have hcb : (c == 0) = false := by simpa using hc
    clear ha hp hc
    go_wp2
    go_ret
    exact ⟨.inr ⟨fun h => unhide HS h.1, rfl⟩, (unhide T1).below⟩
set_option maxRecDepth 100000 in
set_option maxHeartbeats 1000000 in
theorem implInto_any (lo : Nat) (v1 v2 : Value) (nf : Nat) (fns : Nat → ByteArray) (n : Nat) (f : Nat → M) (k : Int) (w : World) (h1 : StrsAt lo w v1 nf fns) (h2 : MomsAt lo w v2 n f) :
    Calls Tryz.prog 21 #[.agg #[v1, v2], .int .i64 k] w fun e w' => StepSay nf fns n f k 0 e ∧ Below w.heap.size w w' := by
  have H1 := hide h1; clear h1
  have H2 := hide h2; clear h2
  have T0 := hide (TrBox.new w v1 v2)
  go_enter Tryz.func21, Tryz.ntmps21
  go_wp2_with fail
  refine (stepIn0_any lo _ _ nf fns n f k _ ((unhide H1).below (unhide T0).below) ((unhide H2).below (unhide T0).below)).mono ?_
  rintro e w1 ⟨hst, hb1⟩
  have T1 := hide ((unhide T0).go hb1)
  clear hb1 T0
  obtain ⟨z, rfl⟩ : ∃ z, e = .returned (.int .i64 z) := by
    rcases hst with ⟨_, z, e1, _⟩ | ⟨_, e1⟩
    · exact ⟨z, e1⟩
    · exact ⟨_, e1⟩
  have HST := hide hst
  clear hst
  go_wp2
  go_ret
  exact ⟨unhide HST, (unhide T1).below⟩

set_option maxRecDepth 100000 in
set_option maxHeartbeats 4000000 in
theorem stepFrom1_any (lo lp : Nat) (mv pv : Value) (nf : Nat) (fns : Nat → ByteArray) (n : Nat) (f : Nat → M) (k : Int) (w : World) (h2 : MomsAt lo w mv n f) (hp : PlacesAt lp w pv n f) (hs : Sound nf fns n f) (hk0 : -1 ≤ k) (hk1 : k ≤ n) :
    Calls Tryz.prog 127 #[mv, pv, .int .i64 k, .int .i64 1] w fun e w' => (∃ z, e = .returned (.int .i64 z) ∧ StepIs n f k 1 z) ∧ Below w.heap.size w w' := by
  have H2 := hide h2
  have HP := hide hp
  have HS := hide hs
  have h3 := hs.1.2.2.1
  obtain ⟨a2, cap2, rfl, hn2, -⟩ := h2
  obtain ⟨xs, ho, -⟩ := hp
  obtain ⟨pa, pn, pc, rfl⟩ : ∃ a m c, pv = .slice a m c := by
    rcases ho.2 with ⟨rfl, _⟩ | ⟨g, cap, cur, rfl, _⟩
    · exact ⟨_, _, _, rfl⟩
    · exact ⟨_, _, _, rfl⟩
  clear ho hs hn2
  have HI : Hid (∀ z, FwdIs n (stepHit f (St.after f (upto n k)).cur ((St.after f (upto n k)).tasks (St.after f (upto n k)).cur).length 1) k z → StepIs n f k 1 z) := hide (fun z hz => .inl ⟨by omega, hz⟩)
  go_enter Tryz.func127, Tryz.ntmps127
  go_wp2_with fail
  refine (placeAt_any lp _ n f k _ (unhide HP) h3 hk0 hk1).mono ?_
  rintro e w1 ⟨⟨top, bw, rfl, hpl⟩, hb1⟩
  have HL := hide hpl.1
  have HB1 := hide hb1
  clear hpl hb1
  generalize ((St.after f (upto n k)).tasks (St.after f (upto n k)).cur) = lst at HL HI
  generalize (St.after f (upto n k)).cur = t at HI ⊢
  obtain ⟨d, hd⟩ : ∃ d, d = lst.length := ⟨_, rfl⟩
  have HD := hide hd
  rw [← hd] at HI
  clear hd
  go_wp2_with fail
  go_region_held3 (fun w' => w'.cell? ⟨w1.heap.size, 0, none⟩ = some (.int .i64 (t : Int)) ∧ w'.cell? ⟨w1.heap.size, 1, none⟩ = some (.pointer top))
    (go_keep) ((go_at_call 172; refine (count_any lst top _ ((unhide HL).below (by first | exact (below_new w1 _).drew | exact ((below_new w1 _).trans ((below_new _ _).mono (by simp))).drew))).mono ?_; rw [← unhide HD]; rintro e w2 ⟨rfl, rfl⟩))
  all_goals
    obtain ⟨W1, hW1⟩ : ∃ W1, W1 = w1.alloc (.cells #[.int .i64 (t : Int), .pointer top, .pointer (some ⟨bw, 0, none⟩)] 119) := ⟨_, rfl⟩
    have hs1 : W1.heap.size = w1.heap.size + 1 := by rw [hW1]; simp
    have HB2 := hide ((unhide HB1).trans ((by rw [hW1]; exact below_new _ _ : Below w1.heap.size w1 W1).mono (unhide HB1).size))
    rw [← hW1, ← hs1]
    clear hW1 hs1 HL HD
    obtain ⟨W2, hW2⟩ : ∃ W2, W2 = (W1.alloc (.cells #[.slice a2 n cap2, .slice pa pn pc, .int .i64 k, .int .i64 (t : Int), .int .i64 (d : Int)] 264)).drew := ⟨_, rfl⟩
    have T2 : Hid (StBox W1 (.slice a2 n cap2) (.slice pa pn pc) k t d W2) := hide (by rw [hW2]; exact (StBox.new _ _ _ _ _ _).go (Below.refl _ _).drew)
    rw [← hW2]
    clear hW2
    have T3 := hide ((unhide T2).go ((Below.refl _ _).drew))
    have hix := index_way1
    have x0 := (unhide T2).b0
    have x1 := (unhide T2).b1
    have x2 := (unhide T2).b2
    have x3 := (unhide T2).b3
    have x4 := (unhide T2).b4
    go_wp2_with fail
    go_region_held3 (fun w' => w'.cell? ⟨W1.heap.size, 0, none⟩ = some (.slice a2 n cap2) ∧ w'.cell? ⟨W1.heap.size, 1, none⟩ = some (.slice pa pn pc) ∧ w'.cell? ⟨W1.heap.size, 2, none⟩ = some (.int .i64 k) ∧ w'.cell? ⟨W1.heap.size, 3, none⟩ = some (.int .i64 (t : Int)) ∧ w'.cell? ⟨W1.heap.size, 4, none⟩ = some (.int .i64 (d : Int)))
      (first | (exact (unhide T3).cells) | (exact ((unhide T3).go hbA).cells) | (exact (((unhide T3).go hbA).go hbB).cells))
      ((first | (go_at_call 174; refine (ways_any lo _ _ n f k t d _ ((unhide H2).below (by exact (unhide HB2).trans ((unhide T3).below.mono (unhide HB2).size))) ⟨_, _, _, rfl⟩).mono ?_; rintro e wA ⟨rfl, hbA⟩) | (go_at_call 173; have HBX := (unhide HB2).trans (((unhide T3).go hbA).below.mono (unhide HB2).size); refine (walk1_any lo lp _ _ nf fns n f k t d _ (by exact (unhide H2).below HBX) (by exact (unhide HP).below HBX) (unhide HS) hk0 hk1).mono ?_; rintro e wB ⟨⟨z, rfl, hz⟩, hbB⟩)))
    go_wp2
    go_ret
    exact ⟨⟨z, rfl, unhide HI z hz⟩, (unhide HB2).trans ((((unhide T3).go hbA).go hbB).below.mono (unhide HB2).size)⟩

set_option maxRecDepth 100000 in
set_option maxHeartbeats 4000000 in
theorem stepFrom2_any (lo lp : Nat) (mv pv : Value) (nf : Nat) (fns : Nat → ByteArray) (n : Nat) (f : Nat → M) (k : Int) (w : World) (h2 : MomsAt lo w mv n f) (hp : PlacesAt lp w pv n f) (hs : Sound nf fns n f) (hk0 : -1 ≤ k) (hk1 : k ≤ n) :
    Calls Tryz.prog 127 #[mv, pv, .int .i64 k, .int .i64 2] w fun e w' => (∃ z, e = .returned (.int .i64 z) ∧ StepIs n f k 2 z) ∧ Below w.heap.size w w' := by
  have H2 := hide h2
  have HP := hide hp
  have HS := hide hs
  have h3 := hs.1.2.2.1
  obtain ⟨a2, cap2, rfl, hn2, -⟩ := h2
  obtain ⟨xs, ho, -⟩ := hp
  obtain ⟨pa, pn, pc, rfl⟩ : ∃ a m c, pv = .slice a m c := by
    rcases ho.2 with ⟨rfl, _⟩ | ⟨g, cap, cur, rfl, _⟩
    · exact ⟨_, _, _, rfl⟩
    · exact ⟨_, _, _, rfl⟩
  clear ho hs hn2
  have HI : Hid (∀ z, FwdIs n (stepHit f (St.after f (upto n k)).cur ((St.after f (upto n k)).tasks (St.after f (upto n k)).cur).length 2) k z → StepIs n f k 2 z) := hide (fun z hz => .inl ⟨by omega, hz⟩)
  go_enter Tryz.func127, Tryz.ntmps127
  go_wp2_with fail
  refine (placeAt_any lp _ n f k _ (unhide HP) h3 hk0 hk1).mono ?_
  rintro e w1 ⟨⟨top, bw, rfl, hpl⟩, hb1⟩
  have HL := hide hpl.1
  have HB1 := hide hb1
  clear hpl hb1
  generalize ((St.after f (upto n k)).tasks (St.after f (upto n k)).cur) = lst at HL HI
  generalize (St.after f (upto n k)).cur = t at HI ⊢
  obtain ⟨d, hd⟩ : ∃ d, d = lst.length := ⟨_, rfl⟩
  have HD := hide hd
  rw [← hd] at HI
  clear hd
  go_wp2_with fail
  go_region_held3 (fun w' => w'.cell? ⟨w1.heap.size, 0, none⟩ = some (.int .i64 (t : Int)) ∧ w'.cell? ⟨w1.heap.size, 1, none⟩ = some (.pointer top))
    (go_keep) ((go_at_call 172; refine (count_any lst top _ ((unhide HL).below (by first | exact (below_new w1 _).drew | exact ((below_new w1 _).trans ((below_new _ _).mono (by simp))).drew))).mono ?_; rw [← unhide HD]; rintro e w2 ⟨rfl, rfl⟩))
  all_goals
    obtain ⟨W1, hW1⟩ : ∃ W1, W1 = w1.alloc (.cells #[.int .i64 (t : Int), .pointer top, .pointer (some ⟨bw, 0, none⟩)] 119) := ⟨_, rfl⟩
    have hs1 : W1.heap.size = w1.heap.size + 1 := by rw [hW1]; simp
    have HB2 := hide ((unhide HB1).trans ((by rw [hW1]; exact below_new _ _ : Below w1.heap.size w1 W1).mono (unhide HB1).size))
    rw [← hW1, ← hs1]
    clear hW1 hs1 HL HD
    obtain ⟨W2, hW2⟩ : ∃ W2, W2 = (W1.alloc (.cells #[.slice a2 n cap2, .slice pa pn pc, .int .i64 k, .int .i64 (t : Int), .int .i64 (d : Int)] 264)).drew := ⟨_, rfl⟩
    have T2 : Hid (StBox W1 (.slice a2 n cap2) (.slice pa pn pc) k t d W2) := hide (by rw [hW2]; exact (StBox.new _ _ _ _ _ _).go (Below.refl _ _).drew)
    rw [← hW2]
    clear hW2
    have T3 := hide ((unhide T2).go ((Below.refl _ _).drew))
    have hix := index_way2
    have x0 := (unhide T2).b0
    have x1 := (unhide T2).b1
    have x2 := (unhide T2).b2
    have x3 := (unhide T2).b3
    have x4 := (unhide T2).b4
    go_wp2_with fail
    go_region_held3 (fun w' => w'.cell? ⟨W1.heap.size, 0, none⟩ = some (.slice a2 n cap2) ∧ w'.cell? ⟨W1.heap.size, 1, none⟩ = some (.slice pa pn pc) ∧ w'.cell? ⟨W1.heap.size, 2, none⟩ = some (.int .i64 k) ∧ w'.cell? ⟨W1.heap.size, 3, none⟩ = some (.int .i64 (t : Int)) ∧ w'.cell? ⟨W1.heap.size, 4, none⟩ = some (.int .i64 (d : Int)))
      (first | (exact (unhide T3).cells) | (exact ((unhide T3).go hbA).cells) | (exact (((unhide T3).go hbA).go hbB).cells))
      ((first | (go_at_call 174; refine (ways_any lo _ _ n f k t d _ ((unhide H2).below (by exact (unhide HB2).trans ((unhide T3).below.mono (unhide HB2).size))) ⟨_, _, _, rfl⟩).mono ?_; rintro e wA ⟨rfl, hbA⟩) | (go_at_call 173; have HBX := (unhide HB2).trans (((unhide T3).go hbA).below.mono (unhide HB2).size); refine (walk2_any lo lp _ _ nf fns n f k t d _ (by exact (unhide H2).below HBX) (by exact (unhide HP).below HBX) (unhide HS) hk0 hk1).mono ?_; rintro e wB ⟨⟨z, rfl, hz⟩, hbB⟩)))
    go_wp2
    go_ret
    exact ⟨⟨z, rfl, unhide HI z hz⟩, (unhide HB2).trans ((((unhide T3).go hbA).go hbB).below.mono (unhide HB2).size)⟩

set_option maxRecDepth 100000 in
set_option maxHeartbeats 4000000 in
theorem stepFrom3_any (lo lp : Nat) (mv pv : Value) (nf : Nat) (fns : Nat → ByteArray) (n : Nat) (f : Nat → M) (k : Int) (w : World) (h2 : MomsAt lo w mv n f) (hp : PlacesAt lp w pv n f) (hs : Sound nf fns n f) (hk0 : -1 ≤ k) (hk1 : k ≤ n) :
    Calls Tryz.prog 127 #[mv, pv, .int .i64 k, .int .i64 3] w fun e w' => (∃ z, e = .returned (.int .i64 z) ∧ StepIs n f k 3 z) ∧ Below w.heap.size w w' := by
  have H2 := hide h2
  have HP := hide hp
  have HS := hide hs
  have h3 := hs.1.2.2.1
  obtain ⟨a2, cap2, rfl, hn2, -⟩ := h2
  obtain ⟨xs, ho, -⟩ := hp
  obtain ⟨pa, pn, pc, rfl⟩ : ∃ a m c, pv = .slice a m c := by
    rcases ho.2 with ⟨rfl, _⟩ | ⟨g, cap, cur, rfl, _⟩
    · exact ⟨_, _, _, rfl⟩
    · exact ⟨_, _, _, rfl⟩
  clear ho hs hn2
  have HI : Hid (∀ z, BackIs (stepHit f (St.after f (upto n k)).cur ((St.after f (upto n k)).tasks (St.after f (upto n k)).cur).length 3) k z → StepIs n f k 3 z) := hide (fun z hz => .inr ⟨rfl, hz⟩)
  go_enter Tryz.func127, Tryz.ntmps127
  go_wp2_with fail
  refine (placeAt_any lp _ n f k _ (unhide HP) h3 hk0 hk1).mono ?_
  rintro e w1 ⟨⟨top, bw, rfl, hpl⟩, hb1⟩
  have HL := hide hpl.1
  have HB1 := hide hb1
  clear hpl hb1
  generalize ((St.after f (upto n k)).tasks (St.after f (upto n k)).cur) = lst at HL HI
  generalize (St.after f (upto n k)).cur = t at HI ⊢
  obtain ⟨d, hd⟩ : ∃ d, d = lst.length := ⟨_, rfl⟩
  have HD := hide hd
  rw [← hd] at HI
  clear hd
  go_wp2_with fail
  go_region_held3 (fun w' => w'.cell? ⟨w1.heap.size, 0, none⟩ = some (.int .i64 (t : Int)) ∧ w'.cell? ⟨w1.heap.size, 1, none⟩ = some (.pointer top))
    (go_keep) ((go_at_call 172; refine (count_any lst top _ ((unhide HL).below (by first | exact (below_new w1 _).drew | exact ((below_new w1 _).trans ((below_new _ _).mono (by simp))).drew))).mono ?_; rw [← unhide HD]; rintro e w2 ⟨rfl, rfl⟩))
  all_goals
    obtain ⟨W1, hW1⟩ : ∃ W1, W1 = w1.alloc (.cells #[.int .i64 (t : Int), .pointer top, .pointer (some ⟨bw, 0, none⟩)] 119) := ⟨_, rfl⟩
    have hs1 : W1.heap.size = w1.heap.size + 1 := by rw [hW1]; simp
    have HB2 := hide ((unhide HB1).trans ((by rw [hW1]; exact below_new _ _ : Below w1.heap.size w1 W1).mono (unhide HB1).size))
    rw [← hW1, ← hs1]
    clear hW1 hs1 HL HD
    obtain ⟨W2, hW2⟩ : ∃ W2, W2 = (W1.alloc (.cells #[.slice a2 n cap2, .slice pa pn pc, .int .i64 k, .int .i64 (t : Int), .int .i64 (d : Int)] 264)).drew := ⟨_, rfl⟩
    have T2 : Hid (StBox W1 (.slice a2 n cap2) (.slice pa pn pc) k t d W2) := hide (by rw [hW2]; exact (StBox.new _ _ _ _ _ _).go (Below.refl _ _).drew)
    rw [← hW2]
    clear hW2
    have T3 := hide ((unhide T2).go ((Below.refl _ _).drew))
    have hix := index_way3
    have x0 := (unhide T2).b0
    have x1 := (unhide T2).b1
    have x2 := (unhide T2).b2
    have x3 := (unhide T2).b3
    have x4 := (unhide T2).b4
    go_wp2_with fail
    go_region_held3 (fun w' => w'.cell? ⟨W1.heap.size, 0, none⟩ = some (.slice a2 n cap2) ∧ w'.cell? ⟨W1.heap.size, 1, none⟩ = some (.slice pa pn pc) ∧ w'.cell? ⟨W1.heap.size, 2, none⟩ = some (.int .i64 k) ∧ w'.cell? ⟨W1.heap.size, 3, none⟩ = some (.int .i64 (t : Int)) ∧ w'.cell? ⟨W1.heap.size, 4, none⟩ = some (.int .i64 (d : Int)))
      (first | (exact (unhide T3).cells) | (exact ((unhide T3).go hbA).cells) | (exact (((unhide T3).go hbA).go hbB).cells))
      ((first | (go_at_call 174; refine (ways_any lo _ _ n f k t d _ ((unhide H2).below (by exact (unhide HB2).trans ((unhide T3).below.mono (unhide HB2).size))) ⟨_, _, _, rfl⟩).mono ?_; rintro e wA ⟨rfl, hbA⟩) | (go_at_call 173; have HBX := (unhide HB2).trans (((unhide T3).go hbA).below.mono (unhide HB2).size); refine (walk3_any lo _ _ nf fns n f k t d _ (by exact (unhide H2).below HBX) ⟨_, _, _, rfl⟩ (unhide HS) hk0 hk1).mono ?_; rintro e wB ⟨⟨z, rfl, hz⟩, hbB⟩)))
    go_wp2
    go_ret
    exact ⟨⟨z, rfl, unhide HI z hz⟩, (unhide HB2).trans ((((unhide T3).go hbA).go hbB).below.mono (unhide HB2).size)⟩

end Go.Proofs.YtmnmeaeicjhkhaaGreatDoor
