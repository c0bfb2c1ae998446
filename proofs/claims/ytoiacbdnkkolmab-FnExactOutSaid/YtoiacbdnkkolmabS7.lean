import Derived.Test.YtoiacbdnkkolmabS6
namespace Go.Proofs.Ytoiacbdnkkolmab
open Go.RowKit

set_option maxRecDepth 100000 in
set_option maxHeartbeats 1000000 in
theorem move_fn (B ps : Nat) (s : St) (k t fn l i : Int) (tx : ByteArray) (v : Value) (w : World) (h : SpecAt B w ps s) (ht : t = s.cur) (hk7 : (k == 7) = false) (hk2 : (k == 2) = false) (hf : (fn != topFn (s.tasks s.cur)) = true) :
    Calls Try.prog 75 #[.pointer (some ⟨ps, 0, none⟩), .agg #[.int .i64 k, .int .i64 t, .int .i64 fn, .int .i64 l, .string tx, v], .int .i64 i] w (Moved B w ps s k t fn l i) := by
  subst ht
  have H := hide h
  have hB := h.base
  obtain ⟨bt, V, hh⟩ := h
  have HH := hide hh
  have hp := hh.hp
  have h0 := hh.c0
  have hc1 := hh.c1
  have hi2 := hh.cur
  have hi4 := hh.len _ hi2
  have HL := hide ((hh.own _ hi2).lt)
  have NE : Hid (bt ≠ ps ∧ bt ≠ w.heap.size) := ⟨Ne.symm hh.ne, by have := hh.row.lt; omega⟩
  have hbt := hh.hbt
  clear hh
  have hz := cell_lt h0
  simp only at hz
  have n7 : k ≠ 7 := by simpa using hk7
  have n2 : k ≠ 2 := by simpa using hk2
  have E3 : Hid (code s k (s.cur : Int) fn = 4) := by
    have : fn ≠ topFn (s.tasks s.cur) := by simpa using hf
    exact hide (by simp [code, n7, n2, this])
  clear n7 n2
  have hne : ps ≠ w.heap.size := by omega
  go_enter Try.func75, Try.ntmps75
  go_wp2
  go_quiet (fail)
  go_wp2_with fail
  refine (top_any B ps s _ ((unhide H).below (by exact below_drewN ((Below.refl _ _).alloc (Nat.le_refl _) _) _))).mono ?_
  rintro e w1 ⟨rfl, q, hq⟩
  have hbx0 : w1.cell? ⟨w.heap.size, 0, none⟩ = some (.int .i64 k) := by rw [hq]; simp
  have hbx2 : w1.cell? ⟨w.heap.size, 2, none⟩ = some (.int .i64 fn) := by rw [hq]; simp
  have hbx3 : w1.cell? ⟨w.heap.size, 3, none⟩ = some (.int .i64 l) := by rw [hq]; simp
  have HB1 : Hid (Below w.heap.size w w1) := by rw [hq]; exact hide (below_drewN (below_drewN ((Below.refl _ _).alloc (Nat.le_refl _) _) _) _)
  clear hq h0 hc1
  have HF : Hid (∀ m, Calls Try.prog 116 #[.pointer (some ⟨ps, 0, none⟩)] (w1.drewN m) fun e w' => e = .returned (.int .i64 (topFn (s.tasks s.cur))) ∧ ∃ q', w' = (w1.drewN m).drewN q') :=
    hide fun m => fn_any B ps s _ (((unhide H).below (unhide HB1)).below (below_drewN' w1 m))
  have HC := hide ((unhide HH).grown (unhide HB1))
  have h0 := (unhide HC).c0
  have hc1 := (unhide HC).c1
  have hw1 := cell_lt hbx2
  simp only at hw1
  go_wp2_with fail
  go_quiet ((go_at_call 116; exact Calls.quiet_of (unhide HF _)))
  go_wp2
  go_ret
  refine ⟨by rw [unhide E3]; rfl, fun h => ?_, ?_, ?_⟩
  · rw [unhide E3] at h; cases h
  · exact below_drewN ((unhide HB1).mono hB) _
  · exact Keeps.of_below (below_drewN (unhide HB1) _)

set_option maxRecDepth 100000 in
set_option maxHeartbeats 1000000 in
theorem move_none (B ps : Nat) (s : St) (k t fn l i : Int) (tx : ByteArray) (v : Value) (w : World) (h : SpecAt B w ps s) (ht : t = s.cur) (hk7 : (k == 7) = false) (hk2 : (k == 2) = false) (hf : (fn != topFn (s.tasks s.cur)) = false) (hk1 : (k == 1) = false) (hk3 : (k == 3) = false) :
    Calls Try.prog 75 #[.pointer (some ⟨ps, 0, none⟩), .agg #[.int .i64 k, .int .i64 t, .int .i64 fn, .int .i64 l, .string tx, v], .int .i64 i] w (Moved B w ps s k t fn l i) := by
  subst ht
  have H := hide h
  have hB := h.base
  obtain ⟨bt, V, hh⟩ := h
  have HH := hide hh
  have hp := hh.hp
  have h0 := hh.c0
  have hc1 := hh.c1
  have hi2 := hh.cur
  have hi4 := hh.len _ hi2
  have HL := hide ((hh.own _ hi2).lt)
  have NE : Hid (bt ≠ ps ∧ bt ≠ w.heap.size) := ⟨Ne.symm hh.ne, by have := hh.row.lt; omega⟩
  have hbt := hh.hbt
  clear hh
  have hz := cell_lt h0
  simp only at hz
  have n7 : k ≠ 7 := by simpa using hk7
  have n2 : k ≠ 2 := by simpa using hk2
  have E3 : Hid (code s k (s.cur : Int) fn = 0 ∧ s.step k (s.cur : Int) fn l i = s) := by
    have n1 : k ≠ 1 := by simpa using hk1
    have n3 : k ≠ 3 := by simpa using hk3
    have : fn = topFn (s.tasks s.cur) := by simpa using hf
    refine hide ⟨?_, ?_⟩
    · simp [code, n7, n2, n1, n3, this]
    · simp [St.step, n7, n2, n1, n3]
  clear n7 n2
  have hne : ps ≠ w.heap.size := by omega
  go_enter Try.func75, Try.ntmps75
  go_wp2
  go_quiet (fail)
  go_wp2_with fail
  refine (top_any B ps s _ ((unhide H).below (by exact below_drewN ((Below.refl _ _).alloc (Nat.le_refl _) _) _))).mono ?_
  rintro e w1 ⟨rfl, q, hq⟩
  have hbx0 : w1.cell? ⟨w.heap.size, 0, none⟩ = some (.int .i64 k) := by rw [hq]; simp
  have hbx2 : w1.cell? ⟨w.heap.size, 2, none⟩ = some (.int .i64 fn) := by rw [hq]; simp
  have hbx3 : w1.cell? ⟨w.heap.size, 3, none⟩ = some (.int .i64 l) := by rw [hq]; simp
  have HB1 : Hid (Below w.heap.size w w1) := by rw [hq]; exact hide (below_drewN (below_drewN ((Below.refl _ _).alloc (Nat.le_refl _) _) _) _)
  clear hq h0 hc1
  have HF : Hid (∀ m, Calls Try.prog 116 #[.pointer (some ⟨ps, 0, none⟩)] (w1.drewN m) fun e w' => e = .returned (.int .i64 (topFn (s.tasks s.cur))) ∧ ∃ q', w' = (w1.drewN m).drewN q') :=
    hide fun m => fn_any B ps s _ (((unhide H).below (unhide HB1)).below (below_drewN' w1 m))
  have HC := hide ((unhide HH).grown (unhide HB1))
  have h0 := (unhide HC).c0
  have hc1 := (unhide HC).c1
  have hw1 := cell_lt hbx2
  simp only at hw1
  go_wp2_with fail
  go_quiet ((go_at_call 116; exact Calls.quiet_of (unhide HF _)))
  go_wp2
  go_ret
  refine ⟨by rw [(unhide E3).1]; rfl, fun _ => ?_, ?_, ?_⟩
  · rw [(unhide E3).2]
    exact ⟨bt, V, (unhide HC).grown (below_drewN' _ _)⟩
  · exact below_drewN ((unhide HB1).mono hB) _
  · exact Keeps.of_below (below_drewN (unhide HB1) _)

set_option maxRecDepth 100000 in
set_option maxHeartbeats 1000000 in
theorem move_line0 (B ps : Nat) (s : St) (k t fn l i : Int) (tx : ByteArray) (v : Value) (w : World) (h : SpecAt B w ps s) (ht : t = s.cur) (hk7 : (k == 7) = false) (hk2 : (k == 2) = false) (hf : (fn != topFn (s.tasks s.cur)) = false) (hk1 : (k == 1) = true) (hl : s.tasks s.cur = []) :
    Calls Try.prog 75 #[.pointer (some ⟨ps, 0, none⟩), .agg #[.int .i64 k, .int .i64 t, .int .i64 fn, .int .i64 l, .string tx, v], .int .i64 i] w (Moved B w ps s k t fn l i) := by
  subst ht
  have H := hide h
  have hB := h.base
  obtain ⟨bt, V, hh⟩ := h
  have HH := hide hh
  have hp := hh.hp
  have h0 := hh.c0
  have hc1 := hh.c1
  have hi2 := hh.cur
  have hi4 := hh.len _ hi2
  have HL := hide ((hh.own _ hi2).lt)
  have NE : Hid (bt ≠ ps ∧ bt ≠ w.heap.size) := ⟨Ne.symm hh.ne, by have := hh.row.lt; omega⟩
  have hbt := hh.hbt
  clear hh
  have hz := cell_lt h0
  simp only at hz
  have n7 : k ≠ 7 := by simpa using hk7
  have n2 : k ≠ 2 := by simpa using hk2
  have E3 : Hid (code s k (s.cur : Int) fn = 4) := by
    have n1 : k = 1 := by simpa using hk1
    have : fn = topFn (s.tasks s.cur) := by simpa using hf
    refine hide ?_
    simp [code, n1, this, hl]
  have E4 : Hid ((s.tasks s.cur).length = 0) := by rw [hl]; exact hide rfl
  clear hl
  clear n7 n2
  have hne : ps ≠ w.heap.size := by omega
  go_enter Try.func75, Try.ntmps75
  go_wp2
  go_quiet (fail)
  go_wp2_with fail
  refine (top_any B ps s _ ((unhide H).below (by exact below_drewN ((Below.refl _ _).alloc (Nat.le_refl _) _) _))).mono ?_
  rintro e w1 ⟨rfl, q, hq⟩
  have hbx0 : w1.cell? ⟨w.heap.size, 0, none⟩ = some (.int .i64 k) := by rw [hq]; simp
  have hbx2 : w1.cell? ⟨w.heap.size, 2, none⟩ = some (.int .i64 fn) := by rw [hq]; simp
  have hbx3 : w1.cell? ⟨w.heap.size, 3, none⟩ = some (.int .i64 l) := by rw [hq]; simp
  have HB1 : Hid (Below w.heap.size w w1) := by rw [hq]; exact hide (below_drewN (below_drewN ((Below.refl _ _).alloc (Nat.le_refl _) _) _) _)
  clear hq h0 hc1
  have HF : Hid (∀ m, Calls Try.prog 116 #[.pointer (some ⟨ps, 0, none⟩)] (w1.drewN m) fun e w' => e = .returned (.int .i64 (topFn (s.tasks s.cur))) ∧ ∃ q', w' = (w1.drewN m).drewN q') :=
    hide fun m => fn_any B ps s _ (((unhide H).below (unhide HB1)).below (below_drewN' w1 m))
  have HC := hide ((unhide HH).grown (unhide HB1))
  have h0 := (unhide HC).c0
  have hc1 := (unhide HC).c1
  have hw1 := cell_lt hbx2
  simp only at hw1
  go_wp2_with fail
  go_quiet ((go_at_call 116; exact Calls.quiet_of (unhide HF _)))
  rw [unhide E4]
  go_wp2
  go_ret
  refine ⟨by rw [unhide E3]; rfl, fun h => ?_, ?_, ?_⟩
  · rw [unhide E3] at h; cases h
  · exact below_drewN ((unhide HB1).mono hB) _
  · exact Keeps.of_below (below_drewN (unhide HB1) _)

end Go.Proofs.Ytoiacbdnkkolmab
