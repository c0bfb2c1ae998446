import Derived.Test.YtoiacbdnkkolmabS9
namespace Go.Proofs.Ytoiacbdnkkolmab
open Go.RowKit

theorem move_any (B ps : Nat) (s : St) (k t fn l i : Int) (tx : ByteArray) (v : Value) (w : World) (h : SpecAt B w ps s) (h1 : 0 ≤ t) (h2 : t ≤ 100) :
    Calls Try.prog 75 #[.pointer (some ⟨ps, 0, none⟩), .agg #[.int .i64 k, .int .i64 t, .int .i64 fn, .int .i64 l, .string tx, v], .int .i64 i] w (Moved B w ps s k t fn l i) := by
  by_cases k7 : k = 7
  · subst k7; exact move_turn B ps s t fn l i tx v w h h1 h2
  have k7' : (k == 7) = false := by simpa using k7
  by_cases ht : t = s.cur
  · by_cases k2 : k = 2
    · subst k2
      by_cases hd : (s.tasks s.cur).length = 200
      · exact move_deep B ps s t fn l i tx v w h ht hd
      · exact move_call B ps s t fn l i tx v w h ht hd
    have k2' : (k == 2) = false := by simpa using k2
    cases hf : fn != topFn (s.tasks s.cur) with
    | true => exact move_fn B ps s k t fn l i tx v w h ht k7' k2' hf
    | false =>
      by_cases k1 : k = 1
      · have k1' : (k == 1) = true := by simpa using k1
        cases hs : s.tasks s.cur with
        | nil => exact move_line0 B ps s k t fn l i tx v w h ht k7' k2' hf k1' hs
        | cons f r => exact move_line1 B ps s k t fn l i tx v w h ht k7' k2' f r hf k1' hs
      have k1' : (k == 1) = false := by simpa using k1
      by_cases k3 : k = 3
      · have k3' : (k == 3) = true := by simpa using k3
        cases hs : s.tasks s.cur with
        | nil => exact move_back0 B ps s k t fn l i tx v w h ht k7' k2' hf k3' hs
        | cons f r =>
          cases hfr : decide (f.frm < 0) with
          | true => exact move_back1 B ps s k t fn l i tx v w h ht k7' k2' f r hf k3' hs hfr
          | false => exact move_back2 B ps s k t fn l i tx v w h ht k7' k2' f r hf k3' hs hfr
      have k3' : (k == 3) = false := by simpa using k3
      exact move_none B ps s k t fn l i tx v w h ht k7' k2' hf k1' k3'
  · exact move_task B ps s k t fn l i tx v w h k7' ht

theorem info_Frames : (Try.prog.info? 100).map (fun i => (i.zero, i.size, i.bytes)) = some (some (.slice none 0 0), 1, 24) := by kernel_rfl

theorem cell_alloc_at (w : World) (c : Array Value) (t : TypeId) (b i : Nat) (hb : b = w.heap.size) : (w.alloc (.cells c t)).cell? ⟨b, i, none⟩ = c[i]? := by subst hb; simp
theorem frozen_alloc_at (w : World) (c : Array Value) (t : TypeId) (b i : Nat) (hb : b = w.heap.size) : (w.alloc (.cells c t)).frozen? ⟨b, i, none⟩ = false := by subst hb; simp

/-- What stands when l1begin has laid its three blocks. -/
theorem SpecAt_begin (w : World) (mc : Array Value) (hs : mc.size = 101) (hm : ∀ i, i < 101 → mc[i]? = some (.slice none 0 0)) :
    SpecAt w.heap.size (((w.alloc (.cells (mc.setIfInBounds 0 (.slice (some ⟨w.heap.size + 1 + 1, 0, none⟩) 1 1)) 100)).alloc (.cells #[.slice (some ⟨w.heap.size, 0, none⟩) 101 101, .int .i64 0] 103)).alloc (.cells #[.int .i64 0, .int .i64 0, .int .i64 (-1)] 105))
      (w.heap.size + 1) St.init := by
  refine ⟨w.heap.size, fun t => if t = 0 then .slice (some ⟨w.heap.size + 1 + 1, 0, none⟩) 1 1 else .slice none 0 0, by omega, Nat.le_refl _, by omega, ?_, ?_, ?_, ?_, fun t ht => ?_, fun t ht => ?_, fun t ht => ?_, fun t t' ht ht' hne => ?_, by decide, fun t ht => ?_⟩
  · rw [World.cell?_alloc_old _ _ _ (by simp), cell_alloc_at _ _ _ _ _ (by simp)]
    rfl
  · rw [World.cell?_alloc_old _ _ _ (by simp), cell_alloc_at _ _ _ _ _ (by simp)]
    rfl
  · rw [World.frozen?_alloc_old _ _ _ (by simp), frozen_alloc_at _ _ _ _ _ (by simp)]
  · have h := World.rowIs_alloc w (mc.setIfInBounds 0 (.slice (some ⟨w.heap.size + 1 + 1, 0, none⟩) 1 1)) 100 (fun t => if t = 0 then .slice (some ⟨w.heap.size + 1 + 1, 0, none⟩) 1 1 else .slice none 0 0) (fun i hi => by
      have hi' : i < 101 := by simpa [hs] using hi
      rw [Array.getElem?_setIfInBounds]
      by_cases e : i = 0
      · subst e; simp [hs]
      · rw [if_neg (fun h => e h.symm), if_neg e]; exact hm i hi')
    rw [show (mc.setIfInBounds 0 (.slice (some ⟨w.heap.size + 1 + 1, 0, none⟩) 1 1)).size = 101 by simpa using hs] at h
    exact (h.alloc _).alloc _
  · by_cases e : t = 0
    · subst e
      refine ⟨by simp [frCells, St.init], .inr ⟨w.heap.size + 1 + 1, 1, #[.int .i64 0, .int .i64 0, .int .i64 (-1)], rfl, by omega, ?_, by simp [St.init], by unfold maxLen; omega, rfl, by simp [St.init, frCells]⟩⟩
      have := heap_alloc_new ((w.alloc (.cells (mc.setIfInBounds 0 (.slice (some ⟨w.heap.size + 1 + 1, 0, none⟩) 1 1)) 100)).alloc (.cells #[.slice (some ⟨w.heap.size, 0, none⟩) 101 101, .int .i64 0] 103)) (.cells #[.int .i64 0, .int .i64 0, .int .i64 (-1)] 105)
      simpa using this
    · have e1 : St.init.tasks t = [] := by simp [St.init, e]
      rw [if_neg e, e1]
      exact World.ownsRow_nil _ _ _ _
  · by_cases e : t = 0
    · rw [if_pos e]; simp [Value.ownBlock]
    · rw [if_neg e]; simp [Value.ownBlock]
  · by_cases e : t = 0
    · rw [if_pos e]; simp [Value.ownBlock]; omega
    · rw [if_neg e]; simp [Value.ownBlock]
  · by_cases e : t = 0
    · have e' : t' ≠ 0 := by omega
      rw [if_pos e, if_neg e']; right; simp [Value.ownBlock]
    · rw [if_neg e]; left; rfl
  · by_cases e : t = 0
    · subst e; simp [St.init]
    · simp [St.init, e]

set_option maxRecDepth 100000 in
set_option maxHeartbeats 1000000 in
theorem l1begin_any (w : World) :
    Calls Try.prog 74 #[] w fun e w' => (∃ ps, e = .returned (.pointer (some ⟨ps, 0, none⟩)) ∧ SpecAt w.heap.size w' ps St.init) ∧ Below w.heap.size w w' := by
  obtain ⟨mc, hmc⟩ : ∃ mc, mc = madeCells #[.slice none 0 0] 101 := ⟨_, rfl⟩
  have hmk : ∀ w, (Instr.makeSlice 101 (.int .i64 101) (.int .i64 101)).run Try.prog w = .ok (.slice (some ⟨w.heap.size, 0, none⟩) 101 101) (w.alloc (.cells mc 100)) := fun w => by
    have := run_make_many (P := Try.prog) 101 100 _ _ _ Try.underlying101 info_Frames 101 (by omega) (by omega) w
    rw [hmc]
    exact this
  have hs : mc.size = 101 := by rw [hmc]; exact size_madeCells _ _
  have hm : ∀ i, i < 101 → mc[i]? = some (.slice none 0 0) := fun i hi => by rw [hmc]; simp [madeCells, hi, Nat.mod_one]
  have h0 := hm 0 (by omega)
  have HS := hide hs
  have HM := hide hm
  clear hmc hm hs
  go_enter Try.func74, Try.ntmps74
  go_wp2
  go_ret
  exact ⟨⟨w.heap.size + 1, rfl, SpecAt_begin w mc (unhide HS) (unhide HM)⟩, (((Below.refl _ _).alloc (Nat.le_refl _) _).alloc (by simp) _).alloc (by simp; omega) _⟩
end Go.Proofs.Ytoiacbdnkkolmab
