import Derived.Test.YtoiacbdnkkolmabS10
namespace Go.Proofs.Ytoiacbdnkkolmab
open Go.RowKit

/-- The program's open calls of a task, the innermost first: a linked list. -/
def ListAt (w : World) : List Fr → Option Addr → Prop
  | [], p => p = none
  | f :: r, p => ∃ b p', p = some ⟨b, 0, none⟩ ∧ w.cell? ⟨b, 0, none⟩ = some (.int .i64 f.fn) ∧ w.cell? ⟨b, 1, none⟩ = some (.int .i64 f.line) ∧ w.cell? ⟨b, 2, none⟩ = some (.int .i64 f.frm) ∧
      w.cell? ⟨b, 3, none⟩ = some (.int .i64 ((r.length : Int) + 1)) ∧ w.cell? ⟨b, 4, none⟩ = some (.pointer p') ∧ ListAt w r p'

theorem ListAt.below {w w' : World} (hb : Below w.heap.size w w') : ∀ {l : List Fr} {p : Option Addr}, ListAt w l p → ListAt w' l p
  | [], _, h => h
  | _ :: _, _, h => by
    obtain ⟨b, p', e, h0, h1, h2, h3, h4, h5⟩ := h
    exact ⟨b, p', e, cell_below hb h0, cell_below hb h1, cell_below hb h2, cell_below hb h3, cell_below hb h4, h5.below hb⟩

set_option maxHeartbeats 400000 in
theorem count_any (l : List Fr) (p : Option Addr) (w : World) (h : ListAt w l p) :
    Calls Try.prog 155 #[.pointer p] w fun e w' => e = .returned (.int .i64 l.length) ∧ w' = w := by
  cases l with
  | nil =>
    have e : p = none := h
    subst e
    go_enter Try.func155, Try.ntmps155
    go_wp2
    go_ret
    exact ⟨rfl, rfl⟩
  | cons f r =>
    obtain ⟨b, p', rfl, h0, h1, h2, h3, h4, -⟩ := h
    go_enter Try.func155, Try.ntmps155
    go_wp2
    go_ret
    exact ⟨by simp, rfl⟩

set_option maxHeartbeats 400000 in
theorem ofn_any (l : List Fr) (p : Option Addr) (w : World) (h : ListAt w l p) :
    Calls Try.prog 171 #[.pointer p] w fun e w' => e = .returned (.int .i64 (topFn l)) ∧ w' = w := by
  cases l with
  | nil =>
    have e : p = none := h
    subst e
    go_enter Try.func171, Try.ntmps171
    go_wp2
    go_ret
    exact ⟨rfl, rfl⟩
  | cons f r =>
    obtain ⟨b, p', rfl, h0, h1, h2, h3, h4, -⟩ := h
    go_enter Try.func171, Try.ntmps171
    go_wp2
    go_ret
    exact ⟨rfl, rfl⟩

set_option maxHeartbeats 400000 in
theorem atLine_any (f : Fr) (r : List Fr) (p : Option Addr) (line : Int) (w : World) (h : ListAt w (f :: r) p) :
    Calls Try.prog 172 #[.pointer p, .int .i64 line] w fun e w' => (∃ q, e = .returned (.pointer q) ∧ ListAt w' (⟨f.fn, line, f.frm⟩ :: r) q) ∧ Below w.heap.size w w' := by
  obtain ⟨b, p', rfl, h0, h1, h2, h3, h4, h5⟩ := h
  have H5 := hide h5; clear h5
  go_enter Try.func172, Try.ntmps172
  go_wp2
  go_ret
  refine ⟨⟨_, rfl, w.heap.size, p', rfl, ?_, ?_, ?_, ?_, ?_, (unhide H5).below ((Below.refl _ _).alloc (Nat.le_refl _) _)⟩, (Below.refl _ _).alloc (Nat.le_refl _) _⟩
  all_goals simp

set_option maxHeartbeats 1000000 in
theorem opened_any (l : List Fr) (p : Option Addr) (fn line frm : Int) (w : World) (h : ListAt w l p) (hl : l.length ≤ 200) :
    Calls Try.prog 173 #[.pointer p, .agg #[.int .i64 fn, .int .i64 line, .int .i64 frm]] w fun e w' => (∃ q, e = .returned (.pointer q) ∧ ListAt w' (⟨fn, line, frm⟩ :: l) q) ∧ Below w.heap.size w w' := by
  have H := hide h; clear h
  have HB : Hid (∀ o, Below w.heap.size w (w.alloc o).drew) := fun o => ((Below.refl _ _).alloc (Nat.le_refl _) o).drew
  go_enter Try.func173, Try.ntmps173
  go_wp2
  go_region_held3 (fun w' => w'.cell? ⟨w.heap.size, 0, none⟩ = some (.int .i64 fn) ∧ w'.cell? ⟨w.heap.size, 1, none⟩ = some (.int .i64 line) ∧ w'.cell? ⟨w.heap.size, 2, none⟩ = some (.int .i64 frm))
    (go_keep) ((go_at_call 155; refine (count_any l p _ ((unhide H).below (by exact unhide HB _))).mono ?_; rintro e w1 ⟨rfl, rfl⟩))
  go_wp2
  go_ret
  refine ⟨⟨_, rfl, w.heap.size + 1, p, rfl, ?_, ?_, ?_, ?_, ?_, (unhide H).below ?_⟩, ?_⟩
  · simp [cell_alloc_at]
  · simp [cell_alloc_at]
  · simp [cell_alloc_at]
  · simp [cell_alloc_at]
    rw [IntKind.wrap_i64]; omega
  · simp [cell_alloc_at]
  · exact (((Below.refl _ _).alloc (Nat.le_refl _) _).alloc (by simp) _).drew
  · exact (((Below.refl _ _).alloc (Nat.le_refl _) _).alloc (by simp) _).drew
end Go.Proofs.Ytoiacbdnkkolmab
