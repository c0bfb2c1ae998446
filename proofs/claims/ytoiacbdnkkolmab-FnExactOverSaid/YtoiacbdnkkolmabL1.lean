import Derived.Test.YtoiacbdnkkolmabA4
import Derived.Test.YtoiacbdnkkolmabI11
namespace Go.Proofs.Ytoiacbdnkkolmab
open Go.RowKit

set_option maxRecDepth 100000 in
set_option maxHeartbeats 1000000 in
theorem implTraceOk_any (lo : Nat) (v1 v2 : Value) (nf : Nat) (fns : Nat → ByteArray) (n : Nat) (f : Nat → M) (w : World) (h1 : StrsAt lo w v1 nf fns) (h2 : MomsAt lo w v2 n f) :
    Calls Try.prog 65 #[.agg #[v1, v2]] w fun e w' => SaysF nf fns n f e ∧ Below w.heap.size w w' := by
  have H1 := hide h1; clear h1
  have H2 := hide h2; clear h2
  have T0 : Hid (Two w v1 v2 ((w.alloc (.cells #[v1, v2] 31)).alloc (.cells #[.int .i64 0, .int .i64 0] 79))) := hide (Below.refl _ _)
  go_enter Try.func65, Try.ntmps65
  go_wp2_with fail
  refine (readTrace_any lo _ _ nf fns n f _ ((unhide H1).below (unhide T0).below) ((unhide H2).below (unhide T0).below)).mono ?_
  rintro e w1 ⟨⟨v', c, m, rfl, ha, -, a, l, cp, rfl⟩, hb1⟩
  have T1 := hide ((unhide T0).go hb1); clear hb1 T0
  have HA := hide ha; clear ha
  have BA := hide ((Below.refl w1.heap.size w1).alloc (Nat.le_refl _) (.cells #[.int .i64 c, .int .i64 m] 79))
  have T2 := hide ((unhide T1).go (unhide BA))
  have g2 := (unhide T2).r0
  have g3 := (unhide T2).r1
  have g4 := (unhide T2).f0
  have g5 := (unhide T2).f1
  go_wp2
  refine bodyPost_ret (v := .agg #[.int .i64 c, .int .i64 m]) (by simp [results, Try.results65, go_sem, g2, g3]) rfl ⟨⟨_, _, rfl, unhide HA⟩, ?_⟩
  repeat (refine Below.setCell ?_ (by simp) _)
  exact (unhide T2).below

/-- The law's own box of its argument stands as it was laid. -/
def LawBox (w : World) (v1 v2 : Value) (w' : World) : Prop := Below (w.heap.size + 1) (w.alloc (.cells #[v1, v2] 25)) w'

theorem LawBox.below {w w' : World} {v1 v2 : Value} (h : LawBox w v1 v2 w') : Below w.heap.size w w' := ((Below.refl _ _).alloc (Nat.le_refl _) _).trans (Below.mono h (by omega))
theorem LawBox.size {w w' : World} {v1 v2 : Value} (h : LawBox w v1 v2 w') : w.heap.size + 1 ≤ w'.heap.size := by
  have := Below.size h; simpa using this
theorem LawBox.go {w w' w'' : World} {v1 v2 : Value} (h : LawBox w v1 v2 w') (hb : Below w'.heap.size w' w'') : LawBox w v1 v2 w'' := Below.trans h (hb.mono h.size)
theorem LawBox.b0 {w w' : World} {v1 v2 : Value} (h : LawBox w v1 v2 w') : w'.cell? ⟨w.heap.size, 0, none⟩ = some v1 := by
  rw [Below.cell h (by simp), cell_alloc_at _ _ _ _ _ rfl]; rfl
theorem LawBox.b1 {w w' : World} {v1 v2 : Value} (h : LawBox w v1 v2 w') : w'.cell? ⟨w.heap.size, 1, none⟩ = some v2 := by
  rw [Below.cell h (by simp), cell_alloc_at _ _ _ _ _ rfl]; rfl

theorem below_alloc (w : World) (o : Obj) : Below w.heap.size w (w.alloc o) := (Below.refl _ _).alloc (Nat.le_refl _) o

end Go.Proofs.Ytoiacbdnkkolmab
