import Derived.Test.YtoiacbdnkkolmabI1
namespace Go.Proofs.Ytoiacbdnkkolmab
open Go.RowKit

/-- The interface value that eventOf makes of a moment. -/
def evOf (k t fn l : Int) : Value :=
  if k = 1 then .iface 237 (.agg #[.int .i64 t, .int .i64 fn, .int .i64 l])
  else if k = 2 then .iface 239 (.agg #[.int .i64 t, .int .i64 fn])
  else if k = 3 then .iface 240 (.agg #[.int .i64 t, .int .i64 fn])
  else if k = 4 then .iface 241 (.agg #[.int .i64 t, .int .i64 fn])
  else if k = 5 then .iface 242 (.agg #[.int .i64 t, .int .i64 fn])
  else if k = 6 then .iface 243 (.agg #[.int .i64 t, .int .i64 fn])
  else .iface 244 (.agg #[.int .i64 t, .int .i64 fn])

theorem seven {k : Int} (h1 : 1 ≤ k) (h2 : k ≤ 7) : k = 1 ∨ k = 2 ∨ k = 3 ∨ k = 4 ∨ k = 5 ∨ k = 6 ∨ k = 7 := by omega

set_option maxHeartbeats 1000000 in
theorem eventOf_any (k t fn l : Int) (tx : ByteArray) (v : Value) (w : World) (h1 : 1 ≤ k) (h2 : k ≤ 7) :
    Calls Try.prog 144 #[.agg #[.int .i64 k, .int .i64 t, .int .i64 fn, .int .i64 l, .string tx, v]] w fun e w' => e = .returned (evOf k t fn l) ∧ Below w.heap.size w w' := by
  rcases seven h1 h2 with rfl | rfl | rfl | rfl | rfl | rfl | rfl
  all_goals
    clear h1 h2
    go_enter Try.func144, Try.ntmps144
    go_wp2
    go_ret
    exact ⟨rfl, ((Below.refl _ _).alloc (Nat.le_refl _) _).alloc (by simp) _⟩

end Go.Proofs.Ytoiacbdnkkolmab
