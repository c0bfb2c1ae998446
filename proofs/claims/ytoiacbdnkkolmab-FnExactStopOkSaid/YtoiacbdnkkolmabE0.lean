/-
  A stop as plain data: no dump is named here.
-/
import Derived.Test.YtoiacbdnkkolmabMath
namespace Go.Proofs.Ytoiacbdnkkolmab

structure Sp where
  kind : Int
  fn : Int
  line : Int
  name : ByteArray

def StopIs (s : Sp) : Prop :=
  0 ≤ s.fn ∧ s.fn < 300 ∧ ((s.kind = 1 ∧ 1 ≤ s.line ∧ s.line ≤ 100000 ∧ s.name = ByteArray.empty) ∨ (s.kind = 2 ∧ s.line = 0 ∧ s.name = ByteArray.empty) ∨
    (s.kind = 3 ∧ s.line = 0 ∧ 1 ≤ s.name.size ∧ s.name.size ≤ 40) ∨ (s.kind = 4 ∧ s.fn = 0 ∧ s.line = 0 ∧ s.name = ByteArray.empty))

end Go.Proofs.Ytoiacbdnkkolmab
