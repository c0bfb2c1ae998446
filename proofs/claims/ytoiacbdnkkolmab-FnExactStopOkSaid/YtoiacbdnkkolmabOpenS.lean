/-
  What a stop that came in reads as, opened.
-/
import Derived.Test.YtoiacbdnkkolmabProg
import Derived.Test.YtoiacbdnkkolmabBase
import Derived.ProofKit
import Derived.Deep.Slices
import Derived.SliceStrings
import Derived.Lib.SmallJoins
namespace Go.Proofs.Ytoiacbdnkkolmab
open Go.RowKit Go.ChangeShapes Go.WideShapes Go.Deep Go.Joins

theorem cellsString' : Try.prog.cellsOf 9 = 1 := by kernel_rfl
theorem cellsInt' : Try.prog.cellsOf 3 = 1 := by kernel_rfl
theorem cellsLawStop : Try.prog.cellsOf 47 = 4 := by kernel_rfl

variable {H : Type} {enc : TypeId × Value → H} {W : World} {base b0 : Nat} {held : Bool} {r : Reach}

set_option maxRecDepth 100000 in
theorem stop_open {v : Value} {d : DataW H} {p : List MemPlace} (hv : Value.okWide Try.prog W r b0 47 v) (h : DataW.Trod enc Try.prog W base (fun _ => true) held 47 v d p) :
    ∃ (kd fn line : Int) (name : ByteArray), v = .agg #[.int .i64 kd, .int .i64 fn, .int .i64 line, .string name] ∧ name.size ≤ maxLen := by
  obtain ⟨c0, c1, c2, c3, y0, y1, y2, y3, m, rfl, -, -, h0, h1, h2, h3⟩ := open_agg4 Try.underlying47 (by kernel_rfl) cellsLawStop hv h
  obtain ⟨a0, e0, -, -⟩ := DataW.trod_int Try.underlying3 h0
  obtain ⟨a1, e1, -, -⟩ := DataW.trod_int Try.underlying3 h1
  obtain ⟨a2, e2, -, -⟩ := DataW.trod_int Try.underlying3 h2
  obtain ⟨s, e3, -, b3⟩ := DataW.trod_string Try.underlying9 h3
  simp at e0 e1 e2 e3
  exact ⟨a0, a1, a2, s, by rw [e0, e1, e2, e3], b3⟩
end Go.Proofs.Ytoiacbdnkkolmab
