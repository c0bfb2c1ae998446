import Derived.Test.YtoiacbdnkkolmaaK2z
import Derived.Deep.RegionHeld3
import Derived.Great.BuildSlice
namespace Go.Proofs.Ytoiacbdnkkolmaa
open Go.RowKit Go.Lib

theorem step_bs {P : Program} {ops : Array Oper} {o : Oper} {a : Act} {w w' : World} {K : Act → World → Prop} {Q : Exit → Act → World → Prop} {E : Prop} (hgd : o.guard = none) (t : TypeId) (len : Nat) (parts : Array (Nat × Operand)) (ho : o.op = .buildSlice t len parts)
    (vs : Array (Nat × Value)) (hv : (parts.map fun (i, x) => (i, a.eval x)) = vs) (v : Value) (hr : (Instr.buildSlice t len vs).run P w = .ok v w') (hK : K (a.put o.dst v) w') :
    if Region.wanted o (yielded ops a.tmps) = true then Oper.wp P o a w K Q else E := by
  have hw : Region.wanted o (yielded ops a.tmps) = true := by simp [Region.wanted, hgd]
  rw [if_pos hw]
  unfold Oper.wp
  simp only [execOp, ho, hv]
  simp [hr, Result.andThen]
  exact hK

theorem step_bs1 {P : Program} {ops : Array Oper} {o : Oper} {a : Act} {w w' : World} {K : Act → World → Prop} {Q : Exit → Act → World → Prop} {E : Prop} (hgd : o.guard = none) (t : TypeId) (len : Nat) (x : Operand) (ho : o.op = .buildSlice t len #[(0, x)])
    (xv : Value) (hx : a.eval x = xv) (v : Value) (hr : (Instr.buildSlice t len #[(0, xv)]).run P w = .ok v w') (hK : K (a.put o.dst v) w') :
    if Region.wanted o (yielded ops a.tmps) = true then Oper.wp P o a w K Q else E := step_bs hgd t len _ ho _ (by simp [hx]) v hr hK

theorem step_bs2 {P : Program} {ops : Array Oper} {o : Oper} {a : Act} {w w' : World} {K : Act → World → Prop} {Q : Exit → Act → World → Prop} {E : Prop} (hgd : o.guard = none) (t : TypeId) (len : Nat) (x y : Operand) (ho : o.op = .buildSlice t len #[(0, x), (1, y)])
    (xv yv : Value) (hx : a.eval x = xv) (hy : a.eval y = yv) (v : Value) (hr : (Instr.buildSlice t len #[(0, xv), (1, yv)]).run P w = .ok v w') (hK : K (a.put o.dst v) w') :
    if Region.wanted o (yielded ops a.tmps) = true then Oper.wp P o a w K Q else E := step_bs hgd t len _ ho _ (by simp [hx, hy]) v hr hK

theorem wpList_val {P : Program} {ops : Array Oper} {Q : Exit → Act → World → Prop} {rest : List Oper} {o : Oper} {a : Act} {w w' : World} {v : Value} (hg : o.guard = none) (hr : (execOp a.eval o).run P w = .ok (.value v) w') (h : wpList P ops Q rest (a.put o.dst v) w') : wpList P ops Q (o :: rest) a w := by
  refine wpList_plain hg fun K' hK' => ?_
  unfold Oper.wp
  simp [hr]
  exact hK' _ _ h

theorem wpList_bs1 {P : Program} {ops : Array Oper} {Q : Exit → Act → World → Prop} {rest : List Oper} {o : Oper} {a : Act} {w w' : World} (hg : o.guard = none) (t : TypeId) (len : Nat) (x : Operand) (ho : o.op = .buildSlice t len #[(0, x)])
    (xv : Value) (hx : a.eval x = xv) (v : Value) (hr : (Instr.buildSlice t len #[(0, xv)]).run P w = .ok v w') (h : wpList P ops Q rest (a.put o.dst v) w') : wpList P ops Q (o :: rest) a w := by
  refine wpList_plain hg fun K' hK' => ?_
  unfold Oper.wp
  simp [execOp, ho, hx, hr, Result.andThen]
  exact hK' _ _ h

theorem zero_mom1 : (Array.range (1 * 6)).map ((Value.agg #[.int .i64 0, .int .i64 0, .int .i64 0, .int .i64 0, .string ByteArray.empty, .slice none 0 0]).cells[· % (Value.agg #[.int .i64 0, .int .i64 0, .int .i64 0, .int .i64 0, .string ByteArray.empty, .slice none 0 0]).cells.size]!) = #[.int .i64 0, .int .i64 0, .int .i64 0, .int .i64 0, .string ByteArray.empty, .slice none 0 0] := by kernel_rfl

theorem bs_mom1 (k tk fn ln : Int) (tx : ByteArray) (a : Option Addr) (m c : Nat) (w : World) :
    (Instr.buildSlice 24 1 #[(0, .agg #[.int .i64 k, .int .i64 tk, .int .i64 fn, .int .i64 ln, .string tx, .slice a m c])]).run Try.prog w = .ok (.slice (some ⟨w.heap.size, 0, none⟩) 1 1) (w.alloc (.cells #[.int .i64 k, .int .i64 tk, .int .i64 fn, .int .i64 ln, .string tx, .slice a m c] 30)) := by
  obtain ⟨i1, hi0, hz0, hz1, hz2⟩ := info_parts info_Moment
  refine run_buildSlice w _ _ 1 _ _ i1 _ Try.underlying24 hi0 hz0 (by rw [hz1]; decide) (by rw [hz1]; decide) ?_
  rw [hz1, zero_mom1]
  simp [Instr.fill, Value.cells]

theorem zero_mom2 : (Array.range (2 * 6)).map ((Value.agg #[.int .i64 0, .int .i64 0, .int .i64 0, .int .i64 0, .string ByteArray.empty, .slice none 0 0]).cells[· % (Value.agg #[.int .i64 0, .int .i64 0, .int .i64 0, .int .i64 0, .string ByteArray.empty, .slice none 0 0]).cells.size]!) = #[.int .i64 0, .int .i64 0, .int .i64 0, .int .i64 0, .string ByteArray.empty, .slice none 0 0, .int .i64 0, .int .i64 0, .int .i64 0, .int .i64 0, .string ByteArray.empty, .slice none 0 0] := by kernel_rfl

theorem bs_mom2 (k tk fn ln : Int) (tx : ByteArray) (a : Option Addr) (m c : Nat) (k' tk' fn' ln' : Int) (tx' : ByteArray) (a' : Option Addr) (m' c' : Nat) (w : World) :
    (Instr.buildSlice 24 2 #[(0, .agg #[.int .i64 k, .int .i64 tk, .int .i64 fn, .int .i64 ln, .string tx, .slice a m c]), (1, .agg #[.int .i64 k', .int .i64 tk', .int .i64 fn', .int .i64 ln', .string tx', .slice a' m' c'])]).run Try.prog w = .ok (.slice (some ⟨w.heap.size, 0, none⟩) 2 2) (w.alloc (.cells #[.int .i64 k, .int .i64 tk, .int .i64 fn, .int .i64 ln, .string tx, .slice a m c, .int .i64 k', .int .i64 tk', .int .i64 fn', .int .i64 ln', .string tx', .slice a' m' c'] 30)) := by
  obtain ⟨i1, hi0, hz0, hz1, hz2⟩ := info_parts info_Moment
  refine run_buildSlice w _ _ 2 _ _ i1 _ Try.underlying24 hi0 hz0 (by rw [hz1]; decide) (by rw [hz1]; decide) ?_
  rw [hz1, zero_mom2]
  simp [Instr.fill, Value.cells]

theorem info_Var' : (Try.prog.info? 64).map (fun i => (i.zero, i.size, i.bytes)) = some (some (.agg #[.string ByteArray.empty, .string ByteArray.empty]), 2, 32) := by kernel_rfl

theorem zero_var1 : (Array.range (1 * 2)).map ((Value.agg #[.string ByteArray.empty, .string ByteArray.empty]).cells[· % (Value.agg #[.string ByteArray.empty, .string ByteArray.empty]).cells.size]!) = #[.string ByteArray.empty, .string ByteArray.empty] := by kernel_rfl

theorem zero_var2 : (Array.range (2 * 2)).map ((Value.agg #[.string ByteArray.empty, .string ByteArray.empty]).cells[· % (Value.agg #[.string ByteArray.empty, .string ByteArray.empty]).cells.size]!) = #[.string ByteArray.empty, .string ByteArray.empty, .string ByteArray.empty, .string ByteArray.empty] := by kernel_rfl

theorem bs_var1 (x y : ByteArray) (w : World) :
    (Instr.buildSlice 28 1 #[(0, .agg #[.string x, .string y])]).run Try.prog w = .ok (.slice (some ⟨w.heap.size, 0, none⟩) 1 1) (w.alloc (.cells #[.string x, .string y] 64)) := by
  obtain ⟨i1, hi0, hz0, hz1, hz2⟩ := info_parts info_Var'
  refine run_buildSlice w _ _ 1 _ _ i1 _ Try.underlying28 hi0 hz0 (by rw [hz1]; decide) (by rw [hz1]; decide) ?_
  rw [hz1, zero_var1]
  simp [Instr.fill, Value.cells]

theorem bs_var2 (x y x' y' : ByteArray) (w : World) :
    (Instr.buildSlice 28 2 #[(0, .agg #[.string x, .string y]), (1, .agg #[.string x', .string y'])]).run Try.prog w = .ok (.slice (some ⟨w.heap.size, 0, none⟩) 2 2) (w.alloc (.cells #[.string x, .string y, .string x', .string y'] 64)) := by
  obtain ⟨i1, hi0, hz0, hz1, hz2⟩ := info_parts info_Var'
  refine run_buildSlice w _ _ 2 _ _ i1 _ Try.underlying28 hi0 hz0 (by rw [hz1]; decide) (by rw [hz1]; decide) ?_
  rw [hz1, zero_var2]
  simp [Instr.fill, Value.cells]
end Go.Proofs.Ytoiacbdnkkolmaa
