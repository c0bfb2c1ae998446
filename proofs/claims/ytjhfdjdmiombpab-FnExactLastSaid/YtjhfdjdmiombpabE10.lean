/-
  The map of watchOf: the variable by its call.
-/
import Derived.Test.YtjhfdjdmiombpabE9
import Derived.Maps.OwnOps
import Derived.Maps.OwnSet
import Derived.Maps.Views
import Derived.DeepKeys4
namespace Go.Proofs.Ytjhfdjdmiombpab
open Go.RowKit Go.Maps

theorem laidOutK : laidOutB Try.prog = true := by kernel_rfl
theorem rowK : (261 : TypeId) < Try.prog.types.size := of_decide_eq_true (by kernel_rfl)
theorem cellsK : Try.prog.cellsOf 261 = 2 := by kernel_rfl
theorem cellsS1 : Try.prog.cellsOf 9 = 1 := by kernel_rfl
theorem cellsI1 : Try.prog.cellsOf 3 = 1 := by kernel_rfl
theorem deepK : Try.prog.keyType 261 = true := by kernel_rfl
theorem wideK : (match Try.prog.underlying 261 with | some (.array _ _) | some (.struct _) => true | _ => false) = true := by kernel_rfl
set_option maxRecDepth 100000 in
theorem lawK : Keyed Try.prog 261 := Keyed.of_law (deep_law_laid laidOutK (m := 3) (by omega) rowK (by kernel_rfl) wideK)

def keyV (frm : Int) (nm : ByteArray) : Value := .agg #[.int .i64 frm, .string nm]

theorem keyV_inj {a b : Int} {nm : ByteArray} (h : keyV a nm = keyV b nm) : a = b := by unfold keyV at h; simpa using h

theorem key_ok (frm : Int) (nm : ByteArray) (hf : (Lit.int .i64 frm).wf = true) (hz : nm.size ≤ maxLen) : ∃ l, keyOf Try.prog 261 (keyV frm nm) = some l := by
  obtain ⟨m, hm⟩ : ∃ m, Try.prog.types.size + 1 = m + 1 + 1 := ⟨Try.prog.types.size - 1, by
    have h : 0 < Try.prog.types.size := Nat.lt_of_le_of_lt (Nat.zero_le _) rowK
    generalize Try.prog.types.size = z at h
    omega⟩
  unfold keyOf keyV
  rw [Try.underlying261]
  have hfo : (Value.agg #[.int .i64 frm, .string nm]).formed Try.prog 261 = true := by simp [Value.formed, Try.underlying261, cellsK]
  have hk : Try.prog.keyLits (Try.prog.types.size + 1) 261 (Value.agg #[.int .i64 frm, .string nm]).cells.toList = some [.int .i64 frm, .string nm.data.toList] := by
    rw [hm]
    simp [Program.keyLits, Try.underlying261, Try.underlying3, Try.underlying9, cellsK, cellsS1, cellsI1, Value.cells, hf, hz]
  refine ⟨.string (keyBytes [.int .i64 frm, .string nm.data.toList]), ?_⟩
  simp only [deepK, hfo, hk]
  rfl

/-- A variable as data. -/
def varDat (nm : ByteArray) : Option ByteArray → DataW Unit
  | some t => .agg [.lit (.string nm.data.toList), .lit (.string t.data.toList)]
  | none => .agg [.lit (.string []), .lit (.string [])]

def varElemL : List Value → Option (DataW Unit × List MemPlace)
  | [.string a, .string b] => some (.agg [.lit (.string a.data.toList), .lit (.string b.data.toList)], [])
  | _ => none

def varElem (v : Value) : Option (DataW Unit × List MemPlace) :=
  match v with
  | .agg cs => varElemL cs.toList
  | _ => none

theorem varElem_inv {v : Value} {a b : List UInt8} {ps : List MemPlace} (h : varElem v = some (.agg [.lit (.string a), .lit (.string b)], ps)) : v = .agg #[.string ⟨a.toArray⟩, .string ⟨b.toArray⟩] := by
  unfold varElem at h
  split at h
  · rename_i cs
    unfold varElemL at h
    split at h
    · rename_i x y e
      simp at h
      obtain ⟨⟨h1, h2⟩, -⟩ := h
      subst h1 h2
      have e2 : cs = #[.string x, .string y] := by
        apply Array.toList_inj.1
        rw [e]
      rw [e2]
    · cases h
  · cases h

def varVal (nm : ByteArray) : Option ByteArray → Value
  | some t => .agg #[.string nm, .string t]
  | none => .agg #[.string ⟨#[]⟩, .string ⟨#[]⟩]

theorem varElem_val (nm : ByteArray) (o : Option ByteArray) : varElem (varVal nm o) = some (varDat nm o, []) := by cases o <;> rfl

theorem varElem_back {v : Value} {nm : ByteArray} {o : Option ByteArray} {ps : List MemPlace} (h : varElem v = some (varDat nm o, ps)) : v = varVal nm o := by
  cases o with
  | none => exact varElem_inv h
  | some t => have := varElem_inv h; rw [this]; unfold varVal; cases nm; cases t; simp

/-- Block b is the map: g tells the text by the call's From. -/
def VarMap (w : World) (b n : Nat) (nm : ByteArray) (g : Int → Option ByteArray) : Prop :=
  ∃ D : DataW Unit, w.ownsMap Try.prog 261 varElem b n D ∧ ∀ x l, keyOf Try.prog 261 (keyV x nm) = some l → has D l = (g x).isSome ∧ D.atKey l (varDat nm none) = varDat nm (g x)

theorem VarMap.made (w : World) (nm : ByteArray) : VarMap (w.alloc (.map #[] 0)) w.heap.size 0 nm (fun _ => none) :=
  ⟨.map [], World.ownsMap_made _ _ _ _, fun _ _ _ => ⟨rfl, rfl⟩⟩

theorem VarMap.mono {w : World} {b n n' : Nat} {nm : ByteArray} {g : Int → Option ByteArray} (h : VarMap w b n nm g) (hn : n ≤ n') : VarMap w b n' nm g := by
  obtain ⟨D, h1, h2⟩ := h
  exact ⟨D, h1.mono hn, h2⟩

theorem VarMap.lt {w : World} {b n : Nat} {nm : ByteArray} {g : Int → Option ByteArray} (h : VarMap w b n nm g) : b < w.heap.size := by
  obtain ⟨D, h1, _⟩ := h
  exact h1.lt

theorem VarMap.isMap {w : World} {b n : Nat} {nm : ByteArray} {g : Int → Option ByteArray} (h : VarMap w b n nm g) : ∃ es c, w.heap[b]? = some (.map es c) := by
  obtain ⟨D, ⟨es, c, h1, _⟩, _⟩ := h
  exact ⟨es, c, h1⟩

theorem VarMap.of_block {w w' : World} {b n : Nat} {nm : ByteArray} {g : Int → Option ByteArray} (h : VarMap w b n nm g) (hb : w'.heap[b]? = w.heap[b]?) : VarMap w' b n nm g := by
  obtain ⟨D, ⟨es, c, h1, h2⟩, h3⟩ := h
  exact ⟨D, ⟨es, c, hb.trans h1, h2⟩, h3⟩

theorem zero_var (w : World) : (zeroValue 196).run Try.prog w = .ok (.agg #[.string ⟨#[]⟩, .string ⟨#[]⟩]) w := by kernel_rfl

theorem VarMap.look {w : World} {b n : Nat} {nm : ByteArray} {g : Int → Option ByteArray} (h : VarMap w b n nm g) (x : Int) (hx : (Lit.int .i64 x).wf = true) (hz : nm.size ≤ maxLen) :
    (Instr.lookup 256 (.map (some b)) (.agg #[.int .i64 x, .string nm]) true).run Try.prog w = .ok (.tuple #[varVal nm (g x), .bool (g x).isSome]) w := by
  obtain ⟨D, h1, h2⟩ := h
  obtain ⟨l, hl⟩ := key_ok x nm hx hz
  obtain ⟨e1, e2⟩ := h2 x l hl
  obtain ⟨v, ps, hr, hv⟩ := h1.look_ok lawK Try.underlying256 (zero_var w) (varElem_val nm none) hl
  rw [e2] at hv
  rw [e1, varElem_back hv] at hr
  exact hr

theorem VarMap.store {w : World} {b n : Nat} {nm : ByteArray} {g : Int → Option ByteArray} (h : VarMap w b n nm g) (hn : n < maxLen) (x : Int) (hx : (Lit.int .i64 x).wf = true) (hz : nm.size ≤ maxLen) (t : ByteArray) :
    ∃ w', (Instr.mapUpdate 256 (.map (some b)) (.agg #[.int .i64 x, .string nm]) (.agg #[.string nm, .string t])).run Try.prog w = .ok () w' ∧ VarMap w' b (n + 1) nm (fun y => if y = x then some t else g y) ∧ w.grownBy w' (some b) := by
  obtain ⟨D, h1, h2⟩ := h
  have hm : IsMap D := by obtain ⟨es, c, _, _, _, rfl⟩ := h1; exact ⟨_, rfl⟩
  obtain ⟨l, hl⟩ := key_ok x nm hx hz
  obtain ⟨w', hr, h3, h4⟩ := h1.update lawK Try.underlying256 hn hl (varElem_val nm (some t))
  refine ⟨w', hr, ⟨_, h3, fun y l' hl' => ?_⟩, h4⟩
  dsimp only
  by_cases e : y = x
  · subst e
    rw [hl] at hl'
    cases hl'
    rw [if_pos rfl]
    exact ⟨has_put_same hm (lawK.key hl) _, atKey_put_same hm (lawK.key hl) _ _⟩
  · have hne : l' ≠ l := fun e2 => e (keyV_inj (lawK.inj (by rw [e2] at hl'; exact hl') hl))
    rw [if_neg e, has_put_other hne, atKey_put_other hne]
    exact h2 y l' hl'

theorem wpList_var_store {ops : Array Oper} {rest : List Oper} {o : Oper} {a : Act} {Q : Exit → Act → World → Prop} (w : World)
    (hg : o.guard = none) (m x v : Operand) (hop : o.op = Op.mapUpdate 256 m x v) (b n : Nat) (nm : ByteArray) (g : Int → Option ByteArray)
    (hm : a.eval m = .map (some b)) (h : VarMap w b n nm g) (hn : n < maxLen) (k : Int) (hk : (Lit.int .i64 k).wf = true) (hz : nm.size ≤ maxLen) (t : ByteArray) (hx : a.eval x = .agg #[.int .i64 k, .string nm]) (hv : a.eval v = .agg #[.string nm, .string t])
    (hK : ∀ w', VarMap w' b (n + 1) nm (fun y => if y = k then some t else g y) → w.grownBy w' (some b) → wpList Try.prog ops Q rest (a.put o.dst undef) w') :
    wpList Try.prog ops Q (o :: rest) a w := by
  refine wpList_plain hg fun K' hK' => ?_
  obtain ⟨w', hrun, r1, r2⟩ := h.store hn k hk hz t
  unfold Oper.wp
  simp [execOp, hop, hm, hx, hv, hrun, Result.andThen]
  exact hK' _ _ (hK w' r1 r2)
end Go.Proofs.Ytjhfdjdmiombpab
