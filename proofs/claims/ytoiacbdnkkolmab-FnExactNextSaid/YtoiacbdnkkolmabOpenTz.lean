import Derived.Test.YtoiacbdnkkolmabGOz
import Derived.Test.YtoiacbdnkkolmabGEdz
namespace Go.Proofs.Ytoiacbdnkkolmab
open Go.RowKit Go.ChangeShapes Go.WideShapes Go.Deep Go.Joins

variable {H : Type} {enc : TypeId × Value → H} {W : World} {base b0 : Nat} {held : Bool} {r : Reach} {fuel : Nat} {cs : List Value} {x : DataW H × List MemPlace}

theorem trod_struct4 {P : Program} {t : TypeId} {f0 f1 f2 f3 : Field} {cs' : List Value} {spare : Nat → Bool} (ht : P.underlying t = some (.struct #[f0, f1, f2, f3])) (h : DataW.trod enc P W base spare held fuel t cs' = some x) :
    ∃ y0 y1 y2 y3 n, cs'.length = P.cellsOf t ∧ DataW.trod enc P W base spare held n f0.type ((cs'.drop f0.offset).take (P.cellsOf f0.type)) = some y0 ∧
      DataW.trod enc P W base spare held n f1.type ((cs'.drop f1.offset).take (P.cellsOf f1.type)) = some y1 ∧ DataW.trod enc P W base spare held n f2.type ((cs'.drop f2.offset).take (P.cellsOf f2.type)) = some y2 ∧
      DataW.trod enc P W base spare held n f3.type ((cs'.drop f3.offset).take (P.cellsOf f3.type)) = some y3 := by
  obtain ⟨xs, n, _, _, hl, hlen, hf⟩ := DataW.trod_struct ht h
  match xs, hlen with
  | [y0, y1, y2, y3], _ => exact ⟨y0, y1, y2, y3, n, hl, by simpa using hf 0 f0 rfl, by simpa using hf 1 f1 rfl, by simpa using hf 2 f2 rfl, by simpa using hf 3 f3 rfl⟩

set_option maxRecDepth 100000 in
theorem stop_cells {cs' : List Value} (h : DataW.trod enc Try.prog W base (fun _ => true) held fuel 47 cs' = some x) : ∃ s : Sp, cs' = [.int .i64 s.kind, .int .i64 s.fn, .int .i64 s.line, .string s.name] ∧ s.name.size ≤ maxLen := by
  obtain ⟨y0, y1, y2, y3, n, hl, g0, g1, g2, g3⟩ := trod_struct4 Try.underlying47 h
  rw [cellsLawStop] at hl
  match cs', hl with
  | [c0, c1, c2, c3], _ =>
    obtain ⟨k, e0, _⟩ := DataW.trod_int Try.underlying3 g0
    obtain ⟨t, e1, _⟩ := DataW.trod_int Try.underlying3 g1
    obtain ⟨l, e2, _⟩ := DataW.trod_int Try.underlying3 g2
    obtain ⟨s, e3, _, b3⟩ := DataW.trod_string Try.underlying9 g3
    rw [cellsInt'] at e0 e1 e2
    rw [cellsString'] at e3
    simp at e0 e1 e2 e3
    exact ⟨⟨k, t, l, s⟩, by rw [e0, e1, e2, e3], b3⟩

set_option maxRecDepth 100000 in
theorem stops_open' (h : DataW.trod enc Try.prog W base (fun _ => true) held fuel 60 cs = some x) : ∃ v n f, cs = [v] ∧ StopsIn W v n f := by
  rcases open_slice Try.underlying60 h with ⟨rfl, _⟩ | ⟨a, len, cap, m, n, D, Pl, rfl, _, hl, hm, hmm, _, hx⟩
  · exact ⟨_, 0, fun _ => ⟨0, 0, 0, ByteArray.empty⟩, rfl, none, 0, rfl, Nat.zero_le _, fun i hi => absurd hi (Nat.not_lt_zero _)⟩
  · rw [cellsLawStop] at hx
    have hm' : m = cap := by simpa using hmm
    obtain ⟨f, hf⟩ := @choose_lt Sp ⟨⟨0, 0, 0, ByteArray.empty⟩⟩ m (fun i s => W.cell? (a.add (i * 4)) = some (.int .i64 s.kind) ∧ W.cell? ((a.add (i * 4)).add 1) = some (.int .i64 s.fn) ∧ W.cell? ((a.add (i * 4)).add 2) = some (.int .i64 s.line) ∧ W.cell? ((a.add (i * 4)).add 3) = some (.string s.name) ∧ s.name.size ≤ maxLen) (fun i hi => by
      obtain ⟨cs', h1, h2⟩ := hx i hi
      obtain ⟨_, h3⟩ := two_cells h1
      obtain ⟨s, rfl, b0⟩ := stop_cells h2
      exact ⟨s, h3 0 (by omega), h3 1 (by omega), h3 2 (by omega), h3 3 (by omega), b0⟩)
    refine ⟨_, len, f, rfl, some a, cap, rfl, Nat.le_trans hl hm, fun i hi => ?_⟩
    have h0 := hf 0 (by omega)
    have e := addr_form h0.1
    obtain ⟨k0, k1, k2, k3, b0⟩ := hf i (by omega)
    rw [e, add_form _ rfl] at k0
    rw [add_add, e, add_form _ rfl, ← Nat.add_assoc] at k1 k2 k3
    exact ⟨a.block, a.off, by rw [← e], k0, k1, k2, k3, b0⟩

set_option maxRecDepth 100000 in
theorem stops_open {v : Value} {d : DataW H} {p : List MemPlace} (hv : Value.okWide Try.prog W r b0 60 v) (h : DataW.Trod enc Try.prog W base (fun _ => true) held 60 v d p) : ∃ n f, StopsIn W v n f := by
  obtain ⟨a, len, cap, rfl⟩ := okWide_slice Try.underlying60 hv
  obtain ⟨fuel, hf⟩ := h
  obtain ⟨v', n, f, e, hs⟩ := stops_open' hf
  simp [Value.cells] at e
  subst e
  exact ⟨n, f, hs⟩
end Go.Proofs.Ytoiacbdnkkolmab
