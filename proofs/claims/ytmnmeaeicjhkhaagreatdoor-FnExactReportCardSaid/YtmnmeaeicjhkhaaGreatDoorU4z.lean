import Derived.Test.YtmnmeaeicjhkhaaGreatDoorU3z
import Derived.Test.YtmnmeaeicjhkhaaGreatDoorJ2z
import Derived.Test.YtmnmeaeicjhkhaaGreatDoorGIdz
/-
  What the walk of a report wants: adding texts, appending a text to bytes, bytes as a text.
-/
namespace Go.Proofs.YtmnmeaeicjhkhaaGreatDoor
open Go.RowKit Go.Lib

theorem info_u8 : (Tryz.prog.info? 5).map (fun i => (i.zero, i.size, i.bytes)) = some (some (.int .u8 0), 1, 1) := by kernel_rfl

/-- Where the bytes lie behind an append of a text: where they lay, or in a new block. -/
theorem append_str_block (P : Program) {w w' : World} {t u ty e : TypeId} {i : TypeInfo} (ht : P.underlying t = some (.slice e)) (hu : P.underlying u = some .string) (hi : P.info? e = some i) (hz : i.zero = some (.int .u8 0))
    (hsize : i.size = 1) (hby : i.bytes = 1) {base : Nat} {v v' : Value} {n : Nat} {xs : List Value} (hown : w.ownsRow base e 1 v n xs) {s : ByteArray} (h63 : n + s.size ≤ maxLen) (hbytes : n + s.size ≤ 140737488355328)
    (hr : (Builtin.append_ #[t, u] ty #[v, .string s]).run P w = .ok v' w') : ∀ b, v'.ownBlock = some b → v.ownBlock = some b ∨ w.heap.size ≤ b := by
  intro b hb
  rcases hown.2 with ⟨rfl, rfl⟩ | ⟨g, cap, cur, rfl, hbg, hg, hnc, hcm, hcs, htake⟩
  · have hx : xs = [] := List.eq_nil_of_length_eq_zero (by simpa using hown.1)
    obtain ⟨v2, w2, hr2, ho2, -, -⟩ := run_append_own_string (P := P) w w.heap.size t u ty e i ht hu hi hz hsize hby _ 0 [] (World.ownsRow_nil w _ e 1) s h63 hbytes (Nat.le_refl _)
    rw [hr2] at hr
    cases hr
    exact .inr (ho2.lt b hb).1
  · by_cases hroom : n + s.size ≤ cap
    · have hr2 := run_append_room_string (P := P) w t u ty e i ht hu hi hsize g n cap cur hg s hroom (by rw [hcs]; omega)
      rw [hr2] at hr
      cases hr
      exact .inl hb
    · have hr2 := run_append_grow_string (P := P) w t u ty e i (.int .u8 0) ht hu hi hz ⟨g, 0, none⟩ n cap xs (by rw [hsize]; exact hown.1) (hown.cells (g := g) rfl) s (by omega) (by unfold maxLen at h63; omega) (by rw [hby]; exact growslice_fits (by omega) (by omega))
      rw [hr2] at hr
      cases hr
      have e : w.heap.size = b := by simpa [Value.ownBlock] using hb
      exact .inr (by omega)

theorem wpList_append_str {P : Program} {ops : Array Oper} {rest : List Oper} {o : Oper} {a : Act} {w : World} {Q : Exit → Act → World → Prop} (hgd : o.guard = none) (sl x : Operand) (t u : TypeId)
    (ho : o.op = .call { callee := .builtin .append, args := #[sl, x], argTypes := #[t, u] })
    (base : Nat) (e : TypeId) (i : TypeInfo) (ht : P.underlying t = some (.slice e)) (hu : P.underlying u = some .string) (hi : P.info? e = some i) (hz : i.zero = some (.int .u8 0))
    (hsize : i.size = 1) (hby : i.bytes = 1)
    (v : Value) (n : Nat) (xs : List Value) (hs : a.eval sl = v) (hown : w.ownsRow base e 1 v n xs) (s : ByteArray) (hx : a.eval x = .string s)
    (h63 : n + s.size ≤ 140000000000000) (hbase : base ≤ w.heap.size)
    (h : ∀ v' w', w'.ownsRow base e 1 v' (n + s.size) (xs ++ strCells s) → w.grownBy w' v.ownBlock → (∀ b, v'.ownBlock = some b → v.ownBlock = some b ∨ w.heap.size ≤ b) → wpList P ops Q rest (a.put o.dst v') w') : wpList P ops Q (o :: rest) a w := by
  refine wpList_plain hgd fun K hK => ?_
  have h63' : n + s.size ≤ maxLen := by unfold maxLen; omega
  obtain ⟨v', w', hr, h2, h3, h4⟩ := run_append_own_string (P := P) w base t u o.type e i ht hu hi hz hsize hby v n xs hown s h63' (by omega) hbase
  have h5 := append_str_block P ht hu hi hz hsize hby hown h63' (by omega) hr
  unfold Oper.wp execOp
  simp only [ho, resolve, invoke, builtin, Sem.run_bind, Sem.run_pure, Result.andThen_ok, List.map_toArray, List.map_cons, List.map_nil, hs, hx, hr]
  exact hK _ _ (h v' w' h2 h3 h5)

theorem run_add_str (P : Program) (t : TypeId) (a b : ByteArray) (w : World) (h : a.size + b.size ≤ 140000000000000) : Sem.run P (Go.binOp .add t (.string a) (.string b)) w = .ok (.string (a ++ b)) w := by
  have hm : ¬ (((a.size + b.size : Nat) : Int) > IntKind.i64.max) := by
    show ¬ ((9223372036854775807 : Int) < ((a.size + b.size : Nat) : Int))
    omega
  show Sem.run P (Op.stringOp .add a b) w = _
  unfold Op.stringOp
  simp only [if_neg hm]
  rfl

theorem strOfNums_bytes (L : List UInt8) : strOfNums (L.map fun b => (b.toNat : Int)) = ⟨L.toArray⟩ := by
  unfold strOfNums
  congr 1
  apply Array.ext'
  rw [List.toList_toArray, List.map_map]
  conv => rhs; rw [← List.map_id L]
  refine List.map_congr_left fun b _ => ?_
  simp

theorem conv_bytes (W : World) (B : Nat) (v : Value) (L : List UInt8) (h : W.ownsRow B 5 1 v L.length (byteCells L)) : Sem.run Tryz.prog (convert 22 9 v) W = .ok (.string ⟨L.toArray⟩) W := by
  rcases h.2 with ⟨rfl, hn⟩ | ⟨g, cap, cur, rfl, -, hg, hnc, hcm, hcs, htake⟩
  · rw [run_convert_bytes_nil (P := Tryz.prog) (w := W) 22 5 Tryz.underlying22 Tryz.underlying5 0 0 9 Tryz.underlying9]
    rw [List.eq_nil_of_length_eq_zero hn]; rfl
  · rw [run_convert_bytes_arg (P := Tryz.prog) (w := W) 22 5 Tryz.underlying22 Tryz.underlying5 g 0 L.length cap (L.map fun b => (b.toNat : Int)) (by simp) (fun i hi => ?_) 9 Tryz.underlying9, strOfNums_bytes]
    have := h.cells (g := g) rfl i (.int .u8 (L[i].toNat : Int)) (by unfold byteCells; simp [hi])
    rw [show (⟨g, 0 + i, none⟩ : Addr) = (⟨g, 0, none⟩ : Addr).add i by simp [Addr.add_lit], this]
    simp [List.getD, hi]

/-- Within the inner loop: the bytes lie apart from the blocks that are read (cb, and N6 .. N7). -/
structure OutI (B cb N6 : Nat) (W7 : World) (ov : Value) (L : List UInt8) (W : World) : Prop where
  own : W.ownsRow B 5 1 ov L.length (byteCells L)
  apart : ∀ b, ov.ownBlock = some b → (b < N6 ∧ b ≠ cb) ∨ W7.heap.size ≤ b
  keeps : ∀ b, b < W7.heap.size → (b = cb ∨ N6 ≤ b) → W.heap[b]? = W7.heap[b]?
  below : Below B W7 W

theorem OutI.go {B cb N6 : Nat} {W7 W W' : World} {ov : Value} {L : List UInt8} (h : OutI B cb N6 W7 ov L W) (hB : B ≤ W7.heap.size) (hb : Below W.heap.size W W') : OutI B cb N6 W7 ov L W' :=
  ⟨owns_below h.own hb, h.apart, fun b h1 h2 => by rw [hb.block b (Nat.lt_of_lt_of_le h1 h.below.size)]; exact h.keeps b h1 h2, h.below.trans (hb.mono (Nat.le_trans hB h.below.size))⟩

theorem OutI.put {B cb N6 : Nat} {W7 W W' : World} {ov ov' : Value} {L L' : List UInt8} (h : OutI B cb N6 W7 ov L W) (hB : B ≤ W7.heap.size) (ho : W'.ownsRow B 5 1 ov' L'.length (byteCells L')) (hg : W.grownBy W' ov.ownBlock)
    (hn : ∀ b, ov'.ownBlock = some b → ov.ownBlock = some b ∨ W.heap.size ≤ b) : OutI B cb N6 W7 ov' L' W' := by
  have hs := h.below.size
  refine ⟨ho, fun b hb => ?_, fun b h1 h2 => ?_, h.below.grown hg (by omega) (fun k hk => (h.own.lt k hk).1)⟩
  · rcases hn b hb with e | e
    · exact h.apart b e
    · exact .inr (by omega)
  · rw [hg.block b (by omega) (fun e => by rcases h.apart b e.symm with x | x <;> omega)]
    exact h.keeps b h1 h2
end Go.Proofs.YtmnmeaeicjhkhaaGreatDoor
