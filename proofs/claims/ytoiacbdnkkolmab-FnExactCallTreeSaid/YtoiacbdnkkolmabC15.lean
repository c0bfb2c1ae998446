/-
  Maps from integers to pointers, and the program's call tree in memory.
-/
import Derived.Test.YtoiacbdnkkolmabC13
import Derived.Test.YtoiacbdnkkolmabR2
import Derived.Maps.OwnOps
import Derived.Maps.Views
import Derived.Deep.AppendLies
namespace Go.Proofs.Ytoiacbdnkkolmab
open Go.RowKit Go.Lib Go.Maps

/-- What a pointer to a whole block, or nil, reads as. -/
def ptrDat : Option Nat → DataW Unit
  | none => .lit (.int .i64 (-1))
  | some b => .lit (.int .i64 (b : Int))

def ptrVal (o : Option Nat) : Value := .pointer (o.map fun b => ⟨b, 0, none⟩)

def ptrElem (v : Value) : Option (DataW Unit × List MemPlace) :=
  match v with
  | .pointer none => some (ptrDat none, [])
  | .pointer (some ⟨b, 0, none⟩) => some (ptrDat (some b), [])
  | _ => none

theorem ptrElem_val (o : Option Nat) : ptrElem (ptrVal o) = some (ptrDat o, []) := by cases o <;> rfl

theorem ptrDat_inj {o o' : Option Nat} (h : ptrDat o = ptrDat o') : o = o' := by
  cases o <;> cases o' <;> simp [ptrDat] at h ⊢ <;> omega

theorem ptrElem_inv {v : Value} {d : DataW Unit} {ps : List MemPlace} (h : ptrElem v = some (d, ps)) : ∃ o, v = ptrVal o ∧ d = ptrDat o := by
  unfold ptrElem at h
  split at h
  · cases h; exact ⟨none, rfl, rfl⟩
  · cases h; exact ⟨some _, rfl, rfl⟩
  · cases h

/-- Block b is a map from integers to pointers: g tells the block that a key leads to. -/
def PtrMap (w : World) (b n : Nat) (g : Int → Option Nat) : Prop :=
  ∃ D : DataW Unit, w.ownsMap Try.prog 3 ptrElem b n D ∧ ∀ k, D.atKey (.int .i64 k) (ptrDat none) = ptrDat (g k)

theorem PtrMap.made (w : World) : PtrMap (w.alloc (.map #[] 0)) w.heap.size 0 (fun _ => none) :=
  ⟨.map [], World.ownsMap_made _ _ _ _, fun _ => rfl⟩

theorem PtrMap.mono {w : World} {b n n' : Nat} {g : Int → Option Nat} (h : PtrMap w b n g) (hn : n ≤ n') : PtrMap w b n' g := by
  obtain ⟨D, h1, h2⟩ := h
  exact ⟨D, h1.mono hn, h2⟩

theorem PtrMap.congr {w : World} {b n : Nat} {g g' : Int → Option Nat} (h : PtrMap w b n g) (hg : ∀ k, g k = g' k) : PtrMap w b n g' := by
  obtain ⟨D, h1, h2⟩ := h
  exact ⟨D, h1, fun k => by rw [h2, hg]⟩

theorem PtrMap.lt {w : World} {b n : Nat} {g : Int → Option Nat} (h : PtrMap w b n g) : b < w.heap.size := by
  obtain ⟨D, h1, _⟩ := h
  exact h1.lt

theorem PtrMap.isMap {w : World} {b n : Nat} {g : Int → Option Nat} (h : PtrMap w b n g) : ∃ es c, w.heap[b]? = some (.map es c) := by
  obtain ⟨D, ⟨es, c, h1, _⟩, _⟩ := h
  exact ⟨es, c, h1⟩

theorem PtrMap.of_block {w w' : World} {b n : Nat} {g : Int → Option Nat} (h : PtrMap w b n g) (hb : w'.heap[b]? = w.heap[b]?) : PtrMap w' b n g := by
  obtain ⟨D, ⟨es, c, h1, h2⟩, h3⟩ := h
  exact ⟨D, ⟨es, c, hb.trans h1, h2⟩, h3⟩

theorem key_int : Keyed Try.prog 3 := int_keyed Try.underlying3

theorem zero_ptr (w : World) : (zeroValue 124).run Try.prog w = .ok (.pointer none) w := by kernel_rfl

/-- m[k]. -/
theorem PtrMap.look {w : World} {b n : Nat} {g : Int → Option Nat} (h : PtrMap w b n g) (k : Int) (hk : (Lit.int .i64 k).wf = true) :
    (Instr.lookup 125 (.map (some b)) (.int .i64 k) false).run Try.prog w = .ok (ptrVal (g k)) w := by
  obtain ⟨D, h1, h2⟩ := h
  obtain ⟨v, ps, hr, hv⟩ := h1.lookup key_int Try.underlying125 (zero_ptr w) (ptrElem_val none) (keyOf_int_mk Try.underlying3 hk)
  obtain ⟨o, rfl, ho⟩ := ptrElem_inv hv
  rw [h2] at ho
  rw [hr, ptrDat_inj ho]

/-- m[k] = v. -/
theorem PtrMap.store {w : World} {b n : Nat} {g : Int → Option Nat} (h : PtrMap w b n g) (hn : n < maxLen) (k : Int) (hk : (Lit.int .i64 k).wf = true) (o : Option Nat) :
    ∃ w', (Instr.mapUpdate 125 (.map (some b)) (.int .i64 k) (ptrVal o)).run Try.prog w = .ok () w' ∧ PtrMap w' b (n + 1) (fun x => if x = k then o else g x) ∧ w.grownBy w' (some b) := by
  obtain ⟨D, h1, h2⟩ := h
  have hm : IsMap D := by obtain ⟨es, c, _, _, _, rfl⟩ := h1; exact ⟨_, rfl⟩
  obtain ⟨w', hr, h3, h4⟩ := h1.update key_int Try.underlying125 hn (keyOf_int_mk Try.underlying3 hk) (ptrElem_val o)
  refine ⟨w', hr, ⟨_, h3, fun x => ?_⟩, h4⟩
  dsimp only
  by_cases e : x = k
  · rw [if_pos e, e]
    exact atKey_put_same hm (by first | trivial | exact WideAt.IsKeyLit.int | simp [WideAt.IsKeyLit]) _ _
  · rw [if_neg e, ← h2]
    exact atKey_put_other (by simpa using e) _ _

theorem wpList_ptr_store {ops : Array Oper} {rest : List Oper} {o : Oper} {a : Act} {Q : Exit → Act → World → Prop} (w : World)
    (hg : o.guard = none) (m x v : Operand) (hop : o.op = Op.mapUpdate 125 m x v) (b n : Nat) (g : Int → Option Nat)
    (hm : a.eval m = .map (some b)) (h : PtrMap w b n g) (hn : n < maxLen) (k : Int) (hk : (Lit.int .i64 k).wf = true) (q : Option Nat) (hx : a.eval x = .int .i64 k) (hv : a.eval v = ptrVal q)
    (hK : ∀ w', PtrMap w' b (n + 1) (fun y => if y = k then q else g y) → w.grownBy w' (some b) → wpList Try.prog ops Q rest (a.put o.dst undef) w') :
    wpList Try.prog ops Q (o :: rest) a w := by
  refine wpList_plain hg fun K' hK' => ?_
  obtain ⟨w', hrun, r1, r2⟩ := h.store hn k hk q
  unfold Oper.wp
  simp [execOp, hop, hm, hx, hv, hrun, Result.andThen]
  exact hK' _ _ (hK w' r1 r2)

/-! ### the branches' places -/
def brKey (b : Br) : Int × Int := (b.par, b.fn)

theorem brFind_key (bs : List Br) (par fn : Int) : brFind bs par fn = (bs.map brKey).findIdx (fun p => decide (p.1 = par ∧ p.2 = fn)) := by
  unfold brFind
  induction bs with
  | nil => rfl
  | cons a r ih =>
    rw [List.map_cons, List.findIdx_cons, List.findIdx_cons, ih]
    rfl

theorem key_modify (h : Br → Br) (hk : ∀ b, brKey (h b) = brKey b) : ∀ (l : List Br) (i : Nat), (l.modify i h).map brKey = l.map brKey
  | [], i => by simp
  | a :: r, 0 => by simp [hk]
  | a :: r, i + 1 => by simp [key_modify h hk r i]

theorem brFind_modify (h : Br → Br) (hk : ∀ b, brKey (h b) = brKey b) (l : List Br) (i : Nat) (par fn : Int) : brFind (l.modify i h) par fn = brFind l par fn := by
  rw [brFind_key, brFind_key, key_modify h hk]

theorem brFind_app (l : List Br) (b : Br) (par fn : Int) : brFind (l ++ [b]) par fn = if brFind l par fn < l.length then brFind l par fn else if b.par = par ∧ b.fn = fn then l.length else l.length + 1 := by
  unfold brFind
  rw [List.findIdx_append]
  split
  · rfl
  · rw [List.findIdx_singleton]
    unfold isBr
    by_cases e : b.par = par ∧ b.fn = fn
    · rw [decide_eq_true e, if_pos e]; simp
    · rw [decide_eq_false e, if_neg e]; simp [Nat.add_comm]

/-- The branch that a key leads to, as the number of its node: the ground is node 0. -/
def nodeOf (bs : List Br) (nb : Nat → Nat) (j : Nat) (fn : Int) : Option Nat :=
  if brFind bs ((j : Int) - 1) fn < bs.length then some (nb (brFind bs ((j : Int) - 1) fn + 1)) else none

def branchCells (b : Br) (par : Nat) (inner : Nat) (num : Int) : Array Value := #[.int .i64 b.fn, .pointer (some ⟨par, 0, none⟩), .map (some inner), .int .i64 b.calls, .int .i64 b.self, .int .i64 num]

/-- The program's tree in memory: nb: the nodes' blocks, ni: the blocks of their maps. -/
structure ImT (lo : Nat) (W : World) (g N : Nat) (T : Tree) (nb ni : Nat → Nat) (om : Nat) (of : Int → Option Nat) (mv : Value) (num : Nat → Int) : Prop where
  hg : W.heap[g]? = some (.cells #[.pointer (some ⟨nb 0, 0, none⟩), mv, .map (some om)] 175 (0, 0))
  lg : lo ≤ g
  lb : ∀ j, j ≤ T.bs.length → lo ≤ nb j
  li : ∀ j, j ≤ T.bs.length → lo ≤ ni j
  lm : lo ≤ om
  met : W.ownsRow lo 124 1 mv T.bs.length ((List.range T.bs.length).map fun i => .pointer (some ⟨nb (i + 1), 0, none⟩))
  ground : W.heap[nb 0]? = some (.cells #[.int .i64 0, .pointer none, .map (some (ni 0)), .int .i64 0, .int .i64 0, .int .i64 (-1)] 127 (0, 0))
  node : ∀ i (h : i < T.bs.length), W.heap[nb (i + 1)]? = some (.cells (branchCells T.bs[i] (nb (T.bs[i].par + 1).toNat) (ni (i + 1)) (num i)) 127 (0, 0))
  par : ∀ i (h : i < T.bs.length), -1 ≤ T.bs[i].par ∧ T.bs[i].par < i
  inner : ∀ j, j ≤ T.bs.length → PtrMap W (ni j) N (nodeOf T.bs nb j)
  ofm : PtrMap W om N of
  injb : ∀ i j, i ≤ T.bs.length → j ≤ T.bs.length → nb i = nb j → i = j
  inji : ∀ i j, i ≤ T.bs.length → j ≤ T.bs.length → ni i = ni j → i = j
  omn : ∀ j, j ≤ T.bs.length → ni j ≠ om

theorem heap_lt' {w : World} {b : Nat} {o : Obj} (h : w.heap[b]? = some o) : b < w.heap.size := (Array.getElem?_eq_some_iff.1 h).1

section
variable {lo : Nat} {W W' : World} {g N : Nat} {T : Tree} {nb ni : Nat → Nat} {om : Nat} {of : Int → Option Nat} {mv : Value} {num : Nat → Int}

/-- Each node is a block of cells of its own. -/
theorem ImT.nodeAny (h : ImT lo W g N T nb ni om of mv num) (j : Nat) (hj : j ≤ T.bs.length) : ∃ cs, W.heap[nb j]? = some (.cells cs 127 (0, 0)) := by
  cases j with
  | zero => exact ⟨_, h.ground⟩
  | succ i => exact ⟨_, h.node i (by omega)⟩

theorem ImT.b_ne_g (h : ImT lo W g N T nb ni om of mv num) (j : Nat) (hj : j ≤ T.bs.length) : nb j ≠ g := fun e => by
  obtain ⟨cs, hc⟩ := h.nodeAny j hj
  have := h.hg
  rw [← e, hc] at this
  cases this

theorem ImT.i_ne_b (h : ImT lo W g N T nb ni om of mv num) (i j : Nat) (hi : i ≤ T.bs.length) (hj : j ≤ T.bs.length) : ni i ≠ nb j := fun e => by
  obtain ⟨cs, hc⟩ := h.nodeAny j hj
  obtain ⟨es, c, h2⟩ := (h.inner i hi).isMap
  rw [e, hc] at h2
  cases h2

theorem ImT.i_ne_g (h : ImT lo W g N T nb ni om of mv num) (i : Nat) (hi : i ≤ T.bs.length) : ni i ≠ g := fun e => by
  obtain ⟨es, c, h2⟩ := (h.inner i hi).isMap
  have := h.hg
  rw [← e, h2] at this
  cases this

theorem ImT.o_ne_b (h : ImT lo W g N T nb ni om of mv num) (j : Nat) (hj : j ≤ T.bs.length) : om ≠ nb j := fun e => by
  obtain ⟨cs, hc⟩ := h.nodeAny j hj
  obtain ⟨es, c, h2⟩ := h.ofm.isMap
  rw [e, hc] at h2
  cases h2

theorem ImT.o_ne_g (h : ImT lo W g N T nb ni om of mv num) : om ≠ g := fun e => by
  obtain ⟨es, c, h2⟩ := h.ofm.isMap
  have := h.hg
  rw [← e, h2] at this
  cases this

theorem ImT.m_ne_map (h : ImT lo W g N T nb ni om of mv num) {b : Nat} (hb : ∃ es c, W.heap[b]? = some (.map es c)) : mv.ownBlock ≠ some b := fun e => by
  obtain ⟨_, cs, fr, h1⟩ := owns_typed h.met b e
  obtain ⟨es, c, h2⟩ := hb
  rw [h1] at h2; cases h2

theorem ImT.m_ne_b (h : ImT lo W g N T nb ni om of mv num) (j : Nat) (hj : j ≤ T.bs.length) : mv.ownBlock ≠ some (nb j) := fun e => by
  obtain ⟨_, cs, fr, h1⟩ := owns_typed h.met _ e
  obtain ⟨cs', hc⟩ := h.nodeAny j hj
  rw [h1] at hc; cases hc

theorem ImT.m_ne_g (h : ImT lo W g N T nb ni om of mv num) : mv.ownBlock ≠ some g := fun e => by
  obtain ⟨_, cs, fr, h1⟩ := owns_typed h.met _ e
  have := h.hg
  rw [h1] at this; cases this

theorem ImT.below (h : ImT lo W g N T nb ni om of mv num) (hb : Below W.heap.size W W') : ImT lo W' g N T nb ni om of mv num :=
  ⟨by rw [hb.block g (heap_lt' h.hg)]; exact h.hg, h.lg, h.lb, h.li, h.lm, owns_below h.met hb, by rw [hb.block _ (heap_lt' h.ground)]; exact h.ground,
   fun i hi => by rw [hb.block _ (heap_lt' (h.node i hi))]; exact h.node i hi, h.par, fun j hj => (h.inner j hj).of_block (hb.block _ (h.inner j hj).lt), h.ofm.of_block (hb.block _ h.ofm.lt), h.injb, h.inji, h.omn⟩

/-- A call's branch is laid down. -/
theorem ImT.putOf (h : ImT lo W g N T nb ni om of mv num) {of' : Int → Option Nat} (ho : PtrMap W' om (N + 1) of') (hgr : W.grownBy W' (some om)) : ImT lo W' g (N + 1) T nb ni om of' mv num := by
  have hk : ∀ b, b < W.heap.size → b ≠ om → W'.heap[b]? = W.heap[b]? := fun b hb hne => hgr.block b hb (fun e => hne (Option.some.inj e))
  refine ⟨?_, h.lg, h.lb, h.li, h.lm, h.met.kept hgr (.inr (fun e => h.m_ne_map h.ofm.isMap e)), ?_, fun i hi => ?_, h.par, fun j hj => ?_, ho, h.injb, h.inji, h.omn⟩
  · rw [hk g (heap_lt' h.hg) (Ne.symm h.o_ne_g)]; exact h.hg
  · rw [hk _ (heap_lt' h.ground) (Ne.symm (h.o_ne_b 0 (by omega)))]; exact h.ground
  · rw [hk _ (heap_lt' (h.node i hi)) (Ne.symm (h.o_ne_b (i + 1) (by omega)))]; exact h.node i hi
  · exact ((h.inner j hj).of_block (hk _ (h.inner j hj).lt (h.omn j hj))).mono (by omega)

theorem nodeOf_modify (f : Br → Br) (hk : ∀ b, brKey (f b) = brKey b) (bs : List Br) (i j : Nat) (fn : Int) : nodeOf (bs.modify i f) nb j fn = nodeOf bs nb j fn := by
  unfold nodeOf
  rw [brFind_modify f hk, List.length_modify]

/-- A number of one branch is turned. -/
theorem ImT.setNode (h : ImT lo W g N T nb ni om of mv num) (i : Nat) (hi : i < T.bs.length) (f : Br → Br) (br : Int → Nat) (num' : Nat → Int) (o : Nat) (u : Value) (hk : ∀ b, brKey (f b) = brKey b) (hn : ∀ j, j ≠ i → num' j = num j)
    (hc : (branchCells T.bs[i] (nb (T.bs[i].par + 1).toNat) (ni (i + 1)) (num i)).setIfInBounds o u = branchCells (f T.bs[i]) (nb (T.bs[i].par + 1).toNat) (ni (i + 1)) (num' i)) :
    ImT lo (W.setCell ⟨nb (i + 1), o, none⟩ u) g N ⟨T.bs.modify i f, br⟩ nb ni om of mv num' := by
  have hl : (T.bs.modify i f).length = T.bs.length := List.length_modify ..
  have hp : ∀ b, (f b).par = b.par := fun b => congrArg Prod.fst (hk b)
  have hs : ∀ b, b ≠ nb (i + 1) → (W.setCell ⟨nb (i + 1), o, none⟩ u).heap[b]? = W.heap[b]? := fun b hb => heap_setCell_other _ _ _ _ hb
  have hgm : ∀ j (hj : j < T.bs.length), (T.bs.modify i f)[j]'(by rw [hl]; exact hj) = if i = j then f T.bs[j] else T.bs[j] := fun j hj => List.getElem_modify ..
  refine ⟨?_, h.lg, fun j hj => h.lb j (by rw [← hl]; exact hj), fun j hj => h.li j (by rw [← hl]; exact hj), h.lm, ?_, ?_, fun j hj => ?_, fun j hj => ?_, fun j hj => ?_, ?_, fun a b ha hb => h.injb a b (by rw [← hl]; exact ha) (by rw [← hl]; exact hb), fun a b ha hb => h.inji a b (by rw [← hl]; exact ha) (by rw [← hl]; exact hb), fun j hj => h.omn j (by rw [← hl]; exact hj)⟩
  · rw [hs g (Ne.symm (h.b_ne_g (i + 1) (by omega)))]; exact h.hg
  · show World.ownsRow _ lo _ 1 mv (T.bs.modify i f).length ((List.range (T.bs.modify i f).length).map _)
    rw [hl]
    exact owns_setCell h.met (h.m_ne_b (i + 1) (by omega))
  · rw [hs _ (fun e => by have := h.injb 0 (i + 1) (by omega) (by omega) e; omega)]; exact h.ground
  · have hj' : j < T.bs.length := by rw [← hl]; exact hj
    show _ = some (Obj.cells (branchCells ((T.bs.modify i f)[j]) (nb (((T.bs.modify i f)[j]).par + 1).toNat) _ _) _ _)
    rw [hgm j hj']
    by_cases e : i = j
    · subst e
      rw [if_pos rfl, hp, ← hc]
      exact heap_setCell_same _ _ _ _ _ _ (h.node i hi)
    · rw [if_neg e, hs _ (fun e2 => by have := h.injb (j + 1) (i + 1) (by omega) (by omega) e2; omega), hn j (fun e2 => e e2.symm)]
      exact h.node j hj'
  · have hj' : j < T.bs.length := by rw [← hl]; exact hj
    show -1 ≤ ((T.bs.modify i f)[j]).par ∧ ((T.bs.modify i f)[j]).par < j
    rw [hgm j hj']
    have := h.par j hj'
    split
    · rw [hp]; exact this
    · exact this
  · have hj' : j ≤ T.bs.length := by rw [← hl]; exact hj
    exact ((h.inner j hj').of_block (hs _ (h.i_ne_b j (i + 1) hj' (by omega)))).congr (fun x => (nodeOf_modify f hk T.bs i j x).symm)
  · exact h.ofm.of_block (hs _ (h.o_ne_b (i + 1) (by omega)))

theorem nodeOf_app {bs : List Br} {p : Nat} {fn : Int} {bN : Nat} (hnew : ¬ brFind bs ((p : Int) - 1) fn < bs.length) (j : Nat) (x : Int) :
    nodeOf (bs ++ [⟨fn, (p : Int) - 1, 0, 0⟩]) (fun j => if j = bs.length + 1 then bN else nb j) j x = if j = p ∧ x = fn then some bN else nodeOf bs nb j x := by
  have hle := brFind_le bs ((j : Int) - 1) x
  have key := brFind_app bs ⟨fn, (p : Int) - 1, 0, 0⟩ ((j : Int) - 1) x
  unfold nodeOf
  rw [List.length_append, List.length_singleton]
  dsimp only at key ⊢
  by_cases e1 : j = p ∧ x = fn
  · obtain ⟨rfl, rfl⟩ := e1
    rw [if_neg hnew, if_pos ⟨rfl, rfl⟩] at key
    rw [key, if_pos (Nat.lt_succ_self _), if_pos rfl, if_pos ⟨rfl, rfl⟩]
  · rw [if_neg e1]
    by_cases e2 : brFind bs ((j : Int) - 1) x < bs.length
    · rw [if_pos e2] at key
      rw [key, if_pos (by omega), if_neg (by omega), if_pos e2]
    · rw [if_neg e2, if_neg (fun h => e1 ⟨by omega, h.2.symm⟩)] at key
      rw [key, if_neg (by omega), if_neg e2]

/-- A branch that is met first. -/
theorem ImT.addNode (h : ImT lo W g N T nb ni om of mv num) (p : Nat) (hp : p ≤ T.bs.length) (fn : Int) (hnew : ¬ brFind T.bs ((p : Int) - 1) fn < T.bs.length) (bN iN : Nat) (mv' : Value) (br : Int → Nat)
    (sb : W.heap.size ≤ bN) (si : W.heap.size ≤ iN) (hlo : lo ≤ W.heap.size)
    (hkeep : ∀ b, b < W.heap.size → b ≠ ni p → b ≠ g → mv.ownBlock ≠ some b → W'.heap[b]? = W.heap[b]?)
    (hg' : W'.heap[g]? = some (.cells #[.pointer (some ⟨nb 0, 0, none⟩), mv', .map (some om)] 175 (0, 0)))
    (hmet : W'.ownsRow lo 124 1 mv' (T.bs.length + 1) (((List.range T.bs.length).map fun i => .pointer (some ⟨nb (i + 1), 0, none⟩)) ++ [.pointer (some ⟨bN, 0, none⟩)]))
    (hb : W'.heap[bN]? = some (.cells (branchCells ⟨fn, (p : Int) - 1, 0, 0⟩ (nb p) iN 0) 127 (0, 0)))
    (hi : PtrMap W' iN N (fun _ => none)) (hpm : PtrMap W' (ni p) (N + 1) (fun x => if x = fn then some bN else nodeOf T.bs nb p x)) :
    ImT lo W' g (N + 1) ⟨T.bs ++ [⟨fn, (p : Int) - 1, 0, 0⟩], br⟩ (fun j => if j = T.bs.length + 1 then bN else nb j) (fun j => if j = T.bs.length + 1 then iN else ni j) om of mv' (fun i => if i = T.bs.length then 0 else num i) := by
  have hl : (T.bs ++ [(⟨fn, (p : Int) - 1, 0, 0⟩ : Br)]).length = T.bs.length + 1 := by simp
  have hnb : ∀ j, j ≤ T.bs.length → nb j < W.heap.size := fun j hj => by obtain ⟨cs, hc⟩ := h.nodeAny j hj; exact heap_lt' hc
  have hni : ∀ j, j ≤ T.bs.length → ni j < W.heap.size := fun j hj => (h.inner j hj).lt
  have kb : ∀ j, j ≤ T.bs.length → W'.heap[nb j]? = W.heap[nb j]? := fun j hj => hkeep _ (hnb j hj) (Ne.symm (h.i_ne_b p j hp hj)) (h.b_ne_g j hj) (h.m_ne_b j hj)
  have ki : ∀ j, j ≤ T.bs.length → j ≠ p → W'.heap[ni j]? = W.heap[ni j]? := fun j hj hne => hkeep _ (hni j hj) (fun e => hne (h.inji j p hj hp e)) (h.i_ne_g j hj) (h.m_ne_map (h.inner j hj).isMap)
  refine ⟨?_, h.lg, fun j hj => ?_, fun j hj => ?_, h.lm, ?_, ?_, fun i hi' => ?_, fun i hi' => ?_, fun j hj => ?_, ?_, fun a b ha hb' => ?_, fun a b ha hb' => ?_, fun j hj => ?_⟩
  · show _ = some (Obj.cells #[.pointer (some ⟨if 0 = T.bs.length + 1 then bN else nb 0, 0, none⟩), mv', .map (some om)] _ _)
    rw [if_neg (by omega)]; exact hg'
  · show lo ≤ if j = T.bs.length + 1 then bN else nb j
    have hj' : j ≤ T.bs.length + 1 := by rw [← hl]; exact hj
    split
    · omega
    · exact h.lb j (by omega)
  · show lo ≤ if j = T.bs.length + 1 then iN else ni j
    have hj' : j ≤ T.bs.length + 1 := by rw [← hl]; exact hj
    split
    · omega
    · exact h.li j (by omega)
  · show World.ownsRow W' lo _ 1 mv' (T.bs ++ [(⟨fn, (p : Int) - 1, 0, 0⟩ : Br)]).length ((List.range (T.bs ++ [(⟨fn, (p : Int) - 1, 0, 0⟩ : Br)]).length).map _)
    rw [hl, List.range_succ, List.map_append]
    have e1 : (List.range T.bs.length).map (fun i => Value.pointer (some ⟨if i + 1 = T.bs.length + 1 then bN else nb (i + 1), 0, none⟩)) = (List.range T.bs.length).map fun i => Value.pointer (some ⟨nb (i + 1), 0, none⟩) :=
      List.map_congr_left fun i hi => by rw [if_neg (by have := List.mem_range.1 hi; omega)]
    rw [e1]
    simpa using hmet
  · show W'.heap[if 0 = T.bs.length + 1 then bN else nb 0]? = some (Obj.cells #[.int .i64 0, .pointer none, .map (some (if 0 = T.bs.length + 1 then iN else ni 0)), .int .i64 0, .int .i64 0, .int .i64 (-1)] _ _)
    rw [if_neg (by omega), if_neg (by omega), kb 0 (by omega)]
    exact h.ground
  · have hi2 : i < T.bs.length + 1 := by rw [← hl]; exact hi'
    show W'.heap[if i + 1 = T.bs.length + 1 then bN else nb (i + 1)]? = some (Obj.cells (branchCells (T.bs ++ [(⟨fn, (p : Int) - 1, 0, 0⟩ : Br)])[i] (if ((T.bs ++ [(⟨fn, (p : Int) - 1, 0, 0⟩ : Br)])[i].par + 1).toNat = T.bs.length + 1 then bN else nb ((T.bs ++ [(⟨fn, (p : Int) - 1, 0, 0⟩ : Br)])[i].par + 1).toNat) (if i + 1 = T.bs.length + 1 then iN else ni (i + 1)) (if i = T.bs.length then 0 else num i)) _ _)
    by_cases e : i < T.bs.length
    · have hpar := h.par i e
      rw [List.getElem_append_left e, if_neg (by omega), if_neg (by omega), if_neg (by omega), if_neg (by omega), kb (i + 1) (by omega)]
      exact h.node i e
    · have e' : i = T.bs.length := by omega
      subst e'
      have ep : (((p : Int) - 1) + 1).toNat = p := by omega
      have eg : (T.bs ++ [(⟨fn, (p : Int) - 1, 0, 0⟩ : Br)])[T.bs.length] = ⟨fn, (p : Int) - 1, 0, 0⟩ := by simp
      rw [eg, if_pos rfl, if_pos rfl, if_pos rfl]
      show _ = some (Obj.cells (branchCells _ (if (((p : Int) - 1) + 1).toNat = T.bs.length + 1 then bN else nb (((p : Int) - 1) + 1).toNat) _ _) _ _)
      rw [ep, if_neg (by omega)]
      exact hb
  · have hi2 : i < T.bs.length + 1 := by rw [← hl]; exact hi'
    show -1 ≤ ((T.bs ++ [(⟨fn, (p : Int) - 1, 0, 0⟩ : Br)])[i]).par ∧ ((T.bs ++ [(⟨fn, (p : Int) - 1, 0, 0⟩ : Br)])[i]).par < i
    by_cases e : i < T.bs.length
    · rw [List.getElem_append_left e]; exact h.par i e
    · have e' : i = T.bs.length := by omega
      subst e'
      have eg : (T.bs ++ [(⟨fn, (p : Int) - 1, 0, 0⟩ : Br)])[T.bs.length] = ⟨fn, (p : Int) - 1, 0, 0⟩ := by simp
      rw [eg]
      show -1 ≤ (p : Int) - 1 ∧ (p : Int) - 1 < (T.bs.length : Int)
      omega
  · have hj' : j ≤ T.bs.length + 1 := by rw [← hl]; exact hj
    show PtrMap W' (if j = T.bs.length + 1 then iN else ni j) (N + 1) (nodeOf (T.bs ++ [⟨fn, (p : Int) - 1, 0, 0⟩]) (fun j => if j = T.bs.length + 1 then bN else nb j) j)
    by_cases e : j = T.bs.length + 1
    · subst e
      rw [if_pos rfl]
      refine (hi.mono (by omega)).congr (fun x => ?_)
      rw [nodeOf_app hnew, if_neg (by omega)]
      unfold nodeOf
      rw [if_neg]
      have hn : brFind T.bs (((T.bs.length + 1 : Nat) : Int) - 1) x = T.bs.length := brFind_none (fun q hq => decide_eq_false (fun hh => by have := h.par q hq; have := hh.1; omega))
      omega
    · rw [if_neg e]
      by_cases e2 : j = p
      · subst e2
        refine hpm.congr (fun x => ?_)
        rw [nodeOf_app hnew]
        by_cases e3 : x = fn
        · rw [if_pos e3, if_pos ⟨rfl, e3⟩]
        · rw [if_neg e3, if_neg (fun hh => e3 hh.2)]
      · refine (((h.inner j (by omega)).of_block (ki j (by omega) e2)).mono (by omega)).congr (fun x => ?_)
        rw [nodeOf_app hnew, if_neg (fun hh => e2 hh.1)]
  · exact (h.ofm.of_block (hkeep _ h.ofm.lt (fun e => h.omn p hp e.symm) h.o_ne_g (h.m_ne_map h.ofm.isMap))).mono (by omega)
  · have ha' : a ≤ T.bs.length + 1 := by rw [← hl]; exact ha
    have hb2 : b ≤ T.bs.length + 1 := by rw [← hl]; exact hb'
    show (if a = T.bs.length + 1 then bN else nb a) = (if b = T.bs.length + 1 then bN else nb b) → a = b
    intro e
    by_cases ea : a = T.bs.length + 1
    · by_cases eb : b = T.bs.length + 1
      · omega
      · rw [if_pos ea, if_neg eb] at e; have := hnb b (by omega); omega
    · by_cases eb : b = T.bs.length + 1
      · rw [if_neg ea, if_pos eb] at e; have := hnb a (by omega); omega
      · rw [if_neg ea, if_neg eb] at e; exact h.injb a b (by omega) (by omega) e
  · have ha' : a ≤ T.bs.length + 1 := by rw [← hl]; exact ha
    have hb2 : b ≤ T.bs.length + 1 := by rw [← hl]; exact hb'
    show (if a = T.bs.length + 1 then iN else ni a) = (if b = T.bs.length + 1 then iN else ni b) → a = b
    intro e
    by_cases ea : a = T.bs.length + 1
    · by_cases eb : b = T.bs.length + 1
      · omega
      · rw [if_pos ea, if_neg eb] at e; have := hni b (by omega); omega
    · by_cases eb : b = T.bs.length + 1
      · rw [if_neg ea, if_pos eb] at e; have := hni a (by omega); omega
      · rw [if_neg ea, if_neg eb] at e; exact h.inji a b (by omega) (by omega) e
  · have hj' : j ≤ T.bs.length + 1 := by rw [← hl]; exact hj
    show (if j = T.bs.length + 1 then iN else ni j) ≠ om
    split
    · have := h.ofm.lt; omega
    · exact h.omn j (by omega)
end
end Go.Proofs.Ytoiacbdnkkolmab
