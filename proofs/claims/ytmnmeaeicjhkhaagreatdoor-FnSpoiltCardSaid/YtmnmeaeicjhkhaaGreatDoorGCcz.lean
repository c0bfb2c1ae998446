import Derived.Test.YtmnmeaeicjhkhaaGreatDoorGEaz
import Derived.Test.YtmnmeaeicjhkhaaGreatDoorGLz
import Derived.Maps.OwnOps
import Derived.Maps.Views
import Derived.Deep.AppendLies
import Derived.Deep.DeepCutAuto
import Derived.Test.YtmnmeaeicjhkhaaGreatDoorC14z
import Derived.Deep.LoopGhost
/-
  Maps from integers to pointers, and the program's call tree in memory.
-/
namespace Go.Proofs.YtmnmeaeicjhkhaaGreatDoor
open Go.RowKit Go.Lib Go.Maps

/-- What a pointer to a whole block, or nil, reads as. -/
def ptrDat : Option Nat → DataW Unit
  | none => .lit (.int .i64 (-1))
  | some b => .lit (.int .i64 (b : Int))

def ptrVal (o : Option Nat) : Value := .pointer (o.map fun b => ⟨b, 0, none⟩)

def ptrElem (v : Value) : Option (DataW Unit × List MemPlace) :=
  match v with
  | .pointer none => some (ptrDat none, [])
  | .pointer (some ⟨b, 0, none⟩) => some (ptrDat (some b), [])
  | _ => none

theorem ptrElem_val (o : Option Nat) : ptrElem (ptrVal o) = some (ptrDat o, []) := by cases o <;> rfl

theorem ptrDat_inj {o o' : Option Nat} (h : ptrDat o = ptrDat o') : o = o' := by
  cases o <;> cases o' <;> simp [ptrDat] at h ⊢ <;> omega

theorem ptrElem_inv {v : Value} {d : DataW Unit} {ps : List MemPlace} (h : ptrElem v = some (d, ps)) : ∃ o, v = ptrVal o ∧ d = ptrDat o := by
  unfold ptrElem at h
  split at h
  · cases h; exact ⟨none, rfl, rfl⟩
  · cases h; exact ⟨some _, rfl, rfl⟩
  · cases h

/-- Block b is a map from integers to pointers: g tells the block that a key leads to. -/
def PtrMap (w : World) (b n : Nat) (g : Int → Option Nat) : Prop :=
  ∃ D : DataW Unit, w.ownsMap Tryz.prog 3 ptrElem b n D ∧ ∀ k, D.atKey (.int .i64 k) (ptrDat none) = ptrDat (g k)

theorem PtrMap.made (w : World) : PtrMap (w.alloc (.map #[] 0)) w.heap.size 0 (fun _ => none) :=
  ⟨.map [], World.ownsMap_made _ _ _ _, fun _ => rfl⟩

theorem PtrMap.mono {w : World} {b n n' : Nat} {g : Int → Option Nat} (h : PtrMap w b n g) (hn : n ≤ n') : PtrMap w b n' g := by
  obtain ⟨D, h1, h2⟩ := h
  exact ⟨D, h1.mono hn, h2⟩

theorem PtrMap.congr {w : World} {b n : Nat} {g g' : Int → Option Nat} (h : PtrMap w b n g) (hg : ∀ k, g k = g' k) : PtrMap w b n g' := by
  obtain ⟨D, h1, h2⟩ := h
  exact ⟨D, h1, fun k => by rw [h2, hg]⟩

theorem PtrMap.lt {w : World} {b n : Nat} {g : Int → Option Nat} (h : PtrMap w b n g) : b < w.heap.size := by
  obtain ⟨D, h1, _⟩ := h
  exact h1.lt

theorem PtrMap.isMap {w : World} {b n : Nat} {g : Int → Option Nat} (h : PtrMap w b n g) : ∃ es c, w.heap[b]? = some (.map es c) := by
  obtain ⟨D, ⟨es, c, h1, _⟩, _⟩ := h
  exact ⟨es, c, h1⟩

theorem PtrMap.of_block {w w' : World} {b n : Nat} {g : Int → Option Nat} (h : PtrMap w b n g) (hb : w'.heap[b]? = w.heap[b]?) : PtrMap w' b n g := by
  obtain ⟨D, ⟨es, c, h1, h2⟩, h3⟩ := h
  exact ⟨D, ⟨es, c, hb.trans h1, h2⟩, h3⟩

theorem key_int : Keyed Tryz.prog 3 := int_keyed Tryz.underlying3

theorem zero_ptr (w : World) : (zeroValue 125).run Tryz.prog w = .ok (.pointer none) w := by kernel_rfl

/-- m[k]. -/
theorem PtrMap.look {w : World} {b n : Nat} {g : Int → Option Nat} (h : PtrMap w b n g) (k : Int) (hk : (Lit.int .i64 k).wf = true) :
    (Instr.lookup 126 (.map (some b)) (.int .i64 k) false).run Tryz.prog w = .ok (ptrVal (g k)) w := by
  obtain ⟨D, h1, h2⟩ := h
  obtain ⟨v, ps, hr, hv⟩ := h1.lookup key_int Tryz.underlying126 (zero_ptr w) (ptrElem_val none) (keyOf_int_mk Tryz.underlying3 hk)
  obtain ⟨o, rfl, ho⟩ := ptrElem_inv hv
  rw [h2] at ho
  rw [hr, ptrDat_inj ho]

/-- m[k] = v. -/
theorem PtrMap.store {w : World} {b n : Nat} {g : Int → Option Nat} (h : PtrMap w b n g) (hn : n < maxLen) (k : Int) (hk : (Lit.int .i64 k).wf = true) (o : Option Nat) :
    ∃ w', (Instr.mapUpdate 126 (.map (some b)) (.int .i64 k) (ptrVal o)).run Tryz.prog w = .ok () w' ∧ PtrMap w' b (n + 1) (fun x => if x = k then o else g x) ∧ w.grownBy w' (some b) := by
  obtain ⟨D, h1, h2⟩ := h
  have hm : IsMap D := by obtain ⟨es, c, _, _, _, rfl⟩ := h1; exact ⟨_, rfl⟩
  obtain ⟨w', hr, h3, h4⟩ := h1.update key_int Tryz.underlying126 hn (keyOf_int_mk Tryz.underlying3 hk) (ptrElem_val o)
  refine ⟨w', hr, ⟨_, h3, fun x => ?_⟩, h4⟩
  dsimp only
  by_cases e : x = k
  · rw [if_pos e, e]
    exact atKey_put_same hm (by first | trivial | exact WideAt.IsKeyLit.int | simp [WideAt.IsKeyLit]) _ _
  · rw [if_neg e, ← h2]
    exact atKey_put_other (by simpa using e) _ _

theorem wpList_ptr_store {ops : Array Oper} {rest : List Oper} {o : Oper} {a : Act} {Q : Exit → Act → World → Prop} (w : World)
    (hg : o.guard = none) (m x v : Operand) (hop : o.op = Op.mapUpdate 126 m x v) (b n : Nat) (g : Int → Option Nat)
    (hm : a.eval m = .map (some b)) (h : PtrMap w b n g) (hn : n < maxLen) (k : Int) (hk : (Lit.int .i64 k).wf = true) (q : Option Nat) (hx : a.eval x = .int .i64 k) (hv : a.eval v = ptrVal q)
    (hK : ∀ w', PtrMap w' b (n + 1) (fun y => if y = k then q else g y) → w.grownBy w' (some b) → wpList Tryz.prog ops Q rest (a.put o.dst undef) w') :
    wpList Tryz.prog ops Q (o :: rest) a w := by
  refine wpList_plain hg fun K' hK' => ?_
  obtain ⟨w', hrun, r1, r2⟩ := h.store hn k hk q
  unfold Oper.wp
  simp [execOp, hop, hm, hx, hv, hrun, Result.andThen]
  exact hK' _ _ (hK w' r1 r2)

/-! ### the branches' places -/
def brKey (b : Br) : Int × Int := (b.par, b.fn)

theorem brFind_key (bs : List Br) (par fn : Int) : brFind bs par fn = (bs.map brKey).findIdx (fun p => decide (p.1 = par ∧ p.2 = fn)) := by
  unfold brFind
  induction bs with
  | nil => rfl
  | cons a r ih =>
    rw [List.map_cons, List.findIdx_cons, List.findIdx_cons, ih]
    rfl

theorem key_modify (h : Br → Br) (hk : ∀ b, brKey (h b) = brKey b) : ∀ (l : List Br) (i : Nat), (l.modify i h).map brKey = l.map brKey
  | [], i => by simp
  | a :: r, 0 => by simp [hk]
  | a :: r, i + 1 => by simp [key_modify h hk r i]

theorem brFind_modify (h : Br → Br) (hk : ∀ b, brKey (h b) = brKey b) (l : List Br) (i : Nat) (par fn : Int) : brFind (l.modify i h) par fn = brFind l par fn := by
  rw [brFind_key, brFind_key, key_modify h hk]

theorem brFind_app (l : List Br) (b : Br) (par fn : Int) : brFind (l ++ [b]) par fn = if brFind l par fn < l.length then brFind l par fn else if b.par = par ∧ b.fn = fn then l.length else l.length + 1 := by
  unfold brFind
  rw [List.findIdx_append]
  split
  · rfl
  · rw [List.findIdx_singleton]
    unfold isBr
    by_cases e : b.par = par ∧ b.fn = fn
    · rw [decide_eq_true e, if_pos e]; simp
    · rw [decide_eq_false e, if_neg e]; simp [Nat.add_comm]

/-- The branch that a key leads to, as the number of its node: the ground is node 0. -/
def nodeOf (bs : List Br) (nb : Nat → Nat) (j : Nat) (fn : Int) : Option Nat :=
  if brFind bs ((j : Int) - 1) fn < bs.length then some (nb (brFind bs ((j : Int) - 1) fn + 1)) else none

def branchCells (b : Br) (par : Nat) (inner : Nat) (num : Int) : Array Value := #[.int .i64 b.fn, .pointer (some ⟨par, 0, none⟩), .map (some inner), .int .i64 b.calls, .int .i64 b.self, .int .i64 num]

/-- The program's tree in memory: nb: the nodes' blocks, ni: the blocks of their maps. -/
structure ImT (lo : Nat) (W : World) (g N : Nat) (T : Tree) (nb ni : Nat → Nat) (om : Nat) (of : Int → Option Nat) (mv : Value) (num : Nat → Int) : Prop where
  hg : W.heap[g]? = some (.cells #[.pointer (some ⟨nb 0, 0, none⟩), mv, .map (some om)] 201 (0, 0))
  lg : lo ≤ g
  lb : ∀ j, j ≤ T.bs.length → lo ≤ nb j
  li : ∀ j, j ≤ T.bs.length → lo ≤ ni j
  lm : lo ≤ om
  met : W.ownsRow lo 125 1 mv T.bs.length ((List.range T.bs.length).map fun i => .pointer (some ⟨nb (i + 1), 0, none⟩))
  ground : W.heap[nb 0]? = some (.cells #[.int .i64 0, .pointer none, .map (some (ni 0)), .int .i64 0, .int .i64 0, .int .i64 (-1)] 128 (0, 0))
  node : ∀ i (h : i < T.bs.length), W.heap[nb (i + 1)]? = some (.cells (branchCells T.bs[i] (nb (T.bs[i].par + 1).toNat) (ni (i + 1)) (num i)) 128 (0, 0))
  par : ∀ i (h : i < T.bs.length), -1 ≤ T.bs[i].par ∧ T.bs[i].par < i
  inner : ∀ j, j ≤ T.bs.length → PtrMap W (ni j) N (nodeOf T.bs nb j)
  ofm : PtrMap W om N of
  injb : ∀ i j, i ≤ T.bs.length → j ≤ T.bs.length → nb i = nb j → i = j
  inji : ∀ i j, i ≤ T.bs.length → j ≤ T.bs.length → ni i = ni j → i = j
  omn : ∀ j, j ≤ T.bs.length → ni j ≠ om

theorem heap_lt' {w : World} {b : Nat} {o : Obj} (h : w.heap[b]? = some o) : b < w.heap.size := (Array.getElem?_eq_some_iff.1 h).1

section
variable {lo : Nat} {W W' : World} {g N : Nat} {T : Tree} {nb ni : Nat → Nat} {om : Nat} {of : Int → Option Nat} {mv : Value} {num : Nat → Int}

/-- Each node is a block of cells of its own. -/
theorem ImT.nodeAny (h : ImT lo W g N T nb ni om of mv num) (j : Nat) (hj : j ≤ T.bs.length) : ∃ cs, W.heap[nb j]? = some (.cells cs 128 (0, 0)) := by
  cases j with
  | zero => exact ⟨_, h.ground⟩
  | succ i => exact ⟨_, h.node i (by omega)⟩

theorem ImT.b_ne_g (h : ImT lo W g N T nb ni om of mv num) (j : Nat) (hj : j ≤ T.bs.length) : nb j ≠ g := fun e => by
  obtain ⟨cs, hc⟩ := h.nodeAny j hj
  have := h.hg
  rw [← e, hc] at this
  cases this

theorem ImT.i_ne_b (h : ImT lo W g N T nb ni om of mv num) (i j : Nat) (hi : i ≤ T.bs.length) (hj : j ≤ T.bs.length) : ni i ≠ nb j := fun e => by
  obtain ⟨cs, hc⟩ := h.nodeAny j hj
  obtain ⟨es, c, h2⟩ := (h.inner i hi).isMap
  rw [e, hc] at h2
  cases h2

theorem ImT.i_ne_g (h : ImT lo W g N T nb ni om of mv num) (i : Nat) (hi : i ≤ T.bs.length) : ni i ≠ g := fun e => by
  obtain ⟨es, c, h2⟩ := (h.inner i hi).isMap
  have := h.hg
  rw [← e, h2] at this
  cases this

theorem ImT.o_ne_b (h : ImT lo W g N T nb ni om of mv num) (j : Nat) (hj : j ≤ T.bs.length) : om ≠ nb j := fun e => by
  obtain ⟨cs, hc⟩ := h.nodeAny j hj
  obtain ⟨es, c, h2⟩ := h.ofm.isMap
  rw [e, hc] at h2
  cases h2

theorem ImT.o_ne_g (h : ImT lo W g N T nb ni om of mv num) : om ≠ g := fun e => by
  obtain ⟨es, c, h2⟩ := h.ofm.isMap
  have := h.hg
  rw [← e, h2] at this
  cases this

theorem ImT.m_ne_map (h : ImT lo W g N T nb ni om of mv num) {b : Nat} (hb : ∃ es c, W.heap[b]? = some (.map es c)) : mv.ownBlock ≠ some b := fun e => by
  obtain ⟨_, cs, fr, h1⟩ := owns_typed h.met b e
  obtain ⟨es, c, h2⟩ := hb
  rw [h1] at h2; cases h2

theorem ImT.m_ne_b (h : ImT lo W g N T nb ni om of mv num) (j : Nat) (hj : j ≤ T.bs.length) : mv.ownBlock ≠ some (nb j) := fun e => by
  obtain ⟨_, cs, fr, h1⟩ := owns_typed h.met _ e
  obtain ⟨cs', hc⟩ := h.nodeAny j hj
  rw [h1] at hc; cases hc

theorem ImT.m_ne_g (h : ImT lo W g N T nb ni om of mv num) : mv.ownBlock ≠ some g := fun e => by
  obtain ⟨_, cs, fr, h1⟩ := owns_typed h.met _ e
  have := h.hg
  rw [h1] at this; cases this

theorem ImT.below (h : ImT lo W g N T nb ni om of mv num) (hb : Below W.heap.size W W') : ImT lo W' g N T nb ni om of mv num :=
  ⟨by rw [hb.block g (heap_lt' h.hg)]; exact h.hg, h.lg, h.lb, h.li, h.lm, owns_below h.met hb, by rw [hb.block _ (heap_lt' h.ground)]; exact h.ground,
   fun i hi => by rw [hb.block _ (heap_lt' (h.node i hi))]; exact h.node i hi, h.par, fun j hj => (h.inner j hj).of_block (hb.block _ (h.inner j hj).lt), h.ofm.of_block (hb.block _ h.ofm.lt), h.injb, h.inji, h.omn⟩

/-- A call's branch is laid down. -/
theorem ImT.putOf (h : ImT lo W g N T nb ni om of mv num) {of' : Int → Option Nat} (ho : PtrMap W' om (N + 1) of') (hgr : W.grownBy W' (some om)) : ImT lo W' g (N + 1) T nb ni om of' mv num := by
  have hk : ∀ b, b < W.heap.size → b ≠ om → W'.heap[b]? = W.heap[b]? := fun b hb hne => hgr.block b hb (fun e => hne (Option.some.inj e))
  refine ⟨?_, h.lg, h.lb, h.li, h.lm, h.met.kept hgr (.inr (fun e => h.m_ne_map h.ofm.isMap e)), ?_, fun i hi => ?_, h.par, fun j hj => ?_, ho, h.injb, h.inji, h.omn⟩
  · rw [hk g (heap_lt' h.hg) (Ne.symm h.o_ne_g)]; exact h.hg
  · rw [hk _ (heap_lt' h.ground) (Ne.symm (h.o_ne_b 0 (by omega)))]; exact h.ground
  · rw [hk _ (heap_lt' (h.node i hi)) (Ne.symm (h.o_ne_b (i + 1) (by omega)))]; exact h.node i hi
  · exact ((h.inner j hj).of_block (hk _ (h.inner j hj).lt (h.omn j hj))).mono (by omega)

theorem nodeOf_modify (f : Br → Br) (hk : ∀ b, brKey (f b) = brKey b) (bs : List Br) (i j : Nat) (fn : Int) : nodeOf (bs.modify i f) nb j fn = nodeOf bs nb j fn := by
  unfold nodeOf
  rw [brFind_modify f hk, List.length_modify]

/-- A number of one branch is turned. -/
theorem ImT.setNode (h : ImT lo W g N T nb ni om of mv num) (i : Nat) (hi : i < T.bs.length) (f : Br → Br) (br : Int → Nat) (num' : Nat → Int) (o : Nat) (u : Value) (hk : ∀ b, brKey (f b) = brKey b) (hn : ∀ j, j ≠ i → num' j = num j)
    (hc : (branchCells T.bs[i] (nb (T.bs[i].par + 1).toNat) (ni (i + 1)) (num i)).setIfInBounds o u = branchCells (f T.bs[i]) (nb (T.bs[i].par + 1).toNat) (ni (i + 1)) (num' i)) :
    ImT lo (W.setCell ⟨nb (i + 1), o, none⟩ u) g N ⟨T.bs.modify i f, br⟩ nb ni om of mv num' := by
  have hl : (T.bs.modify i f).length = T.bs.length := List.length_modify ..
  have hp : ∀ b, (f b).par = b.par := fun b => congrArg Prod.fst (hk b)
  have hs : ∀ b, b ≠ nb (i + 1) → (W.setCell ⟨nb (i + 1), o, none⟩ u).heap[b]? = W.heap[b]? := fun b hb => heap_setCell_other _ _ _ _ hb
  have hgm : ∀ j (hj : j < T.bs.length), (T.bs.modify i f)[j]'(by rw [hl]; exact hj) = if i = j then f T.bs[j] else T.bs[j] := fun j hj => List.getElem_modify ..
  refine ⟨?_, h.lg, fun j hj => h.lb j (by rw [← hl]; exact hj), fun j hj => h.li j (by rw [← hl]; exact hj), h.lm, ?_, ?_, fun j hj => ?_, fun j hj => ?_, fun j hj => ?_, ?_, fun a b ha hb => h.injb a b (by rw [← hl]; exact ha) (by rw [← hl]; exact hb), fun a b ha hb => h.inji a b (by rw [← hl]; exact ha) (by rw [← hl]; exact hb), fun j hj => h.omn j (by rw [← hl]; exact hj)⟩
  · rw [hs g (Ne.symm (h.b_ne_g (i + 1) (by omega)))]; exact h.hg
  · show World.ownsRow _ lo _ 1 mv (T.bs.modify i f).length ((List.range (T.bs.modify i f).length).map _)
    rw [hl]
    exact owns_setCell h.met (h.m_ne_b (i + 1) (by omega))
  · rw [hs _ (fun e => by have := h.injb 0 (i + 1) (by omega) (by omega) e; omega)]; exact h.ground
  · have hj' : j < T.bs.length := by rw [← hl]; exact hj
    show _ = some (Obj.cells (branchCells ((T.bs.modify i f)[j]) (nb (((T.bs.modify i f)[j]).par + 1).toNat) _ _) _ _)
    rw [hgm j hj']
    by_cases e : i = j
    · subst e
      rw [if_pos rfl, hp, ← hc]
      exact heap_setCell_same _ _ _ _ _ _ (h.node i hi)
    · rw [if_neg e, hs _ (fun e2 => by have := h.injb (j + 1) (i + 1) (by omega) (by omega) e2; omega), hn j (fun e2 => e e2.symm)]
      exact h.node j hj'
  · have hj' : j < T.bs.length := by rw [← hl]; exact hj
    show -1 ≤ ((T.bs.modify i f)[j]).par ∧ ((T.bs.modify i f)[j]).par < j
    rw [hgm j hj']
    have := h.par j hj'
    split
    · rw [hp]; exact this
    · exact this
  · have hj' : j ≤ T.bs.length := by rw [← hl]; exact hj
    exact ((h.inner j hj').of_block (hs _ (h.i_ne_b j (i + 1) hj' (by omega)))).congr (fun x => (nodeOf_modify f hk T.bs i j x).symm)
  · exact h.ofm.of_block (hs _ (h.o_ne_b (i + 1) (by omega)))

theorem nodeOf_app {bs : List Br} {p : Nat} {fn : Int} {bN : Nat} (hnew : ¬ brFind bs ((p : Int) - 1) fn < bs.length) (j : Nat) (x : Int) :
    nodeOf (bs ++ [⟨fn, (p : Int) - 1, 0, 0⟩]) (fun j => if j = bs.length + 1 then bN else nb j) j x = if j = p ∧ x = fn then some bN else nodeOf bs nb j x := by
  have hle := brFind_le bs ((j : Int) - 1) x
  have key := brFind_app bs ⟨fn, (p : Int) - 1, 0, 0⟩ ((j : Int) - 1) x
  unfold nodeOf
  rw [List.length_append, List.length_singleton]
  dsimp only at key ⊢
  by_cases e1 : j = p ∧ x = fn
  · obtain ⟨rfl, rfl⟩ := e1
    rw [if_neg hnew, if_pos ⟨rfl, rfl⟩] at key
    rw [key, if_pos (Nat.lt_succ_self _), if_pos rfl, if_pos ⟨rfl, rfl⟩]
  · rw [if_neg e1]
    by_cases e2 : brFind bs ((j : Int) - 1) x < bs.length
    · rw [if_pos e2] at key
      rw [key, if_pos (by omega), if_neg (by omega), if_pos e2]
    · rw [if_neg e2, if_neg (fun h => e1 ⟨by omega, h.2.symm⟩)] at key
      rw [key, if_neg (by omega), if_neg e2]

/-- A branch that is met first. -/
theorem ImT.addNode (h : ImT lo W g N T nb ni om of mv num) (p : Nat) (hp : p ≤ T.bs.length) (fn : Int) (hnew : ¬ brFind T.bs ((p : Int) - 1) fn < T.bs.length) (bN iN : Nat) (mv' : Value) (br : Int → Nat)
    (sb : W.heap.size ≤ bN) (si : W.heap.size ≤ iN) (hlo : lo ≤ W.heap.size)
    (hkeep : ∀ b, b < W.heap.size → b ≠ ni p → b ≠ g → mv.ownBlock ≠ some b → W'.heap[b]? = W.heap[b]?)
    (hg' : W'.heap[g]? = some (.cells #[.pointer (some ⟨nb 0, 0, none⟩), mv', .map (some om)] 201 (0, 0)))
    (hmet : W'.ownsRow lo 125 1 mv' (T.bs.length + 1) (((List.range T.bs.length).map fun i => .pointer (some ⟨nb (i + 1), 0, none⟩)) ++ [.pointer (some ⟨bN, 0, none⟩)]))
    (hb : W'.heap[bN]? = some (.cells (branchCells ⟨fn, (p : Int) - 1, 0, 0⟩ (nb p) iN 0) 128 (0, 0)))
    (hi : PtrMap W' iN N (fun _ => none)) (hpm : PtrMap W' (ni p) (N + 1) (fun x => if x = fn then some bN else nodeOf T.bs nb p x)) :
    ImT lo W' g (N + 1) ⟨T.bs ++ [⟨fn, (p : Int) - 1, 0, 0⟩], br⟩ (fun j => if j = T.bs.length + 1 then bN else nb j) (fun j => if j = T.bs.length + 1 then iN else ni j) om of mv' (fun i => if i = T.bs.length then 0 else num i) := by
  have hl : (T.bs ++ [(⟨fn, (p : Int) - 1, 0, 0⟩ : Br)]).length = T.bs.length + 1 := by simp
  have hnb : ∀ j, j ≤ T.bs.length → nb j < W.heap.size := fun j hj => by obtain ⟨cs, hc⟩ := h.nodeAny j hj; exact heap_lt' hc
  have hni : ∀ j, j ≤ T.bs.length → ni j < W.heap.size := fun j hj => (h.inner j hj).lt
  have kb : ∀ j, j ≤ T.bs.length → W'.heap[nb j]? = W.heap[nb j]? := fun j hj => hkeep _ (hnb j hj) (Ne.symm (h.i_ne_b p j hp hj)) (h.b_ne_g j hj) (h.m_ne_b j hj)
  have ki : ∀ j, j ≤ T.bs.length → j ≠ p → W'.heap[ni j]? = W.heap[ni j]? := fun j hj hne => hkeep _ (hni j hj) (fun e => hne (h.inji j p hj hp e)) (h.i_ne_g j hj) (h.m_ne_map (h.inner j hj).isMap)
  refine ⟨?_, h.lg, fun j hj => ?_, fun j hj => ?_, h.lm, ?_, ?_, fun i hi' => ?_, fun i hi' => ?_, fun j hj => ?_, ?_, fun a b ha hb' => ?_, fun a b ha hb' => ?_, fun j hj => ?_⟩
  · show _ = some (Obj.cells #[.pointer (some ⟨if 0 = T.bs.length + 1 then bN else nb 0, 0, none⟩), mv', .map (some om)] _ _)
    rw [if_neg (by omega)]; exact hg'
  · show lo ≤ if j = T.bs.length + 1 then bN else nb j
    have hj' : j ≤ T.bs.length + 1 := by rw [← hl]; exact hj
    split
    · omega
    · exact h.lb j (by omega)
  · show lo ≤ if j = T.bs.length + 1 then iN else ni j
    have hj' : j ≤ T.bs.length + 1 := by rw [← hl]; exact hj
    split
    · omega
    · exact h.li j (by omega)
  · show World.ownsRow W' lo _ 1 mv' (T.bs ++ [(⟨fn, (p : Int) - 1, 0, 0⟩ : Br)]).length ((List.range (T.bs ++ [(⟨fn, (p : Int) - 1, 0, 0⟩ : Br)]).length).map _)
    rw [hl, List.range_succ, List.map_append]
    have e1 : (List.range T.bs.length).map (fun i => Value.pointer (some ⟨if i + 1 = T.bs.length + 1 then bN else nb (i + 1), 0, none⟩)) = (List.range T.bs.length).map fun i => Value.pointer (some ⟨nb (i + 1), 0, none⟩) :=
      List.map_congr_left fun i hi => by rw [if_neg (by have := List.mem_range.1 hi; omega)]
    rw [e1]
    simpa using hmet
  · show W'.heap[if 0 = T.bs.length + 1 then bN else nb 0]? = some (Obj.cells #[.int .i64 0, .pointer none, .map (some (if 0 = T.bs.length + 1 then iN else ni 0)), .int .i64 0, .int .i64 0, .int .i64 (-1)] _ _)
    rw [if_neg (by omega), if_neg (by omega), kb 0 (by omega)]
    exact h.ground
  · have hi2 : i < T.bs.length + 1 := by rw [← hl]; exact hi'
    show W'.heap[if i + 1 = T.bs.length + 1 then bN else nb (i + 1)]? = some (Obj.cells (branchCells (T.bs ++ [(⟨fn, (p : Int) - 1, 0, 0⟩ : Br)])[i] (if ((T.bs ++ [(⟨fn, (p : Int) - 1, 0, 0⟩ : Br)])[i].par + 1).toNat = T.bs.length + 1 then bN else nb ((T.bs ++ [(⟨fn, (p : Int) - 1, 0, 0⟩ : Br)])[i].par + 1).toNat) (if i + 1 = T.bs.length + 1 then iN else ni (i + 1)) (if i = T.bs.length then 0 else num i)) _ _)
    by_cases e : i < T.bs.length
    · have hpar := h.par i e
      rw [List.getElem_append_left e, if_neg (by omega), if_neg (by omega), if_neg (by omega), if_neg (by omega), kb (i + 1) (by omega)]
      exact h.node i e
    · have e' : i = T.bs.length := by omega
      subst e'
      have ep : (((p : Int) - 1) + 1).toNat = p := by omega
      have eg : (T.bs ++ [(⟨fn, (p : Int) - 1, 0, 0⟩ : Br)])[T.bs.length] = ⟨fn, (p : Int) - 1, 0, 0⟩ := by simp
      rw [eg, if_pos rfl, if_pos rfl, if_pos rfl]
      show _ = some (Obj.cells (branchCells _ (if (((p : Int) - 1) + 1).toNat = T.bs.length + 1 then bN else nb (((p : Int) - 1) + 1).toNat) _ _) _ _)
      rw [ep, if_neg (by omega)]
      exact hb
  · have hi2 : i < T.bs.length + 1 := by rw [← hl]; exact hi'
    show -1 ≤ ((T.bs ++ [(⟨fn, (p : Int) - 1, 0, 0⟩ : Br)])[i]).par ∧ ((T.bs ++ [(⟨fn, (p : Int) - 1, 0, 0⟩ : Br)])[i]).par < i
    by_cases e : i < T.bs.length
    · rw [List.getElem_append_left e]; exact h.par i e
    · have e' : i = T.bs.length := by omega
      subst e'
      have eg : (T.bs ++ [(⟨fn, (p : Int) - 1, 0, 0⟩ : Br)])[T.bs.length] = ⟨fn, (p : Int) - 1, 0, 0⟩ := by simp
      rw [eg]
      show -1 ≤ (p : Int) - 1 ∧ (p : Int) - 1 < (T.bs.length : Int)
      omega
  · have hj' : j ≤ T.bs.length + 1 := by rw [← hl]; exact hj
    show PtrMap W' (if j = T.bs.length + 1 then iN else ni j) (N + 1) (nodeOf (T.bs ++ [⟨fn, (p : Int) - 1, 0, 0⟩]) (fun j => if j = T.bs.length + 1 then bN else nb j) j)
    by_cases e : j = T.bs.length + 1
    · subst e
      rw [if_pos rfl]
      refine (hi.mono (by omega)).congr (fun x => ?_)
      rw [nodeOf_app hnew, if_neg (by omega)]
      unfold nodeOf
      rw [if_neg]
      have hn : brFind T.bs (((T.bs.length + 1 : Nat) : Int) - 1) x = T.bs.length := brFind_none (fun q hq => decide_eq_false (fun hh => by have := h.par q hq; have := hh.1; omega))
      omega
    · rw [if_neg e]
      by_cases e2 : j = p
      · subst e2
        refine hpm.congr (fun x => ?_)
        rw [nodeOf_app hnew]
        by_cases e3 : x = fn
        · rw [if_pos e3, if_pos ⟨rfl, e3⟩]
        · rw [if_neg e3, if_neg (fun hh => e3 hh.2)]
      · refine (((h.inner j (by omega)).of_block (ki j (by omega) e2)).mono (by omega)).congr (fun x => ?_)
        rw [nodeOf_app hnew, if_neg (fun hh => e2 hh.1)]
  · exact (h.ofm.of_block (hkeep _ h.ofm.lt (fun e => h.omn p hp e.symm) h.o_ne_g (h.m_ne_map h.ofm.isMap))).mono (by omega)
  · have ha' : a ≤ T.bs.length + 1 := by rw [← hl]; exact ha
    have hb2 : b ≤ T.bs.length + 1 := by rw [← hl]; exact hb'
    show (if a = T.bs.length + 1 then bN else nb a) = (if b = T.bs.length + 1 then bN else nb b) → a = b
    intro e
    by_cases ea : a = T.bs.length + 1
    · by_cases eb : b = T.bs.length + 1
      · omega
      · rw [if_pos ea, if_neg eb] at e; have := hnb b (by omega); omega
    · by_cases eb : b = T.bs.length + 1
      · rw [if_neg ea, if_pos eb] at e; have := hnb a (by omega); omega
      · rw [if_neg ea, if_neg eb] at e; exact h.injb a b (by omega) (by omega) e
  · have ha' : a ≤ T.bs.length + 1 := by rw [← hl]; exact ha
    have hb2 : b ≤ T.bs.length + 1 := by rw [← hl]; exact hb'
    show (if a = T.bs.length + 1 then iN else ni a) = (if b = T.bs.length + 1 then iN else ni b) → a = b
    intro e
    by_cases ea : a = T.bs.length + 1
    · by_cases eb : b = T.bs.length + 1
      · omega
      · rw [if_pos ea, if_neg eb] at e; have := hni b (by omega); omega
    · by_cases eb : b = T.bs.length + 1
      · rw [if_neg ea, if_pos eb] at e; have := hni a (by omega); omega
      · rw [if_neg ea, if_neg eb] at e; exact h.inji a b (by omega) (by omega) e
  · have hj' : j ≤ T.bs.length + 1 := by rw [← hl]; exact hj
    show (if j = T.bs.length + 1 then iN else ni j) ≠ om
    split
    · have := h.ofm.lt; omega
    · exact h.omn j (by omega)
end
end Go.Proofs.YtmnmeaeicjhkhaaGreatDoor

namespace Go.Proofs.YtmnmeaeicjhkhaaGreatDoor
open Go.RowKit Go.Lib Go.Maps

theorem cell_at {w : World} {b : Nat} {cs : Array Value} {t : TypeId} {fr : Nat × Nat} (h : w.heap[b]? = some (.cells cs t fr)) (i : Nat) : w.cell? ⟨b, i, none⟩ = cs[i]? := by simp [World.cell?, h]

section
variable {lo : Nat} {w : World} {g N : Nat} {T : Tree} {nb ni : Nat → Nat} {om : Nat} {of : Int → Option Nat} {mv : Value} {num : Nat → Int}

theorem ImT.cellInner (h : ImT lo w g N T nb ni om of mv num) (j : Nat) (hj : j ≤ T.bs.length) : w.cell? ⟨nb j, 2, none⟩ = some (.map (some (ni j))) := by
  cases j with
  | zero => rw [cell_at h.ground]; rfl
  | succ i => rw [cell_at (h.node i (by omega))]; rfl

theorem ImT.cells (h : ImT lo w g N T nb ni om of mv num) (i : Nat) (hi : i < T.bs.length) :
    w.cell? ⟨nb (i + 1), 0, none⟩ = some (.int .i64 T.bs[i].fn) ∧ w.cell? ⟨nb (i + 1), 1, none⟩ = some (.pointer (some ⟨nb (T.bs[i].par + 1).toNat, 0, none⟩)) ∧ w.cell? ⟨nb (i + 1), 3, none⟩ = some (.int .i64 T.bs[i].calls) ∧
      w.cell? ⟨nb (i + 1), 4, none⟩ = some (.int .i64 T.bs[i].self) ∧ w.cell? ⟨nb (i + 1), 5, none⟩ = some (.int .i64 (num i)) ∧ ∀ o, w.frozen? ⟨nb (i + 1), o, none⟩ = false := by
  have hn := h.node i hi
  refine ⟨?_, ?_, ?_, ?_, ?_, fun o => frozen_of_row _ _ _ _ _ hn⟩ <;> rw [cell_at hn] <;> rfl

theorem ImT.tcells (h : ImT lo w g N T nb ni om of mv num) : w.cell? ⟨g, 0, none⟩ = some (.pointer (some ⟨nb 0, 0, none⟩)) ∧ w.cell? ⟨g, 1, none⟩ = some mv ∧ w.cell? ⟨g, 2, none⟩ = some (.map (some om)) ∧ ∀ o, w.frozen? ⟨g, o, none⟩ = false := by
  refine ⟨?_, ?_, ?_, fun o => frozen_of_row _ _ _ _ _ h.hg⟩ <;> rw [cell_at h.hg] <;> rfl
end

set_option maxHeartbeats 1000000 in
theorem branchOf_any {lo : Nat} {g N : Nat} {T : Tree} {nb ni : Nat → Nat} {om : Nat} {of : Int → Option Nat} {mv : Value} {num : Nat → Int} (l : List Fr) (p : Option Addr) (w : World) (h : ImT lo w g N T nb ni om of mv num) (hl : ListAt w l p)
    (hof : ∀ fr r, l = fr :: r → of fr.frm = some (nb (T.br fr.frm + 1)) ∧ (Lit.int .i64 fr.frm).wf = true) :
    Calls Tryz.prog 62 #[.pointer (some ⟨g, 0, none⟩), .pointer p] w fun e w' => e = .returned (.pointer (some ⟨nb (T.parOf l + 1).toNat, 0, none⟩)) ∧ Below w.heap.size w w' := by
  obtain ⟨c0, c1, c2, -⟩ := h.tcells
  cases l with
  | nil =>
    have e : p = none := hl
    subst e
    clear h hof hl
    go_enter Tryz.func62, Tryz.ntmps62
    go_wp2
    go_ret
    exact ⟨rfl, Below.refl _ _⟩
  | cons f r =>
    obtain ⟨b, p', rfl, h0, h1, h2, h3, h4, -⟩ := hl
    obtain ⟨ho, hw⟩ := hof f r rfl
    have hlook : ∀ n, (Instr.lookup 126 (.map (some om)) (.int .i64 f.frm) false).run Tryz.prog (w.drewN n) = .ok (ptrVal (some (nb (T.br f.frm + 1)))) (w.drewN n) := fun n => by
      rw [← ho]
      exact (h.ofm.of_block (w' := w.drewN n) (by simp)).look f.frm hw
    have e : (T.parOf (f :: r) + 1).toNat = T.br f.frm + 1 := by show ((T.br f.frm : Int) + 1).toNat = _; omega
    rw [e]
    generalize nb (T.br f.frm + 1) = bb at hlook ⊢
    unfold ptrVal at hlook
    simp only [Option.map_some] at hlook
    clear h hof ho hw e
    go_enter Tryz.func62, Tryz.ntmps62
    go_wp2
    go_quiet (fail)
    go_wp2
    go_ret
    exact ⟨rfl, below_drewN (Below.refl _ _) _⟩

theorem info_pb : (Tryz.prog.info? 125).map (fun i => (i.zero, i.size, i.bytes)) = some (some (.pointer none), 1, 8) := by kernel_rfl

theorem ImT.mono {lo : Nat} {w : World} {g N N' : Nat} {T : Tree} {nb ni : Nat → Nat} {om : Nat} {of : Int → Option Nat} {mv : Value} {num : Nat → Int} (h : ImT lo w g N T nb ni om of mv num) (hN : N ≤ N') : ImT lo w g N' T nb ni om of mv num :=
  ⟨h.hg, h.lg, h.lb, h.li, h.lm, h.met, h.ground, h.node, h.par, fun j hj => (h.inner j hj).mono hN, h.ofm.mono hN, h.injb, h.inji, h.omn⟩

theorem called_key (b : Br) : brKey b.called = brKey b := rfl

theorem parOf_nat {T : Tree} (l : List Fr) (hb : ∀ fr r, l = fr :: r → T.br fr.frm < T.bs.length) : (T.parOf l + 1).toNat ≤ T.bs.length ∧ (((T.parOf l + 1).toNat : Int) - 1) = T.parOf l := by
  cases l with
  | nil => exact ⟨by show ((-1 : Int) + 1).toNat ≤ _; omega, by show ((((-1 : Int) + 1).toNat : Nat) : Int) - 1 = -1; omega⟩
  | cons f r => have := hb f r rfl; exact ⟨by show ((T.br f.frm : Int) + 1).toNat ≤ _; omega, by show ((((T.br f.frm : Int) + 1).toNat : Nat) : Int) - 1 = (T.br f.frm : Int); omega⟩

/-- The program's tree, the blocks of its parts left unnamed: S: the Froms whose branches are laid down. -/
def TreeAt (lo : Nat) (W : World) (g N : Nat) (T : Tree) (S : Int → Prop) : Prop :=
  ∃ nb ni om of mv num, ImT lo W g N T nb ni om of mv num ∧ ∀ x, S x → of x = some (nb (T.br x + 1))

theorem TreeAt.below {lo : Nat} {W W' : World} {g N : Nat} {T : Tree} {S : Int → Prop} (h : TreeAt lo W g N T S) (hb : Below W.heap.size W W') : TreeAt lo W' g N T S := by
  obtain ⟨nb, ni, om, of, mv, num, h1, h2⟩ := h
  exact ⟨nb, ni, om, of, mv, num, h1.below hb, h2⟩

/-- Boxed moments stay as they are. -/
def KeepsM (w w' : World) : Prop := ∀ (b : Nat) (cs : Array Value) (fr : Nat × Nat), w.heap[b]? = some (Obj.cells cs 108 fr) → w'.heap[b]? = some (Obj.cells cs 108 fr)

theorem KeepsM.of_below {w w' : World} (h : Below w.heap.size w w') : KeepsM w w' := fun b cs fr hb => by rw [h.block b (heap_lt' hb)]; exact hb

theorem KeepsM.trans {a b c : World} (h : KeepsM a b) (k : KeepsM b c) : KeepsM a c := fun i cs fr hi => k i cs fr (h i cs fr hi)

theorem KeepsM.of_grown {w w' : World} {row : Option Nat} (h : w.grownBy w' row) (hn : ∀ b cs fr, w.heap[b]? = some (.cells cs 108 fr) → row ≠ some b) : KeepsM w w' := fun b cs fr hb => by
  rw [h.block b (heap_lt' hb) (fun e => hn b cs fr hb e.symm)]; exact hb

theorem KeepsM.of_set {w : World} {g o : Nat} {v : Value} (hn : ∀ cs fr, w.heap[g]? ≠ some (.cells cs 108 fr)) : KeepsM w (w.setCell ⟨g, o, none⟩ v) := fun b cs fr hb => by
  rw [heap_setCell_other _ _ _ _ (fun e => hn cs fr (by have e' : b = g := e; rw [← e']; exact hb))]; exact hb

set_option maxRecDepth 100000 in
set_option maxHeartbeats 4000000 in
theorem call_any {lo : Nat} {g N : Nat} {T : Tree} {S : Int → Prop} (frm fn : Int) (l : List Fr) (p : Option Addr) (w : World) (h : TreeAt lo w g N T S) (hl : ListAt w l p) (hlo : lo ≤ w.heap.size)
    (hS : ∀ fr r, l = fr :: r → S fr.frm ∧ -1 ≤ fr.frm ∧ fr.frm ≤ 4000) (hN : N ≤ 100000) (hT : T.bs.length ≤ 4000) (hbr : ∀ x, S x → T.br x < T.bs.length) (hsm : ∀ b, b ∈ T.bs → 0 ≤ b.calls ∧ b.calls ≤ 4000)
    (hf : 0 ≤ fn ∧ fn ≤ 4000) (hk : -1 ≤ frm ∧ frm ≤ 4000) :
    Calls Tryz.prog 61 #[.pointer (some ⟨g, 0, none⟩), .int .i64 frm, .int .i64 fn, .pointer p] w fun e w' => e = .returned (.tuple #[]) ∧ TreeAt lo w' g (N + 2) (T.call (T.parOf l) fn frm) (fun x => S x ∨ x = frm) ∧ Below lo w w' ∧ KeepsM w w' := by
  obtain ⟨nb, ni, om, of, mv, num, hi, ho⟩ := h
  obtain ⟨q, hq⟩ : ∃ q, q = (T.parOf l + 1).toNat := ⟨_, rfl⟩
  have hq2 := parOf_nat l (fun fr r e => hbr _ (hS fr r e).1)
  rw [← hq] at hq2
  have hwf : (Lit.int .i64 fn).wf = true := WalkArith.wf_i64 (by omega)
  have hwk : (Lit.int .i64 frm).wf = true := WalkArith.wf_i64 (by omega)
  have hbo := branchOf_any l p w hi hl (fun fr r e => ⟨ho _ (hS fr r e).1, WalkArith.wf_i64 (by have := hS fr r e; omega)⟩)
  rw [← hq] at hbo
  have HI := hide hi
  have HO := hide ho
  have HQ := hide hq
  have HBO := hide hbo
  clear hi ho hq hbo hl hS
  go_enter Tryz.func61, Tryz.ntmps61
  go_wp2_with fail
  refine (unhide HBO).mono ?_
  rintro e w1 ⟨rfl, hb1⟩
  have HI1 := hide ((unhide HI).below hb1)
  have HB1 := hide (hb1.mono hlo)
  have KP1 := hide (KeepsM.of_below hb1)
  have hs1 : w.heap.size ≤ w1.heap.size := hb1.size
  clear hb1 HI HBO
  have ci := (unhide HI1).cellInner q hq2.1
  have hlook := ((unhide HI1).inner q hq2.1).look fn hwf
  by_cases hfd : brFind T.bs ((q : Int) - 1) fn < T.bs.length
  · have hno : nodeOf T.bs nb q fn = some (nb (brFind T.bs ((q : Int) - 1) fn + 1)) := by unfold nodeOf; rw [if_pos hfd]
    rw [hno] at hlook
    unfold ptrVal at hlook
    simp only [Option.map_some] at hlook
    obtain ⟨i, hii⟩ : ∃ i, i = brFind T.bs ((q : Int) - 1) fn := ⟨_, rfl⟩
    rw [← hii] at hfd hlook
    obtain ⟨-, -, k3, -, -, kf⟩ := (unhide HI1).cells i hfd
    have kf3 := kf 3
    have hsm' := hsm _ (List.getElem_mem hfd)
    have wx : IntKind.i64.wrap (T.bs[i].calls + 1) = T.bs[i].calls + 1 := by rw [IntKind.wrap_i64]; omega
    have HI2 := hide ((unhide HI1).setNode i hfd Br.called (fun x => if x = frm then i else T.br x) num 3 (.int .i64 (T.bs[i].calls + 1)) called_key (fun _ _ => rfl) rfl)
    have HB2 := hide ((unhide HB1).setCell (p := ⟨nb (i + 1), 3, none⟩) ((unhide HI1).lb (i + 1) (by omega)) (.int .i64 (T.bs[i].calls + 1)))
    have KP2 : Hid (KeepsM w (w1.setCell ⟨nb (i + 1), 3, none⟩ (.int .i64 (T.bs[i].calls + 1)))) := hide ((unhide KP1).trans (KeepsM.of_set (fun cs fr e => by have h1 := (unhide HI1).node i hfd; rw [e] at h1; cases h1)))
    have HII := hide hii
    have HHH := hide (And.intro hT (And.intro hbr hsm))
    clear hno hii hT hbr hsm kf hsm'
    generalize T.bs[i].calls = cc at k3 wx HI2 HB2 KP2
    go_upto_region 7 with fail
    generalize w1.setCell ⟨nb (i + 1), 3, none⟩ (.int .i64 (cc + 1)) = W2 at HI2 HB2 KP2 ⊢
    obtain ⟨-, -, c2, -⟩ := (unhide HI2).tcells
    have hom : lo ≤ om := (unhide HI2).lm
    have h2s : lo ≤ W2.heap.size := Nat.le_trans hlo (unhide HB2).size
    clear hlook ci k3 kf3 wx HI1 HB1
    go_wp2_with (at_mapUpdate; refine wpList_ptr_store _ (by rfl) _ _ _ (by rfl) om N of (by rfl) (unhide HI2).ofm (by unfold maxLen; omega) frm hwk (some (nb (i + 1))) (by rfl) (by rfl) ?_; intro w3 hpm hgr)
    go_end0
    have HI3 := (unhide HI2).putOf hpm hgr
    refine ⟨rfl, ⟨nb, ni, om, fun y => if y = frm then some (nb (i + 1)) else of y, mv, num, ?_, fun x hx => ?_⟩, (unhide HB2).grown hgr h2s (fun k hk => by cases hk; exact hom), (unhide KP2).trans (KeepsM.of_grown hgr (fun b cs fr hb e => by obtain ⟨es, c, h2⟩ := (unhide HI2).ofm.isMap; cases e; rw [h2] at hb; cases hb))⟩
    · have e : T.call (T.parOf l) fn frm = ⟨T.bs.modify i Br.called, fun x => if x = frm then i else T.br x⟩ := by
        unfold Tree.call brMake
        rw [← hq2.2, ← unhide HII, if_pos hfd]
      rw [e]
      exact HI3.mono (by omega)
    · have e : (T.call (T.parOf l) fn frm).br x = if x = frm then i else T.br x := by
        unfold Tree.call
        rw [← hq2.2, ← unhide HII]
      rw [e]
      dsimp only
      by_cases ex : x = frm
      · rw [if_pos ex, if_pos ex]
      · rw [if_neg ex, if_neg ex]
        rcases hx with hx | hx
        · exact unhide HO x hx
        · exact absurd hx ex
  · have hno : nodeOf T.bs nb q fn = none := by unfold nodeOf; rw [if_neg hfd]
    rw [hno] at hlook
    unfold ptrVal at hlook
    simp only [Option.map_none] at hlook
    have hmm := @run_makeMap Tryz.prog
    have HFD := hide hfd
    have HHH := hide (And.intro hT (And.intro hbr hsm))
    clear hfd hno hsm hbr
    obtain ⟨Wa, hWa⟩ : ∃ Wa, Wa = w1.alloc (.map #[] 0) := ⟨_, rfl⟩
    have sa : Wa.heap.size = w1.heap.size + 1 := by rw [hWa]; simp
    have ba : Below w1.heap.size w1 Wa := by rw [hWa]; exact below_new _ _
    have pa : PtrMap Wa w1.heap.size 0 (fun _ => none) := by rw [hWa]; exact PtrMap.made w1
    obtain ⟨Wb, hWb⟩ : ∃ Wb, Wb = Wa.alloc (.cells (branchCells ⟨fn, (q : Int) - 1, 0, 0⟩ (nb q) w1.heap.size 0) 128) := ⟨_, rfl⟩
    have sb : Wb.heap.size = w1.heap.size + 1 + 1 := by rw [hWb]; simp [sa]
    have bb : Below Wa.heap.size Wa Wb := by rw [hWb]; exact below_new _ _
    have pb : PtrMap Wb w1.heap.size 0 (fun _ => none) := pa.of_block (bb.block _ (by omega))
    have nbk : Wb.heap[w1.heap.size + 1]? = some (.cells (branchCells ⟨fn, (q : Int) - 1, 0, 0⟩ (nb q) w1.heap.size 0) 128 (0, 0)) := by rw [hWb, ← sa]; exact heap_alloc_new Wa _
    have b1b : Below w1.heap.size w1 Wb := ba.trans (bb.mono (by omega))
    have HIb := hide ((unhide HI1).below b1b)
    have HNB := hide (And.intro pb nbk)
    have HSB := hide (And.intro sb b1b)
    have h1s : lo ≤ w1.heap.size := Nat.le_trans hlo hs1
    have HBb := hide ((unhide HB1).trans (b1b.mono h1s))
    unfold branchCells at hWb
    clear pa pb nbk bb ba b1b
    go_upto_region 4 with fail
    rw [← hWa, ← hWb]
    clear hWa hWb hlook ci
    have ci := (unhide HIb).cellInner q hq2.1
    obtain ⟨va, vn, vc, hmv⟩ : ∃ va vn vc, mv = .slice va vn vc := by
      rcases (unhide HIb).met.2 with ⟨e, _⟩ | ⟨g', cap', cur, e, _⟩
      · exact ⟨_, _, _, e⟩
      · exact ⟨_, _, _, e⟩
    subst hmv
    go_upto_region 5 with (at_mapUpdate; refine wpList_ptr_store _ (by rfl) _ _ _ (by rfl) (ni q) N (nodeOf T.bs nb q) (by rfl) ((unhide HIb).inner q hq2.1) (by unfold maxLen; omega) fn hwf (some (w1.heap.size + 1)) (by rfl) (by rfl) ?_; intro Wc hpc hgc; have HPC := hide hpc; have HGC := hide hgc; clear hpc hgc)
    clear ci hmm
    have sC : Wb.heap.size ≤ Wc.heap.size := (unhide HGC).size
    have hgn : some g ≠ some (ni q) := fun e => (unhide HIb).i_ne_g q hq2.1 (Option.some.inj e).symm
    have hgc : Wc.heap[g]? = some (.cells #[.pointer (some ⟨nb 0, 0, none⟩), .slice va vn vc, .map (some om)] 201 (0, 0)) := by rw [(unhide HGC).block g (heap_lt' (unhide HIb).hg) hgn]; exact (unhide HIb).hg
    have c1c : Wc.cell? ⟨g, 1, none⟩ = some (.slice va vn vc) := by rw [cell_at hgc]; rfl
    have HMC : Hid (Wc.ownsRow lo 125 1 (.slice va vn vc) T.bs.length ((List.range T.bs.length).map fun i => .pointer (some ⟨nb (i + 1), 0, none⟩))) := hide ((unhide HIb).met.kept (unhide HGC) (.inr (fun e => (unhide HIb).m_ne_map ((unhide HIb).inner q hq2.1).isMap e)))
    have HBc := hide ((unhide HBb).grown (unhide HGC) (by have := (unhide HSB).1; omega) (fun k hk => by cases hk; exact (unhide HIb).li q hq2.1))
    have HGCell := hide hgc
    have hsb := (unhide HSB).1
    obtain ⟨i0, hi0, hz0, hz1, hz2⟩ := info_parts info_pb
    have II := hide (And.intro hi0 (And.intro hz0 (And.intro hz1 hz2))); clear hi0 hz0 hz1 hz2 hgc
    have HA := hide (owns_below (unhide HMC) (below_new Wc (.cells #[.pointer (some ⟨w1.heap.size + 1, 0, none⟩)] 125)))
    have HNW : Hid (∀ j u, ([.pointer (some ⟨w1.heap.size + 1, 0, none⟩)] : List Value)[j]? = some u → (Wc.alloc (.cells #[.pointer (some ⟨w1.heap.size + 1, 0, none⟩)] 125)).cell? ((⟨Wc.heap.size, 0, none⟩ : Addr).add j) = some u) :=
      hide (World.news_of_block (cs := #[.pointer (some ⟨w1.heap.size + 1, 0, none⟩)]) (t := 125) (fr := (0, 0)) (heap_alloc_new Wc _))
    have hgm : (Value.slice va vn vc).ownBlock ≠ some g := (unhide HIb).m_ne_g
    have hgl : g < Wc.heap.size := heap_lt' (unhide HGCell)
    have HGM := hide (And.intro hgm hgl)
    clear hgm hgl hsb
    go_upto_region 6 with (at_builtin; refine wpList_append_lies _ (by rfl) _ _ _ (by rfl) lo 125 i0 _ 1 8 Tryz.underlying199 (unhide II).1 (unhide II).2.1 (unhide II).2.2.1 (unhide II).2.2.2 rfl (by omega) (.slice va vn vc) T.bs.length _ (by rfl) (unhide HA) ⟨Wc.heap.size, 0, none⟩ 1 1 [.pointer (some ⟨w1.heap.size + 1, 0, none⟩)] (by rfl) (by rfl) (unhide HNW) (by simp [Value.oneCell']) (by omega) (by unfold maxLen; omega) (by omega) (by have := (unhide HSB).1; simp; omega) (Wc.heap.size + 1) (by simp) ?_; intro g2 cp2 w7 hown hgrow _ _; have HO7 := hide hown; have HG7 := hide hgrow; have kg7 : w7.heap[g]? = some (.cells #[.pointer (some ⟨nb 0, 0, none⟩), .slice va vn vc, .map (some om)] 201 (0, 0)) := (by rw [hgrow.block g (by have := (unhide HGM).2; simp; omega) (fun e => (unhide HGM).1 e.symm), Below.heap_alloc _ _ _ (unhide HGM).2]; exact unhide HGCell); have KG7 := hide kg7; have c7 : w7.cell? ⟨g, 1, none⟩ = some (.slice va vn vc) := (by rw [cell_at kg7]; rfl); have f7 : w7.frozen? ⟨g, 1, none⟩ = false := frozen_of_row _ _ _ _ _ kg7; clear hown hgrow kg7)
    have hI1 := unhide HI1
    obtain ⟨We, hWe⟩ : ∃ We, We = w7.setCell ⟨g, 1, none⟩ (.slice (some ⟨g2, 0, none⟩) (T.bs.length + 1) cp2) := ⟨_, rfl⟩
    rw [← hWe]
    have hch : ∀ b, b < Wc.heap.size → b ≠ g → (Value.slice va vn vc).ownBlock ≠ some b → We.heap[b]? = Wc.heap[b]? := fun b hb h1 h2 => by
      rw [hWe, heap_setCell_other _ _ _ _ h1, (unhide HG7).block b (by simp; omega) (fun e => h2 e.symm), Below.heap_alloc _ _ _ hb]
    have hcb : ∀ b, b < Wb.heap.size → b ≠ ni q → Wc.heap[b]? = Wb.heap[b]? := fun b hb h1 => (unhide HGC).block b hb (fun e => h1 (Option.some.inj e))
    have hsb := (unhide HSB).1
    have hg1 : g < w1.heap.size := heap_lt' hI1.hg
    have hq1 : ni q < w1.heap.size := (hI1.inner q hq2.1).lt
    have hm1 : ∀ b, w1.heap.size ≤ b → (Value.slice va vn vc).ownBlock ≠ some b := fun b hb e => by have := (hI1.met.lt b e).2; omega
    have hg2 : (Value.slice (some ⟨g2, 0, none⟩) (T.bs.length + 1) cp2).ownBlock ≠ some g := fun e => by
      obtain ⟨_, cs, fr, h1⟩ := owns_typed (unhide HO7) g e
      have h2 := unhide KG7
      rw [h1] at h2; cases h2
    have HIe := hI1.addNode q hq2.1 fn (unhide HFD) (w1.heap.size + 1) w1.heap.size (.slice (some ⟨g2, 0, none⟩) (T.bs.length + 1) cp2) T.br (W' := We) (by omega) (Nat.le_refl _) h1s
      (fun b hb h1 h2 h3 => by rw [hch b (by omega) h2 h3, hcb b (by omega) h1, (unhide HSB).2.block b hb])
      (by rw [hWe]; exact heap_setCell_same _ _ _ _ _ _ (unhide KG7))
      (by rw [hWe]; exact owns_setCell (unhide HO7) hg2)
      (by rw [hch _ (by omega) (by omega) (hm1 _ (by omega)), hcb _ (by omega) (by omega)]; exact (unhide HNB).2)
      (((unhide HNB).1.of_block (by rw [hch _ (by omega) (by omega) (hm1 _ (by omega)), hcb _ (by omega) (by omega)])).mono (by omega))
      ((unhide HPC).of_block (hch _ (by omega) (hI1.i_ne_g q hq2.1) (hI1.m_ne_map (hI1.inner q hq2.1).isMap)))
    have HBe := hide (((((unhide HBc).alloc (by omega) (.cells #[.pointer (some ⟨w1.heap.size + 1, 0, none⟩)] 125)).grown (unhide HG7) (by simp; omega) (fun k hk => (hI1.met.lt k hk).1)).setCell (p := ⟨g, 1, none⟩) hI1.lg (.slice (some ⟨g2, 0, none⟩) (T.bs.length + 1) cp2)))
    rw [← hWe] at HBe
    have KPe : Hid (KeepsM w We) := hide ((unhide KP1).trans (fun b cs fr hb => by
      have hbl := heap_lt' hb
      rw [hch b (by omega) (fun e => by have h2 := hI1.hg; rw [← e, hb] at h2; cases h2) (fun e => by obtain ⟨_, cs', fr', h2⟩ := owns_typed hI1.met b e; rw [hb] at h2; cases h2), hcb b (by omega) (fun e => by obtain ⟨es, c, h2⟩ := (hI1.inner q hq2.1).isMap; rw [← e, hb] at h2; cases h2), (unhide HSB).2.block b hbl]
      exact hb))
    have hlen : T.bs.length < (T.bs ++ [(⟨fn, (q : Int) - 1, 0, 0⟩ : Br)]).length := by simp
    have hat : (T.bs ++ [(⟨fn, (q : Int) - 1, 0, 0⟩ : Br)])[T.bs.length] = ⟨fn, (q : Int) - 1, 0, 0⟩ := by simp
    obtain ⟨-, -, k3, -, -, kf⟩ := HIe.cells T.bs.length hlen
    have kf3 := kf 3
    simp only [if_pos] at k3 kf3
    have HI2 := HIe.setNode T.bs.length hlen Br.called (fun x => if x = frm then T.bs.length else T.br x) (fun i => if i = T.bs.length then 0 else num i) 3 (.int .i64 1) called_key (fun _ _ => rfl) (by simp only [hat]; rfl)
    simp only [if_pos] at HI2
    rw [hat] at k3
    simp only at k3
    have HJ2 := hide HI2
    have HB2 := hide ((unhide HBe).setCell (p := ⟨w1.heap.size + 1, 3, none⟩) (by show lo ≤ w1.heap.size + 1; omega) (.int .i64 1))
    have KP2 : Hid (KeepsM w (We.setCell ⟨w1.heap.size + 1, 3, none⟩ (.int .i64 1))) := hide ((unhide KPe).trans (KeepsM.of_set (fun cs fr e => by
      have h1 := HIe.node T.bs.length hlen
      simp only [if_pos] at h1
      rw [e] at h1; cases h1)))
    clear HI2 HIe hWe hch hcb hsb hg1 hq1 hm1 hg2 hat kf hI1 c1c c7 f7 HO7 HG7 KG7 HGM HGCell HPC HGC HNB HSB HIb HI1 HB1 HBb HBc HA HNW HMC II HBe
    go_upto_region 7 with fail
    generalize We.setCell ⟨w1.heap.size + 1, 3, none⟩ (.int .i64 1) = W2 at HJ2 HB2 KP2 ⊢
    obtain ⟨-, -, c2, -⟩ := (unhide HJ2).tcells
    have hom : lo ≤ om := (unhide HJ2).lm
    have h2s : lo ≤ W2.heap.size := Nat.le_trans hlo (unhide HB2).size
    clear k3 kf3
    go_wp2_with (at_mapUpdate; refine wpList_ptr_store _ (by rfl) _ _ _ (by rfl) om (N + 1) of (by rfl) (unhide HJ2).ofm (by unfold maxLen; omega) frm hwk (some (w1.heap.size + 1)) (by rfl) (by rfl) ?_; intro w3 hpm hgr)
    go_end0
    have HI3 := (unhide HJ2).putOf hpm hgr
    have hfi : brFind T.bs (T.parOf l) fn = T.bs.length := by
      have h1 := unhide HFD
      have h2 := brFind_le T.bs ((q : Int) - 1) fn
      rw [hq2.2] at h1 h2
      omega
    refine ⟨rfl, ⟨fun j => if j = T.bs.length + 1 then w1.heap.size + 1 else nb j, fun j => if j = T.bs.length + 1 then w1.heap.size else ni j, om, fun y => if y = frm then some (w1.heap.size + 1) else of y, .slice (some ⟨g2, 0, none⟩) (T.bs.length + 1) cp2, fun i => if i = T.bs.length then 0 else num i, ?_, fun x hx => ?_⟩, (unhide HB2).grown hgr h2s (fun k hk => by cases hk; exact hom), (unhide KP2).trans (KeepsM.of_grown hgr (fun b cs fr hb e => by obtain ⟨es, c, h2⟩ := (unhide HJ2).ofm.isMap; cases e; rw [h2] at hb; cases hb))⟩
    · have e : T.call (T.parOf l) fn frm = ⟨(T.bs ++ [(⟨fn, (q : Int) - 1, 0, 0⟩ : Br)]).modify T.bs.length Br.called, fun x => if x = frm then T.bs.length else T.br x⟩ := by
        unfold Tree.call brMake
        rw [hfi, if_neg (Nat.lt_irrefl _), hq2.2]
      rw [e]
      exact HI3
    · have e : (T.call (T.parOf l) fn frm).br x = if x = frm then T.bs.length else T.br x := by
        unfold Tree.call
        rw [hfi]
      rw [e]
      dsimp only
      by_cases ex : x = frm
      · rw [if_pos ex, if_pos ex, if_pos rfl]
      · rw [if_neg ex, if_neg ex]
        rcases hx with hx | hx
        · have hb := (unhide HHH).2.1 x hx
          rw [if_neg (by omega)]
          exact unhide HO x hx
        · exact absurd hx ex
end Go.Proofs.YtmnmeaeicjhkhaaGreatDoor

namespace Go.Proofs.YtmnmeaeicjhkhaaGreatDoor
open Go.RowKit Go.Lib Go.Maps

theorem TreeAt.mono {lo : Nat} {W : World} {g N N' : Nat} {T : Tree} {S S' : Int → Prop} (h : TreeAt lo W g N T S) (hN : N ≤ N') (hS : ∀ x, S' x → S x) : TreeAt lo W g N' T S' := by
  obtain ⟨nb, ni, om, of, mv, num, h1, h2⟩ := h
  exact ⟨nb, ni, om, of, mv, num, h1.mono hN, fun x hx => h2 x (hS x hx)⟩

/-- The tree of no branches. -/
def Tree.none : Tree := ⟨[], fun _ => 0⟩

theorem none_call : Tree.none.call (-1) 0 (-1) = Tree.init := by
  unfold Tree.none Tree.call Tree.init brMake brFind
  simp [Br.called, List.modify_zero_cons]

theorem none_at (w : World) : ImT w.heap.size ((((w.alloc (.map #[] 0)).alloc (.cells #[.int .i64 0, .pointer none, .map (some w.heap.size), .int .i64 0, .int .i64 0, .int .i64 (-1)] 128)).alloc (.map #[] 0)).alloc (.cells #[.pointer (some ⟨w.heap.size + 1, 0, none⟩), .slice none 0 0, .map (some (w.heap.size + 1 + 1))] 201))
    (w.heap.size + 1 + 1 + 1) 0 Tree.none (fun _ => w.heap.size + 1) (fun _ => w.heap.size) (w.heap.size + 1 + 1) (fun _ => none) (.slice none 0 0) (fun _ => 0) := by
  obtain ⟨A, hA⟩ : ∃ A, A = w.alloc (.map #[] 0) := ⟨_, rfl⟩
  have sA : A.heap.size = w.heap.size + 1 := by rw [hA]; simp
  have pA : PtrMap A w.heap.size 0 (fun _ => none) := by rw [hA]; exact PtrMap.made w
  rw [← hA]
  obtain ⟨B, hB⟩ : ∃ B, B = A.alloc (.cells #[.int .i64 0, .pointer none, .map (some w.heap.size), .int .i64 0, .int .i64 0, .int .i64 (-1)] 128) := ⟨_, rfl⟩
  have sB : B.heap.size = w.heap.size + 1 + 1 := by rw [hB]; simp [sA]
  have bB : Below A.heap.size A B := by rw [hB]; exact below_new _ _
  have kB : B.heap[w.heap.size + 1]? = some (.cells #[.int .i64 0, .pointer none, .map (some w.heap.size), .int .i64 0, .int .i64 0, .int .i64 (-1)] 128 (0, 0)) := by rw [hB, ← sA]; exact heap_alloc_new A _
  rw [← hB]
  obtain ⟨C, hC⟩ : ∃ C, C = B.alloc (.map #[] 0) := ⟨_, rfl⟩
  have sC : C.heap.size = w.heap.size + 1 + 1 + 1 := by rw [hC]; simp [sB]
  have bC : Below B.heap.size B C := by rw [hC]; exact below_new _ _
  have pC : PtrMap C (w.heap.size + 1 + 1) 0 (fun _ => none) := by rw [hC, ← sB]; exact PtrMap.made B
  rw [← hC]
  obtain ⟨D, hD⟩ : ∃ D, D = C.alloc (.cells #[.pointer (some ⟨w.heap.size + 1, 0, none⟩), .slice none 0 0, .map (some (w.heap.size + 1 + 1))] 201) := ⟨_, rfl⟩
  have bD : Below C.heap.size C D := by rw [hD]; exact below_new _ _
  have kD : D.heap[w.heap.size + 1 + 1 + 1]? = some (.cells #[.pointer (some ⟨w.heap.size + 1, 0, none⟩), .slice none 0 0, .map (some (w.heap.size + 1 + 1))] 201 (0, 0)) := by rw [hD, ← sC]; exact heap_alloc_new C _
  rw [← hD]
  have z : Tree.none.bs.length = 0 := rfl
  refine ⟨kD, by omega, fun _ _ => by omega, fun _ _ => by omega, by omega, World.ownsRow_nil _ _ _ _, ?_, fun i hi => absurd hi (Nat.not_lt_zero _), fun i hi => absurd hi (Nat.not_lt_zero _), fun j hj => ?_, ?_, fun i j hi hj _ => by omega, fun i j hi hj _ => by omega, fun j _ => by omega⟩
  · rw [bD.block _ (by omega), bC.block _ (by omega)]; exact kB
  · exact (pA.of_block (by rw [bD.block _ (by omega), bC.block _ (by omega), bB.block _ (by omega)])).congr (fun x => by unfold nodeOf; rw [if_neg (by omega)])
  · exact pC.of_block (bD.block _ (by omega))

set_option maxRecDepth 100000 in
set_option maxHeartbeats 1000000 in
theorem newTree_any (w : World) : Calls Tryz.prog 60 #[] w fun e w' => (∃ g, e = .returned (.pointer (some ⟨g, 0, none⟩)) ∧ TreeAt w.heap.size w' g 2 Tree.init (fun x => x = -1)) ∧ Below w.heap.size w w' := by
  have HT := hide (none_at w)
  have HB : Hid (Below w.heap.size w ((((w.alloc (.map #[] 0)).alloc (.cells #[.int .i64 0, .pointer none, .map (some w.heap.size), .int .i64 0, .int .i64 0, .int .i64 (-1)] 128)).alloc (.map #[] 0)).alloc (.cells #[.pointer (some ⟨w.heap.size + 1, 0, none⟩), .slice none 0 0, .map (some (w.heap.size + 1 + 1))] 201))) :=
    hide (((((Below.refl _ _).alloc (Nat.le_refl _) _).alloc (by simp) _).alloc (by simp; omega) _).alloc (by simp; omega) _)
  have hmm := @run_makeMap Tryz.prog
  go_enter Tryz.func60, Tryz.ntmps60
  go_upto_region 2 with fail
  generalize (((w.alloc (.map #[] 0)).alloc (.cells #[.int .i64 0, .pointer none, .map (some w.heap.size), .int .i64 0, .int .i64 0, .int .i64 (-1)] 128)).alloc (.map #[] 0)).alloc (.cells #[.pointer (some ⟨w.heap.size + 1, 0, none⟩), .slice none 0 0, .map (some (w.heap.size + 1 + 1))] 201) = W at HT HB ⊢
  clear hmm
  go_wp2_with fail
  refine (call_any (lo := w.heap.size) (N := 0) (T := Tree.none) (S := fun _ => False) (-1) 0 [] none W ⟨_, _, _, _, _, _, unhide HT, fun x hx => hx.elim⟩ rfl (unhide HB).size (fun fr r e => by cases e) (by omega) (by decide) (fun x hx => hx.elim) (fun b hb => by cases hb) (by omega) (by omega)).mono ?_
  rintro e w1 ⟨rfl, ht, hb, -⟩
  have HT1 := hide ht
  have HB1 := hide ((unhide HB).trans hb)
  clear ht hb HT HB
  go_wp2_with fail
  go_ret
  refine ⟨⟨_, rfl, ?_⟩, unhide HB1⟩
  have h := unhide HT1
  rw [show Tree.none.parOf [] = -1 from rfl, none_call] at h
  exact h.mono (by omega) (fun x hx => .inr hx)
end Go.Proofs.YtmnmeaeicjhkhaaGreatDoor

namespace Go.Proofs.YtmnmeaeicjhkhaaGreatDoor
open Go.RowKit Go.Lib Go.Maps

section
variable {lo : Nat} {w W W' : World} {g N : Nat} {T : Tree} {nb ni : Nat → Nat} {om : Nat} {of : Int → Option Nat} {mv : Value} {num : Nat → Int}

/-- All blocks of the tree lie below B. -/
structure Blocks (B g : Nat) (T : Tree) (nb ni : Nat → Nat) (om : Nat) (mv : Value) : Prop where
  g : g < B
  b : ∀ j, j ≤ T.bs.length → nb j < B
  i : ∀ j, j ≤ T.bs.length → ni j < B
  o : om < B
  m : ∀ b, mv.ownBlock = some b → b < B

theorem ImT.blocks (h : ImT lo w g N T nb ni om of mv num) : Blocks w.heap.size g T nb ni om mv :=
  ⟨heap_lt' h.hg, fun j hj => by obtain ⟨cs, hc⟩ := h.nodeAny j hj; exact heap_lt' hc, fun j hj => (h.inner j hj).lt, h.ofm.lt, fun b hb => (h.met.lt b hb).2⟩

theorem ImT.keep (h : ImT lo W g N T nb ni om of mv num) {B : Nat} (bl : Blocks B g T nb ni om mv) (hb : ∀ b, b < B → W'.heap[b]? = W.heap[b]?) : ImT lo W' g N T nb ni om of mv num := by
  refine ⟨by rw [hb g bl.g]; exact h.hg, h.lg, h.lb, h.li, h.lm, ?_, by rw [hb _ (bl.b 0 (by omega))]; exact h.ground, fun i hi => by rw [hb _ (bl.b (i + 1) (by omega))]; exact h.node i hi, h.par, fun j hj => (h.inner j hj).of_block (hb _ (bl.i j hj)), h.ofm.of_block (hb _ bl.o), h.injb, h.inji, h.omn⟩
  refine ⟨h.met.1, ?_⟩
  rcases h.met.2 with h1 | ⟨g', cap, cur, e, h2, h3, h4⟩
  · exact .inl h1
  · exact .inr ⟨g', cap, cur, e, h2, by rw [hb g' (bl.m g' (by rw [e]; rfl))]; exact h3, h4⟩

/-- The number of branch i is told. -/
theorem ImT.told (h : ImT lo W g N T nb ni om of mv num) (i : Nat) (hi : i < T.bs.length) : ImT lo (W.setCell ⟨nb (i + 1), 5, none⟩ (.int .i64 i)) g N T nb ni om of mv (fun j => if j = i then (i : Int) else num j) := by
  have e : T.bs.modify i id = T.bs := List.modify_id i T.bs
  have h2 := h.setNode i hi id T.br (fun j => if j = i then (i : Int) else num j) 5 (.int .i64 i) (fun _ => rfl) (fun j hj => if_neg hj) (by rw [if_pos rfl]; rfl)
  rw [e] at h2
  exact h2

/-- What the parent's number reads as once those ahead are told. -/
theorem ImT.parNum (h : ImT lo W g N T nb ni om of mv num) (i : Nat) (hi : i < T.bs.length) (hn : ∀ j, j < i → num j = (j : Int)) : W.cell? ⟨nb (T.bs[i].par + 1).toNat, 5, none⟩ = some (.int .i64 T.bs[i].par) := by
  obtain ⟨p1, p2⟩ := h.par i hi
  by_cases e : T.bs[i].par = -1
  · rw [e]
    show W.cell? ⟨nb 0, 5, none⟩ = _
    rw [cell_at h.ground]; rfl
  · obtain ⟨j, hj⟩ := Int.eq_ofNat_of_zero_le (show 0 ≤ T.bs[i].par by omega)
    have e2 : (T.bs[i].par + 1).toNat = j + 1 := by omega
    rw [e2, hj]
    obtain ⟨-, -, -, -, k5, -⟩ := h.cells j (by omega)
    rw [k5, hn j (by omega)]
end

theorem brCells_take (bs : List Br) (k : Nat) (hk : k < bs.length) : brCells (bs.take (k + 1)) = brCells (bs.take k) ++ [.int .i64 bs[k].fn, .int .i64 bs[k].par, .int .i64 bs[k].calls, .int .i64 bs[k].self] := by
  rw [List.take_succ_eq_append_getElem hk, brCells_app]
  rfl

set_option maxRecDepth 100000 in
set_option maxHeartbeats 4000000 in
theorem list_any {lo : Nat} {g N : Nat} {T : Tree} {S : Int → Prop} (w : World) (h : TreeAt lo w g N T S) (hlo : lo ≤ w.heap.size) (hT : T.bs.length ≤ 4000) :
    Calls Tryz.prog 63 #[.pointer (some ⟨g, 0, none⟩)] w fun e w' => (∃ v, e = .returned v ∧ w'.ownsRow w.heap.size 203 4 v T.bs.length (brCells T.bs)) ∧ Below lo w w' := by
  obtain ⟨nb, ni, om, of, mv, num, hi, -⟩ := h
  obtain ⟨va, vc, hmv⟩ : ∃ va vc, mv = .slice va T.bs.length vc := by
    rcases hi.met.2 with ⟨e, e2⟩ | ⟨g', cap', cur, e, _⟩
    · exact ⟨none, 0, by rw [e, e2]⟩
    · exact ⟨_, _, e⟩
  subst hmv
  have BL := hide hi.blocks
  have HI := hide hi
  obtain ⟨-, c1, -, -⟩ := hi.tcells
  obtain ⟨n, hn⟩ : ∃ n, n = T.bs.length := ⟨_, rfl⟩
  rw [← hn] at c1 hT
  obtain ⟨mc, hmc⟩ : ∃ mc, mc = madeCells #[.int .i64 0, .int .i64 0, .int .i64 0, .int .i64 0] (n * 4) := ⟨_, rfl⟩
  obtain ⟨i0, hi0, hz0, hz1, hz2⟩ := info_parts info_Branch
  have hmk : ∀ w, (Instr.makeSlice 53 (.int .i64 0) (.int .i64 n)).run Tryz.prog w = .ok (.slice (some ⟨w.heap.size, 0, none⟩) 0 n) (w.alloc (.cells mc 203)) := fun w => by
    have hr := run_make (P := Tryz.prog) w 53 203 i0 _ Tryz.underlying53 hi0 hz0 .i64 .i64 0 n (by omega) (by omega) (by rw [hz2]; omega) (by omega)
    rw [hmc, hr, hz1]
    simp
    rfl
  have H0 : Hid ((w.alloc (.cells mc 203)).ownsRow w.heap.size 203 4 (.slice (some ⟨w.heap.size, 0, none⟩) 0 n) 0 []) := hide (World.ownsRow_made w mc n (Nat.le_refl _) (by unfold maxLen; omega) (by rw [hmc, size_madeCells]))
  have II := hide (And.intro hi0 (And.intro hz0 (And.intro hz1 hz2)))
  have HN := hide hn
  have c1' : (w.alloc (.cells mc 203)).cell? ⟨g, 1, none⟩ = some (.slice va n vc) := cell_below (below_new _ _) c1
  clear hi hmc hi0 hz0 hz1 hz2 hn
  go_enter Tryz.func63, Tryz.ntmps63
  go_wp2_with fail
  go_loopw [3, 17] (fun v i W => ∃ (k : Nat) (num' : Nat → Int), k ≤ n ∧ i = .int .i64 k ∧ ImT lo W g N T nb ni om of (.slice va T.bs.length vc) num' ∧ (∀ j, j < k → num' j = (j : Int)) ∧ W.ownsRow w.heap.size 203 4 v k (brCells (T.bs.take k)) ∧ (∃ a m c, v = .slice a m c) ∧ Below lo w W ∧ w.heap.size ≤ W.heap.size) (fun _ i _ => n - (intOf i).toNat)
  case atStart => exact ⟨0, num, by omega, rfl, (unhide HI).below (below_new _ _), fun j hj => absurd hj (Nat.not_lt_zero _), unhide H0, ⟨_, _, _, rfl⟩, (below_new _ _).mono hlo, by simp⟩
  case round =>
    clear HI H0 c1 c1' hmk
    obtain ⟨k, num', hk, rfl, hi, hnum, hown, ⟨ta, tm, tc, rfl⟩, hb, hsz⟩ := hrel
    have HI := hide hi
    have HNUM := hide hnum
    have HOW := hide hown
    have HB := hide hb
    clear hnum hown hb
    by_cases hlt : k < n
    · have hlt' : k < T.bs.length := by have := unhide HN; omega
      obtain ⟨mb, hmb, hmc⟩ : ∃ mb, va = some ⟨mb, 0, none⟩ ∧ wr.cell? ⟨mb, k, none⟩ = some (.pointer (some ⟨nb (k + 1), 0, none⟩)) := by
        obtain ⟨mb, cap', e, -, -⟩ := hi.met.form (by omega)
        injection e with e1 e2 e3
        subst e1 e3
        refine ⟨mb, rfl, ?_⟩
        have := owns_cell hi.met k (.pointer (some ⟨nb (k + 1), 0, none⟩)) (by rw [List.getElem?_map, List.getElem?_range hlt']; rfl)
        exact this.1
      subst hmb
      obtain ⟨-, -, -, -, k5, kf⟩ := hi.cells k hlt'
      have kf5 := kf 5
      have HI1 := hide (hi.told k hlt')
      have HOW1 : Hid ((wr.setCell ⟨nb (k + 1), 5, none⟩ (.int .i64 k)).ownsRow w.heap.size 203 4 (.slice ta tm tc) k (brCells (T.bs.take k))) := hide (owns_setCell (unhide HOW) (fun e => by have h1 : w.heap.size ≤ nb (k + 1) := ((unhide HOW).lt _ e).1; have := (unhide BL).b (k + 1) (by omega); omega))
      have HB1 := hide ((unhide HB).setCell (p := ⟨nb (k + 1), 5, none⟩) (hi.lb (k + 1) (by omega)) (.int .i64 k))
      have hk0 : (0 : Int) ≤ (k : Int) := by omega
      have hk1 : (k : Int) < (n : Int) := by omega
      clear hi kf
      go_upto_region 6 with fail
      have hsz1 : w.heap.size ≤ (wr.setCell ⟨nb (k + 1), 5, none⟩ (.int .i64 k)).heap.size := by simp; exact hsz
      generalize wr.setCell ⟨nb (k + 1), 5, none⟩ (.int .i64 k) = W1 at HI1 HOW1 HB1 hsz1 ⊢
      have hp5 := (unhide HI1).parNum k hlt' (fun j hj => by rw [if_neg (by omega)]; exact unhide HNUM j hj)
      obtain ⟨q0, q1, q3, q4, -, -⟩ := (unhide HI1).cells k hlt'
      have HTK := hide (brCells_take T.bs k hlt')
      have bk1 := (unhide BL).b (k + 1) (by omega)
      have bp1 := (unhide BL).b (T.bs[k].par + 1).toNat (by have := (unhide HI1).par k hlt'; omega)
      generalize T.bs[k].fn = x0 at q0 HTK
      generalize T.bs[k].calls = x2 at q3 HTK
      generalize T.bs[k].self = x3 at q4 HTK
      generalize nb (T.bs[k].par + 1).toNat = bp at hp5 q1 bp1
      generalize T.bs[k].par = x1 at hp5 HTK
      generalize hbk : nb (k + 1) = bk at q0 q1 q3 q4 bk1 ⊢
      clear hbk hmc k5 kf5 HI HOW HB hsz
      have HB0 : Hid (Below W1.heap.size W1 (W1.alloc (.cells #[.int .i64 x0, .int .i64 x1, .int .i64 x2, .int .i64 x3] 203)).drew) := hide ((Below.refl _ _).alloc (Nat.le_refl _) _).drew
      obtain ⟨hta, htm⟩ : tm = k ∧ True := by
        refine ⟨?_, trivial⟩
        rcases (unhide HOW1).2 with ⟨e, e2⟩ | ⟨g', cap', cur, e, _⟩
        · injection e; omega
        · injection e
      subst hta
      refine wp_region_held_drew (S := fun w' => w'.cell? ⟨bk, 0, none⟩ = some (.int .i64 x0) ∧ w'.cell? ⟨bk, 1, none⟩ = some (.pointer (some ⟨bp, 0, none⟩)) ∧ w'.cell? ⟨bk, 3, none⟩ = some (.int .i64 x2) ∧ w'.cell? ⟨bk, 4, none⟩ = some (.int .i64 x3) ∧ w'.cell? ⟨bp, 5, none⟩ = some (.int .i64 x1)) (by kernel_rfl) ⟨q0, q1, q3, q4, hp5⟩ (fun hHeld => ?_)
      refine takeAt 0 (some 26) (v := ?v0) (by decide) rfl (by kernel_rfl) (by kernel_rfl) (by kernel_rfl) (fun _ _ _ h => h) (by rfl) ?hy0 (by assumption) ?r0
      case hy0 => (intro wx hSw; go_simp; with_reducible rfl)
      simp only [Act.put, List.setIfInBounds_toArray, List.set_cons_zero, List.set_cons_succ]
      refine takeAt 1 (some 27) (v := ?v1) (by decide) rfl (by kernel_rfl) (by kernel_rfl) (by kernel_rfl) (fun _ _ _ h => h) (by rfl) ?hy1 (by assumption) ?r1
      case hy1 => (intro wx hSw; go_simp; with_reducible rfl)
      simp only [Act.put, List.setIfInBounds_toArray, List.set_cons_zero, List.set_cons_succ]
      refine takeAt 2 (some 28) (v := ?v2) (by decide) rfl (by kernel_rfl) (by kernel_rfl) (by kernel_rfl) (fun _ _ _ h => h) (by rfl) ?hy2 (by assumption) ?r2
      case hy2 => (intro wx hSw; go_simp; with_reducible rfl)
      simp only [Act.put, List.setIfInBounds_toArray, List.set_cons_zero, List.set_cons_succ]
      refine takeAt 3 (some 29) (v := ?v3) (by decide) rfl (by kernel_rfl) (by kernel_rfl) (by kernel_rfl) (fun _ _ _ h => h) (by rfl) ?hy3 (by assumption) ?r3
      case hy3 => (intro wx hSw; go_simp; with_reducible rfl)
      simp only [Act.put, List.setIfInBounds_toArray, List.set_cons_zero, List.set_cons_succ]
      refine takeAt 4 (some 30) (v := ?v4) (by decide) rfl (by kernel_rfl) (by kernel_rfl) (by kernel_rfl) (fun _ _ _ h => h) (by rfl) ?hy4 (by assumption) ?r4
      case hy4 => (intro wx hSw; go_simp; with_reducible rfl)
      simp only [Act.put, List.setIfInBounds_toArray, List.set_cons_zero, List.set_cons_succ]
      refine takeAt 5 (some 31) (v := ?v5) (by decide) rfl (by kernel_rfl) (by kernel_rfl) (by kernel_rfl) (fun _ _ _ h => h) (by rfl) ?hy5 (by assumption) ?r5
      case hy5 => (intro wx hSw; go_simp; with_reducible rfl)
      simp only [Act.put, List.setIfInBounds_toArray, List.set_cons_zero, List.set_cons_succ]
      refine takeAt 6 (some 32) (v := ?v6) (by decide) rfl (by kernel_rfl) (by kernel_rfl) (by kernel_rfl) (fun _ _ _ h => h) (by rfl) ?hy6 (by assumption) ?r6
      case hy6 => (intro wx hSw; go_simp; with_reducible rfl)
      simp only [Act.put, List.setIfInBounds_toArray, List.set_cons_zero, List.set_cons_succ]
      refine takeAt 7 (some 33) (v := ?v7) (by decide) rfl (by kernel_rfl) (by kernel_rfl) (by kernel_rfl) (fun _ _ _ h => h) (by rfl) ?hy7 (by assumption) ?r7
      case hy7 => (intro wx hSw; go_simp; with_reducible rfl)
      simp only [Act.put, List.setIfInBounds_toArray, List.set_cons_zero, List.set_cons_succ]
      refine takeAt 8 (some 34) (v := ?v8) (by decide) rfl (by kernel_rfl) (by kernel_rfl) (by kernel_rfl) (fun _ _ _ h => h) (by rfl) ?hy8 (by assumption) ?r8
      case hy8 => (intro wx hSw; go_simp; with_reducible rfl)
      simp only [Act.put, List.setIfInBounds_toArray, List.set_cons_zero, List.set_cons_succ]
      refine takeAt 9 (some 35) (v := ?v9) (by decide) rfl (by kernel_rfl) (by kernel_rfl) (by kernel_rfl) (fun _ _ _ h => h) (by rfl) ?hy9 (by assumption) ?r9
      case hy9 => (intro wx hSw; go_simp; with_reducible rfl)
      simp only [Act.put, List.setIfInBounds_toArray, List.set_cons_zero, List.set_cons_succ]
      refine takeAt 10 (some 36) (v := ?v10) (by decide) rfl (by kernel_rfl) (by kernel_rfl) (by kernel_rfl) (fun _ _ _ h => h) (by rfl) ?hy10 (by assumption) ?r10
      case hy10 => (intro wx hSw; go_simp; with_reducible rfl)
      simp only [Act.put, List.setIfInBounds_toArray, List.set_cons_zero, List.set_cons_succ]
      refine takeAt 11 (some 37) (v := ?v11) (by decide) rfl (by kernel_rfl) (by kernel_rfl) (by kernel_rfl) (fun _ _ _ h => h) (by rfl) ?hy11 (by assumption) ?r11
      case hy11 => (intro wx hSw; go_simp; with_reducible rfl)
      simp only [Act.put, List.setIfInBounds_toArray, List.set_cons_zero, List.set_cons_succ]
      refine takeAt 12 (some 38) (v := ?v12) (by decide) rfl (by kernel_rfl) (by kernel_rfl) (by kernel_rfl) (fun _ _ _ h => h) (by rfl) ?hy12 (by assumption) ?r12
      case hy12 => (intro wx hSw; go_simp; with_reducible rfl)
      simp only [Act.put, List.setIfInBounds_toArray, List.set_cons_zero, List.set_cons_succ]
      refine takeAt 13 (some 39) (v := ?v13) (by decide) rfl (by kernel_rfl) (by kernel_rfl) (by kernel_rfl) (fun _ _ _ h => h) (by rfl) ?hy13 (by assumption) ?r13
      case hy13 => (intro wx hSw; go_simp; with_reducible rfl)
      simp only [Act.put, List.setIfInBounds_toArray, List.set_cons_zero, List.set_cons_succ]
      refine takeAt 14 (some 40) (v := ?v14) (by decide) rfl (by kernel_rfl) (by kernel_rfl) (by kernel_rfl) (fun _ _ _ h => h) (by rfl) ?hy14 (by assumption) ?r14
      case hy14 => (intro wx hSw; go_simp; with_reducible rfl)
      simp only [Act.put, List.setIfInBounds_toArray, List.set_cons_zero, List.set_cons_succ]
      refine takeAt 15 (some 41) (v := ?v15) (by decide) rfl (by kernel_rfl) (by kernel_rfl) (by kernel_rfl) (fun _ _ _ h => h) (by rfl) ?hy15 (by assumption) ?r15
      case hy15 => (intro wx hSw; go_simp; with_reducible rfl)
      simp only [Act.put, List.setIfInBounds_toArray, List.set_cons_zero, List.set_cons_succ]
      refine takeAt 16 (some 42) (v := ?v16) (by decide) rfl (by kernel_rfl) (by kernel_rfl) (by kernel_rfl) (fun _ _ _ h => h) (by rfl) ?hy16 (by assumption) ?r16
      case hy16 => (intro wx hSw; go_simp; with_reducible rfl)
      simp only [Act.put, List.setIfInBounds_toArray, List.set_cons_zero, List.set_cons_succ]
      refine takeAt 17 (some 43) (v := ?v17) (by decide) rfl (by kernel_rfl) (by kernel_rfl) (by kernel_rfl) (fun _ _ _ h => h) (by rfl) ?hy17 (by assumption) ?r17
      case hy17 => (intro wx hSw; go_simp; with_reducible rfl)
      simp only [Act.put, List.setIfInBounds_toArray, List.set_cons_zero, List.set_cons_succ]
      refine takeAt 18 (some 44) (v := ?v18) (by decide) rfl (by kernel_rfl) (by kernel_rfl) (by kernel_rfl) (fun _ _ _ h => h) (by rfl) ?hy18 (by assumption) ?r18
      case hy18 => (intro wx hSw; go_simp; with_reducible rfl)
      simp only [Act.put, List.setIfInBounds_toArray, List.set_cons_zero, List.set_cons_succ]
      refine takeAt 19 (some 45) (v := ?v19) (by decide) rfl (by kernel_rfl) (by kernel_rfl) (by kernel_rfl) (fun _ _ _ h => h) (by rfl) ?hy19 (by assumption) ?r19
      case hy19 => (intro wx hSw; go_simp; with_reducible rfl)
      simp only [Act.put, List.setIfInBounds_toArray, List.set_cons_zero, List.set_cons_succ]
      refine takeAt 20 (some 46) (v := ?v20) (by decide) rfl (by kernel_rfl) (by kernel_rfl) (by kernel_rfl) (fun _ _ _ h => h) (by rfl) ?hy20 (by assumption) ?r20
      case hy20 => (intro wx hSw; go_simp; with_reducible rfl)
      simp only [Act.put, List.setIfInBounds_toArray, List.set_cons_zero, List.set_cons_succ]
      refine wpAnyH_ready (rs := [21]) (by kernel_rfl) (by simp) ?_
      refine AllReadyH.cons rfl (fun K hK => ?_) AllReadyH.nil
      go_simp
      refine hK.out _ _ ⟨cell_below (unhide HB0) q0, cell_below (unhide HB0) q1, cell_below (unhide HB0) q3, cell_below (unhide HB0) q4, cell_below (unhide HB0) hp5⟩ (fun hHeld => ?_)
      clear hK K
      refine wpAnyH_ready (rs := [22]) (by kernel_rfl) (by simp) ?_
      refine AllReadyH.cons rfl (fun K hK => ?_) AllReadyH.nil
      have HA := hide ((owns_below (unhide HOW1) (unhide HB0)))
      refine step_append_lies _ (by rfl) _ _ _ (by rfl) w.heap.size 203 i0 _ 4 32 Tryz.underlying53 (unhide II).1 (unhide II).2.1 (unhide II).2.2.1 (unhide II).2.2.2 rfl (by omega) (.slice ta tm tc) tm (brCells (T.bs.take tm)) (by rfl) (unhide HA)
        ⟨W1.heap.size, 0, none⟩ 1 1 [.int .i64 x0, .int .i64 x1, .int .i64 x2, .int .i64 x3] (by rfl) (by rfl) (World.news_of_block (cs := #[.int .i64 x0, .int .i64 x1, .int .i64 x2, .int .i64 x3]) (t := 203) (fr := (0, 0)) (heap_alloc_new W1 _)) (by simp [Value.oneCell'])
        (by omega) (by unfold maxLen; omega) (by omega) (by simp; omega) (W1.heap.size + 1) (by simp) ?_
      intro g2 cp2 w2 hown1 hgrow hat hlt2
      have hfar : ∀ b o v, b < w.heap.size → (W1.alloc (.cells #[.int .i64 x0, .int .i64 x1, .int .i64 x2, .int .i64 x3] 203)).drew.cell? ⟨b, o, none⟩ = some v → w2.cell? ⟨b, o, none⟩ = some v := fun b o v hb hc => hgrow.cell hc (fun e => by have := ((unhide HA).lt b e.symm).1; omega)
      have HG := hide hgrow
      have HW := hide hown1
      refine hK.out _ _ ⟨hfar _ _ _ bk1 hHeld.1, hfar _ _ _ bk1 hHeld.2.1, hfar _ _ _ bk1 hHeld.2.2.1, hfar _ _ _ bk1 hHeld.2.2.2.1, hfar _ _ _ bp1 hHeld.2.2.2.2⟩ (fun hHeld => ?_)
      clear hK K hown1 hgrow hat hfar
      simp only [Act.put, List.setIfInBounds_toArray, List.getElem_toArray, List.getElem_cons_succ, List.getElem_cons_zero, List.set_cons_zero, List.set_cons_succ]
      refine wpAnyH_ready (rs := [23]) (by kernel_rfl) (by simp) ?_
      refine AllReadyH.cons rfl (fun K hK => ?_) AllReadyH.nil
      go_simp
      refine hK.out _ _ hHeld (fun hHeld => ?_)
      clear hK K
      refine wpAnyH_done (by kernel_rfl) ?_ _
      clear hHeld q0 q1 q3 q4 hp5
      go_wp2_with fail
      go_roundw
      case rel =>
        have hb2 : Below w.heap.size W1 w2 := Below.grown ((((Below.refl _ _).alloc hsz1 _).drew)) (unhide HG) (by simp; omega) (fun b hb => ((unhide HA).lt b hb).1)
        refine ⟨tm + 1, fun j => if j = tm then (tm : Int) else num' j, by omega, by go_num, (unhide HI1).keep (unhide BL) (fun b hb => hb2.block b hb), fun j hj => ?_, ?_, ⟨_, _, _, rfl⟩, (unhide HB1).trans (hb2.mono hlo), Nat.le_trans hsz1 hb2.size⟩
        · dsimp only
          by_cases e : j = tm
          · rw [if_pos e, e]
          · rw [if_neg e]; exact unhide HNUM j (by omega)
        · rw [unhide HTK]; exact unhide HW
      case measure => simp [intOf]; omega
    · have e : k = n := by omega
      subst e
      have hnk : ¬ ((k : Int) < (k : Int)) := by omega
      clear hi
      go_wp2_with fail
      go_ret
      refine ⟨⟨_, rfl, ?_⟩, unhide HB⟩
      have h := unhide HOW
      rw [List.take_of_length_le (by have := unhide HN; omega)] at h
      rw [← unhide HN]
      exact h
end Go.Proofs.YtmnmeaeicjhkhaaGreatDoor

namespace Go.Proofs.YtmnmeaeicjhkhaaGreatDoor
open Go.RowKit Go.Lib Go.Maps

theorem field_top' (a b c : Value) (w : World) : (Instr.field 119 (.agg #[a, b, c]) 1).run Tryz.prog w = .ok b w := by kernel_rfl

/-- The Froms of the calls that are open behind k moments. -/
def openAt (f : Nat → M) (k : Nat) (x : Int) : Prop := ∃ t fr, fr ∈ (St.after f k).tasks t ∧ fr.frm = x

theorem openAt_zero (f : Nat → M) (x : Int) (h : openAt f 0 x) : x = -1 := by
  obtain ⟨t, fr, h1, h2⟩ := h
  simp only [St.after, St.init] at h1
  split at h1
  · rw [List.mem_singleton.1 h1] at h2; exact h2.symm
  · cases h1

theorem openAt_step (f : Nat → M) (k : Nat) (x : Int) (h : openAt f (k + 1) x) : openAt f k x ∨ ((f k).kind = 2 ∧ x = k) := by
  obtain ⟨t, fr, h1, h2⟩ := h
  subst h2
  have hput : ∀ l : List Fr, (∀ fr, fr ∈ l → openAt f k fr.frm ∨ ((f k).kind = 2 ∧ fr.frm = k)) → fr ∈ ((St.after f k).put l).tasks t → openAt f k fr.frm ∨ ((f k).kind = 2 ∧ fr.frm = k) := by
    intro l hl hf
    simp only [St.put] at hf
    split at hf
    · exact hl fr hf
    · exact .inl ⟨t, fr, hf, rfl⟩
  have h1' : fr ∈ ((St.after f k).step (f k).kind (f k).task (f k).fn (f k).line k).tasks t := h1
  unfold St.step at h1'
  split at h1'
  · exact .inl ⟨t, fr, h1', rfl⟩
  · split at h1'
    · rename_i k2
      refine hput _ (fun fr hf => ?_) h1'
      rcases List.mem_cons.1 hf with e | e
      · rw [e]; exact .inr ⟨k2, rfl⟩
      · exact .inl ⟨_, fr, e, rfl⟩
    · split at h1'
      · refine hput _ (fun fr hf => ?_) h1'
        cases e2 : (St.after f k).tasks (St.after f k).cur with
        | nil => rw [e2] at hf; cases hf
        | cons f0 r =>
          rw [e2] at hf
          rcases List.mem_cons.1 hf with e | e
          · exact .inl ⟨(St.after f k).cur, f0, by rw [e2]; exact List.mem_cons_self .., by rw [e]⟩
          · exact .inl ⟨(St.after f k).cur, fr, by rw [e2]; exact List.mem_cons_of_mem _ e, rfl⟩
      · split at h1'
        · exact hput _ (fun fr hf => .inl ⟨_, fr, List.mem_of_mem_tail hf, rfl⟩) h1'
        · exact .inl ⟨t, fr, h1', rfl⟩

theorem lined_key (b : Br) : brKey b.lined = brKey b := rfl

/-- A line of a branch. -/
theorem ImT.line {lo : Nat} {W : World} {g N : Nat} {T : Tree} {nb ni : Nat → Nat} {om : Nat} {of : Int → Option Nat} {mv : Value} {num : Nat → Int} (h : ImT lo W g N T nb ni om of mv num) (x : Int) (hx : T.br x < T.bs.length) :
    ImT lo (W.setCell ⟨nb (T.br x + 1), 4, none⟩ (.int .i64 (T.bs[T.br x].self + 1))) g N (T.line x) nb ni om of mv num :=
  h.setNode (T.br x) hx Br.lined T.br num 4 _ lined_key (fun _ _ => rfl) rfl

theorem upto_pred (n k : Nat) (h : k < n) : upto n ((k : Int) - 1) = k := by unfold upto; omega
theorem upto_self (n k : Nat) (h : k < n) : upto n (k : Int) = k + 1 := by unfold upto; omega

/-- At a line something is open in the running task, and it is what was innermost before. -/
theorem line_top {nf : Nat} {fns : Nat → ByteArray} {n : Nat} {f : Nat → M} (h : Sound nf fns n f) (k : Nat) (hk : k < n) (h1 : (f k).kind = 1) : ∃ fr r, runs f (k + 1) = fr :: r ∧ fr.frm = topFrom ((St.after f k).tasks (St.after f k).cur) := by
  have hne := atL_ne h k hk (.inl h1)
  have e : runs f (k + 1) = setLine (f k).line ((St.after f k).tasks (St.after f k).cur) := by
    show ((St.after f k).step _ _ _ _ _).tasks ((St.after f k).step _ _ _ _ _).cur = _
    unfold St.step
    rw [if_neg (by omega), if_neg (by omega), if_pos h1]
    simp [St.put]
  rw [e]
  cases hl : (St.after f k).tasks (St.after f k).cur with
  | nil => unfold atL at hne; rw [hl] at hne; exact absurd rfl hne
  | cons a r => exact ⟨_, _, rfl, rfl⟩

set_option maxRecDepth 100000 in
set_option maxHeartbeats 4000000 in
theorem implCallTree_any (lo : Nat) (v1 v2 : Value) (nf : Nat) (fns : Nat → ByteArray) (n : Nat) (f : Nat → M) (w : World) (h1 : StrsAt lo w v1 nf fns) (h2 : MomsAt lo w v2 n f) :
    Calls Tryz.prog 20 #[.agg #[v1, v2]] w fun e w' => (∃ v n' F, e = .returned v ∧ TrAns nf fns n f n' F ∧ RowsAt w.heap.size w' v 4 n' F) ∧ Below w.heap.size w w' := by
  have H1 := hide h1
  have H2 := hide h2
  obtain ⟨a1, cap1, rfl, hn1, -⟩ := h1
  obtain ⟨a2, cap2, rfl, hn2, -⟩ := h2
  unfold maxLen at hn1 hn2
  have T0 := hide (TrBox.new w (.slice a1 nf cap1) (.slice a2 n cap2))
  go_enter Tryz.func20, Tryz.ntmps20
  go_wp2_with fail
  refine (readTrace_any lo _ _ nf fns n f _ ((unhide H1).below (unhide T0).below) ((unhide H2).below (unhide T0).below)).mono ?_
  rintro e w1 ⟨⟨pv, c, m, rfl, ha, hp, pa, pn, pc, rfl⟩, hb1⟩
  have BA := hide (below_new w1 (.cells #[.int .i64 c, .int .i64 m] 49))
  have T1 := hide (((unhide T0).go hb1).go (unhide BA))
  clear hb1 T0
  by_cases hc : c = 0
  · have hS := ha.zero.1.1 hc
    have HS := hide hS
    have hm := ha.zero.2 hc
    have HP := hide ((hp hc).below (unhide BA))
    have hnf : nf ≤ 300 := hS.1.2.1
    have hn3 : n ≤ 3000 := hS.1.2.2.1
    subst hm
    subst hc
    clear ha hp hS
    go_upto_region 4 with fail
    generalize w1.alloc (.cells #[.int .i64 0, .int .i64 0] 49) = wp at T1 HP ⊢
    clear BA
    have hwl : w.heap.size + 1 ≤ wp.heap.size := (unhide T1).size
    go_wp2_with fail
    refine (newTree_any _).mono ?_
    rintro e w2 ⟨⟨g, rfl, ht⟩, hb2⟩
    have HT0 := hide (ht.mono (N' := 2) (S' := openAt f 0) (Nat.le_refl _) (fun x hx => openAt_zero f x hx))
    have HB0 := hide hb2
    have g1 := ((unhide T1).go hb2).b1
    clear ht hb2
    go_wp2_with fail
    go_loopg [6, 20] n (fun gg _ i W => ∃ (k : Nat), k + gg = n ∧ i = .int .i64 k ∧ TreeAt wp.heap.size W g (2 * k + 2) (treeAt f k) (openAt f k) ∧ Below wp.heap.size wp W)
    case atStart => exact ⟨0, by omega, rfl, unhide HT0, unhide HB0⟩
    case round =>
      clear HT0 HB0 g1
      obtain ⟨k, hk, rfl, ht, hbp⟩ := hrel
      have HT := hide ht
      have HBP := hide hbp
      have HX := hide ((unhide T1).go hbp)
      have hwr : wp.heap.size ≤ wr.heap.size := hbp.size
      clear ht hbp
      by_cases hlt : k < n
      · obtain ⟨_, _, e, _, hv⟩ := (unhide H2).below (unhide HX).below
        cases e
        obtain ⟨bm, om, vv, rfl, hc0, hc1, hc2, hc3, hc4, hc5, -, hs2, -⟩ := hv k hlt
        clear hv
        obtain ⟨av, capv, rfl, -⟩ := hs2
        have hmo := (unhide HS).2.1 k hlt
        have hf1 : 0 ≤ (f k).fn := hmo.1.2.2.2.2.1
        have hf2 : (f k).fn < nf := hmo.1.2.2.2.2.2.1
        clear hmo
        have hkn : (k : Int) < (n : Int) := by omega
        have hkz : (0 : Int) ≤ (k : Int) := by omega
        have HBA := hide (below_new wr (.cells #[.int .i64 (f k).kind, .int .i64 (f k).task, .int .i64 (f k).fn, .int .i64 (f k).line, .string (f k).text, .slice av (f k).nv capv] 108))
        have hbx := heap_alloc_new wr (.cells #[.int .i64 (f k).kind, .int .i64 (f k).task, .int .i64 (f k).fn, .int .i64 (f k).line, .string (f k).text, .slice av (f k).nv capv] 108)
        have HBX := hide hbx
        clear hbx
        generalize hkk : (f k).kind = kk at hc0 HBA HBX
        have HKK := hide hkk
        clear hkk
        by_cases k2 : kk = 2
        · have k2b : (kk == 2) = true := by simpa using k2
          have HK2 := hide k2
          clear k2
          go_upto_region 10 with fail
          have HT3 := hide ((unhide HT).below (unhide HBA))
          have HB3 := hide ((unhide HBP).trans ((unhide HBA).mono hwr))
          have hsz : wr.heap.size < (wr.alloc (.cells #[.int .i64 kk, .int .i64 (f k).task, .int .i64 (f k).fn, .int .i64 (f k).line, .string (f k).text, .slice av (f k).nv capv] 108)).heap.size := by simp
          generalize wr.alloc (.cells #[.int .i64 kk, .int .i64 (f k).task, .int .i64 (f k).fn, .int .i64 (f k).line, .string (f k).text, .slice av (f k).nv capv] 108) = W3 at HT3 HB3 HBX hsz ⊢
          have c2 : W3.cell? ⟨wr.heap.size, 2, none⟩ = some (.int .i64 (f k).fn) := by rw [cell_at (unhide HBX)]; rfl
          clear hc0 hc1 hc2 hc3 hc4 hc5 HBA HT HBP HX
          have wx : IntKind.i64.wrap ((k : Int) - 1) = (k : Int) - 1 := by rw [IntKind.wrap_i64]; omega
          have hft := field_top'
          have HBD := hide ((Below.refl W3.heap.size W3).drew)
          have HPD := hide (((unhide HP).below (unhide HB3)).below (unhide HBD))
          have HTD := hide ((unhide HT3).below (unhide HBD))
          have hW3 : wp.heap.size ≤ W3.heap.size := (unhide HB3).size
          have hok := treeAt_ok f k
          have HOK := hide hok
          clear hok
          go_region_held3 (fun w' => w'.cell? ⟨wr.heap.size, 2, none⟩ = some (.int .i64 (f k).fn) ∧ w'.heap[wr.heap.size]? = some (.cells #[.int .i64 kk, .int .i64 (f k).task, .int .i64 (f k).fn, .int .i64 (f k).line, .string (f k).text, .slice av (f k).nv capv] 108 (0, 0)))
            (first | (exact ⟨c2, unhide HBX⟩) | (exact ⟨cell_below hbA c2, (hbA.block _ hsz).trans (unhide HBX)⟩) | (exact ⟨(cell_at (hkB _ _ _ ((hbA.block _ hsz).trans (unhide HBX))) 2).trans rfl, hkB _ _ _ ((hbA.block _ hsz).trans (unhide HBX))⟩))
            ((first | (go_at_call 58; refine (placeAt_any _ _ n f ((k : Int) - 1) _ (by exact unhide HPD) hn3 (by omega) (by omega)).mono ?_; rintro e wA ⟨⟨top, bw, rfl, hpl⟩, hbA⟩; rw [upto_pred n k hlt] at hpl) | (go_at_call 61; refine (call_any (lo := wp.heap.size) (g := g) (N := 2 * k + 2) (T := treeAt f k) (S := openAt f k) (k : Int) (f k).fn (runs f k) top wA ((unhide HTD).below hbA) hpl.1 (Nat.le_trans hW3 hbA.size) (fun fr r e => ⟨⟨_, fr, by show fr ∈ runs f k; rw [e]; exact List.mem_cons_self .., rfl⟩, (hpl.2.2.2 _ hpl.2.2.1).2 fr (by show fr ∈ runs f k; rw [e]; exact List.mem_cons_self ..), by have := after_frms f k _ fr (by show fr ∈ runs f k; rw [e]; exact List.mem_cons_self ..); omega⟩) (by omega) (by have := (unhide HOK).len; omega) (fun x _ => (unhide HOK).br x) (fun b hb => by have := (unhide HOK).small b hb; omega) (by omega) (by omega)).mono ?_; rintro e wB ⟨rfl, htB, hbB, hkB⟩)))
          have HTB := hide htB
          have HBB : Hid (Below wp.heap.size wp wB) := hide ((unhide HB3).trans ((((Below.refl W3.heap.size W3).drew.trans hbA).mono hW3).trans hbB))
          clear htB hbB hkB hbA hpl c2 wx hft
          go_wp2_with fail
          go_roundg (n - (k + 1))
          case measure => omega
          case rel =>
            refine ⟨k + 1, by omega, by go_num, ?_, unhide HBB⟩
            rw [tree_call (by rw [unhide HKK]; exact unhide HK2)]
            exact (unhide HTB).mono (by omega) (fun x hx => (openAt_step f k x hx).imp id (fun h => h.2))
        · have k2b : (kk == 2) = false := by simpa using k2
          by_cases k1 : kk = 1
          · have k1b : (kk == 1) = true := by rw [k1]; rfl
            have HK1 := hide k1
            clear k1 k2
            go_upto_region 12 with fail
            have HT3 := hide ((unhide HT).below (unhide HBA))
            have HB3 := hide ((unhide HBP).trans ((unhide HBA).mono hwr))
            generalize wr.alloc (.cells #[.int .i64 kk, .int .i64 (f k).task, .int .i64 (f k).fn, .int .i64 (f k).line, .string (f k).text, .slice av (f k).nv capv] 108) = W3 at HT3 HB3 ⊢
            clear hc0 hc1 hc2 hc3 hc4 hc5 HBA HBX HT HBP HX
            have hft := field_top'
            have hW3 : wp.heap.size ≤ W3.heap.size := (unhide HB3).size
            go_wp2_with fail
            refine (placeAt_any _ _ n f (k : Int) _ ((unhide HP).below (unhide HB3)) hn3 (by omega) (by omega)).mono ?_
            rintro e w4 ⟨⟨top, bw, rfl, hpl⟩, hb4⟩
            rw [upto_self n k hlt] at hpl
            obtain ⟨fr, r, hrun, hfrm⟩ := line_top (unhide HS) k hlt (by rw [unhide HKK]; exact unhide HK1)
            have hmem : fr ∈ (St.after f (k + 1)).tasks (St.after f (k + 1)).cur := by
              show fr ∈ runs f (k + 1)
              rw [hrun]; exact List.mem_cons_self ..
            have hop : openAt f k fr.frm := by
              rcases openAt_step f k fr.frm ⟨_, fr, hmem, rfl⟩ with h | h
              · exact h
              · have h1 := h.1
                rw [unhide HKK, unhide HK1] at h1
                exact absurd h1 (by decide)
            have hfr1 := (hpl.2.2.2 _ hpl.2.2.1).2 fr hmem
            have hfr2 := after_frms f (k + 1) _ fr hmem
            obtain ⟨nb, ni, om2, of, mv, num, hi, ho⟩ := (unhide HT3).below hb4
            have HB4 := hide ((unhide HB3).trans (hb4.mono hW3))
            have hpl1 : ListAt w4 (fr :: r) top := by rw [← hrun]; exact hpl.1
            have hbo := branchOf_any (fr :: r) top w4 hi hpl1 (fun fr' r' e => by cases e; exact ⟨ho _ hop, WalkArith.wf_i64 (by omega)⟩)
            have eidx : ((treeAt f k).parOf (fr :: r) + 1).toNat = (treeAt f k).br fr.frm + 1 := by show (((treeAt f k).br fr.frm : Int) + 1).toNat = _; omega
            rw [eidx] at hbo
            have HBO := hide hbo
            have HI := hide hi
            have HO := hide ho
            have HFRM := hide hfrm
            clear hbo hi ho hpl hb4 hpl1 hmem hop hfr1 hfr2 hrun eidx HT3 HB3 hfrm
            generalize ((St.after f (upto n (k : Int))).cur : Int) = cu
            go_wp2_with fail
            refine (unhide HBO).mono ?_
            rintro e w5 ⟨rfl, hb5⟩
            have hbr := (treeAt_ok f k).br fr.frm
            have hsm := (treeAt_ok f k).small _ (List.getElem_mem hbr)
            have HI5 := hide ((unhide HI).below hb5)
            have hw4 : wp.heap.size ≤ w4.heap.size := (unhide HB4).size
            have HB5 := hide ((unhide HB4).trans (hb5.mono hw4))
            obtain ⟨-, -, -, q4, -, qf⟩ := (unhide HI5).cells _ hbr
            have qf4 := qf 4
            have HL := hide ((unhide HI5).line fr.frm hbr)
            have HBL := hide ((unhide HB5).setCell (p := ⟨nb ((treeAt f k).br fr.frm + 1), 4, none⟩) ((unhide HI5).lb _ (by omega)) (.int .i64 ((treeAt f k).bs[(treeAt f k).br fr.frm].self + 1)))
            have wx : IntKind.i64.wrap ((treeAt f k).bs[(treeAt f k).br fr.frm].self + 1) = (treeAt f k).bs[(treeAt f k).br fr.frm].self + 1 := by rw [IntKind.wrap_i64]; omega
            generalize (treeAt f k).bs[(treeAt f k).br fr.frm].self = sf at q4 HL HBL wx
            generalize hbb : nb ((treeAt f k).br fr.frm + 1) = bb at q4 qf4 HL HBL ⊢
            clear hb5 HBO HI HI5 HB5 HB4 qf hsm hbb
            go_wp2_with fail
            go_roundg (n - (k + 1))
            case measure => omega
            case rel =>
              refine ⟨k + 1, by omega, by go_num, ?_, unhide HBL⟩
              rw [tree_line (by rw [unhide HKK]; exact unhide HK1), ← unhide HFRM]
              refine TreeAt.mono (N := 2 * k + 2) (S := openAt f k) ⟨nb, ni, om2, of, mv, num, unhide HL, unhide HO⟩ (by omega) (fun x hx => ?_)
              rcases openAt_step f k x hx with h | h
              · exact h
              · have h1 := h.1
                rw [unhide HKK, unhide HK1] at h1
                exact absurd h1 (by decide)
          · have k1b : (kk == 1) = false := by simpa using k1
            have HK := hide (And.intro k1 k2)
            clear k1 k2
            go_wp2_with fail
            go_roundg (n - (k + 1))
            case measure => omega
            case rel =>
              refine ⟨k + 1, by omega, by go_num, ?_, (unhide HBP).trans ((unhide HBA).mono hwr)⟩
              rw [tree_kind (by rw [unhide HKK]; exact (unhide HK).2) (by rw [unhide HKK]; exact (unhide HK).1)]
              refine ((unhide HT).below (unhide HBA)).mono (by omega) (fun x hx => ?_)
              rcases openAt_step f k x hx with h | h
              · exact h
              · exact absurd (by rw [← unhide HKK]; exact h.1) (unhide HK).2
      · have e : n = k := by omega
        subst e
        have hnk : ¬ ((n : Int) < (n : Int)) := by omega
        go_wp2_with fail
        refine (list_any (lo := wp.heap.size) _ (unhide HT) hwr (by have := (treeAt_ok f n).len; omega)).mono ?_
        rintro e w5 ⟨⟨v, rfl, hv⟩, hb5⟩
        have HV := hide hv
        have HX5 := hide ((unhide T1).go ((unhide HBP).trans hb5))
        clear hv hb5
        go_wp2_with fail
        go_ret
        refine ⟨⟨_, _, _, rfl, .inl ⟨unhide HS, rfl, fun i j hi hj => dif_pos hi⟩, (br_rows (unhide HV)).low (by omega)⟩, (unhide HX5).below⟩
  · have HN : Hid (¬ Sound nf fns n f) := hide (fun h => hc (ha.zero.1.2 h))
    have hcb : (c == 0) = false := by simpa using hc
    clear ha hp hc
    go_wp2_with fail
    go_ret
    exact ⟨⟨_, 0, fun _ _ => 0, rfl, .inr ⟨unhide HN, rfl⟩, RowsAt.nil _ _ _ _⟩, (unhide T1).below⟩
end Go.Proofs.YtmnmeaeicjhkhaaGreatDoor
