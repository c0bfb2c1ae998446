/-
  The map of LineCounts: how often a line of a fn has begun.
-/
import Derived.Test.YtoiacbdnkkolmabJ1
import Derived.Maps.OwnOps
import Derived.Maps.OwnSet
import Derived.Maps.Views
import Derived.DeepKeys4
import Derived.WideKeyEntry
namespace Go.Proofs.Ytoiacbdnkkolmab
open Go.RowKit Go.Maps

theorem ownsLow {w : World} {B B' : Nat} {e : TypeId} {z : Nat} {v : Value} {n : Nat} {xs : List Value} (h : w.ownsRow B e z v n xs) (hB : B' ≤ B) : w.ownsRow B' e z v n xs := by
  refine ⟨h.1, ?_⟩
  rcases h.2 with hn | ⟨g, cap, cur, hv, hb, rest⟩
  · exact .inl hn
  · exact .inr ⟨g, cap, cur, hv, by omega, rest⟩

theorem ownsTyped {w : World} {B : Nat} {e : TypeId} {z : Nat} {v : Value} {n : Nat} {xs : List Value} (h : w.ownsRow B e z v n xs) : ∀ g, v.ownBlock = some g → B ≤ g ∧ ∃ cs fr, w.heap[g]? = some (.cells cs e fr) := by
  intro g hg
  rcases h.2 with ⟨e1, _⟩ | ⟨g', cap, cur, e1, hB, hh, _⟩
  · rw [e1] at hg; cases hg
  · rw [e1] at hg; cases hg; exact ⟨hB, cur, _, hh⟩

theorem optNe {a b : Option Nat} (h : ∀ g, a = some g → b ≠ some g) : a = none ∨ a ≠ b := by
  cases a with
  | none => exact .inl rfl
  | some g => exact .inr (fun e => h g rfl e.symm)

theorem laidOutN : laidOutB Try.prog = true := by kernel_rfl
theorem rowN : (83 : TypeId) < Try.prog.types.size := of_decide_eq_true (by kernel_rfl)
theorem cellsN : Try.prog.cellsOf 83 = 2 := by kernel_rfl
theorem cellsNI : Try.prog.cellsOf 3 = 1 := by kernel_rfl
theorem deepN : Try.prog.keyType 83 = true := by kernel_rfl
theorem wideN : (match Try.prog.underlying 83 with | some (.array _ _) | some (.struct _) => true | _ => false) = true := by kernel_rfl
set_option maxRecDepth 100000 in
theorem klawN : Go.WideMaps.KeyLaw Try.prog 83 := deep_law_laid laidOutN (m := 3) (by omega) rowN (by kernel_rfl) wideN
theorem lawN : Keyed Try.prog 83 := Keyed.of_law klawN

structure Lk where
  fn : Int
  line : Int
  deriving Inhabited

abbrev lkV (p : Lk) : Value := .agg #[.int .i64 p.fn, .int .i64 p.line]

theorem lkV_inj {p q : Lk} (h : lkV p = lkV q) : p = q := by
  cases p; cases q
  simpa [lkV] using h

def lkLit (p : Lk) : Lit := .string (keyBytes [.int .i64 p.fn, .int .i64 p.line])

theorem types_two : ∃ m, Try.prog.types.size + 1 = m + 1 + 1 := ⟨Try.prog.types.size - 1, by
  have h : 0 < Try.prog.types.size := Nat.lt_of_le_of_lt (Nat.zero_le _) rowN
  generalize Try.prog.types.size = z at h
  omega⟩

set_option maxRecDepth 100000 in
theorem lk_ok (p : Lk) (ha : (Lit.int .i64 p.fn).wf = true) (hb : (Lit.int .i64 p.line).wf = true) : keyOf Try.prog 83 (lkV p) = some (lkLit p) := by
  obtain ⟨m, hm⟩ := types_two
  unfold keyOf lkV
  rw [Try.underlying83]
  have hfo : (Value.agg #[.int .i64 p.fn, .int .i64 p.line]).formed Try.prog 83 = true := by simp [Value.formed, Try.underlying83, cellsN]
  have hk : Try.prog.keyLits (Try.prog.types.size + 1) 83 (Value.agg #[.int .i64 p.fn, .int .i64 p.line]).cells.toList = some [.int .i64 p.fn, .int .i64 p.line] := by
    rw [hm]
    simp [Program.keyLits, Try.underlying83, Try.underlying3, cellsN, cellsNI, Value.cells, ha, hb]
  simp only [deepN, hfo, hk]
  rfl

set_option maxRecDepth 100000 in
theorem intLit_inv {m : Nat} {cs : List Value} {l : List Lit} (h : Try.prog.keyLits (m + 1) 3 cs = some l) : ∃ x : Int, cs = [.int .i64 x] ∧ (Lit.int .i64 x).wf = true := by
  cases cs with
  | nil => simp [Program.keyLits, Try.underlying3] at h
  | cons c r =>
    cases r with
    | cons c' r' => simp [Program.keyLits, Try.underlying3] at h
    | nil =>
      cases c with
      | int q x =>
        simp [Program.keyLits, Try.underlying3] at h
        obtain ⟨⟨rfl, h2⟩, -⟩ := h
        exact ⟨x, rfl, h2⟩
      | _ => simp [Program.keyLits, Try.underlying3] at h

set_option maxRecDepth 100000 in
theorem lk_inv {v : Value} {l : Lit} (h : keyOf Try.prog 83 v = some l) : ∃ p : Lk, v = lkV p ∧ (Lit.int .i64 p.fn).wf = true ∧ (Lit.int .i64 p.line).wf = true := by
  obtain ⟨m, hm⟩ := types_two
  unfold keyOf at h
  rw [Try.underlying83] at h
  simp only at h
  split at h
  · rename_i hf
    rw [Bool.and_eq_true] at hf
    obtain ⟨-, hf⟩ := hf
    cases v with
    | agg cs =>
      have hsz : cs.size = 2 := by simpa [Value.formed, Try.underlying83, cellsN] using hf
      obtain ⟨c0, c1, rfl⟩ : ∃ c0 c1, cs = #[c0, c1] := by
        obtain ⟨l0⟩ := cs
        match l0, hsz with
        | [c0, c1], _ => exact ⟨c0, c1, rfl⟩
      rw [hm] at h
      simp only [Value.cells] at h
      cases e : Try.prog.keyLits (m + 1 + 1) 83 [c0, c1] with
      | none => rw [e] at h; cases h
      | some ls =>
        clear h
        unfold Program.keyLits at e
        rw [Try.underlying83] at e
        simp [cellsN, cellsNI, Option.bind_eq_some_iff] at e
        obtain ⟨l1, h1, l2, ⟨l3, h2, -⟩, -⟩ := e
        obtain ⟨x, e1, w1⟩ := intLit_inv h1
        obtain ⟨y, e2, w2⟩ := intLit_inv h2
        cases e1; cases e2
        exact ⟨⟨x, y⟩, rfl, w1, w2⟩
    | _ => simp [Value.formed, Try.underlying83] at hf
  · cases h

theorem lkLit_inj {p q : Lk} (ha : (Lit.int .i64 p.fn).wf = true) (hb : (Lit.int .i64 p.line).wf = true) (ha' : (Lit.int .i64 q.fn).wf = true) (hb' : (Lit.int .i64 q.line).wf = true) (h : lkLit p = lkLit q) : p = q :=
  lkV_inj (lawN.inj (lk_ok p ha hb) (by rw [h]; exact lk_ok q ha' hb'))

abbrev cntDat (x : Int) : DataW Unit := .lit (.int .i64 x)

/-- Block b is the map: g tells how often. -/
def LineMap (w : World) (b n : Nat) (D : DataW Unit) (g : Int → Int → Int) : Prop :=
  w.ownsMap Try.prog 83 (plainElem Try.prog 3) b n D ∧ ∀ p : Lk, (Lit.int .i64 p.fn).wf = true → (Lit.int .i64 p.line).wf = true → (has D (lkLit p) = true ↔ 1 ≤ g p.fn p.line) ∧ D.atKey (lkLit p) (cntDat 0) = cntDat (g p.fn p.line)

theorem LineMap.made (w : World) : LineMap (w.alloc (.map #[] 0)) w.heap.size 0 (.map []) (fun _ _ => 0) :=
  ⟨World.ownsMap_made _ _ _ _, fun _ _ _ => ⟨⟨fun h => (by cases h), fun h => absurd (show (1 : Int) ≤ 0 from h) (by decide)⟩, rfl⟩⟩

theorem LineMap.lt {w : World} {b n : Nat} {D : DataW Unit} {g : Int → Int → Int} (h : LineMap w b n D g) : b < w.heap.size := h.1.lt

theorem LineMap.of_block {w w' : World} {b n : Nat} {D : DataW Unit} {g : Int → Int → Int} (h : LineMap w b n D g) (hb : w'.heap[b]? = w.heap[b]?) : LineMap w' b n D g := by
  obtain ⟨⟨es, c, h1, h2⟩, h3⟩ := h
  exact ⟨⟨es, c, hb.trans h1, h2⟩, h3⟩

theorem LineMap.below {w w' : World} {b n : Nat} {D : DataW Unit} {g : Int → Int → Int} (h : LineMap w b n D g) (hb : Below w.heap.size w w') : LineMap w' b n D g := h.of_block (hb.block b h.lt)

theorem LineMap.mono {w : World} {b n n' : Nat} {D : DataW Unit} {g : Int → Int → Int} (h : LineMap w b n D g) (hn : n ≤ n') : LineMap w b n' D g := ⟨h.1.mono hn, h.2⟩

theorem LineMap.congr {w : World} {b n : Nat} {D : DataW Unit} {g g' : Int → Int → Int} (h : LineMap w b n D g) (e : ∀ a c, g a c = g' a c) : LineMap w b n D g' := ⟨h.1, fun p h1 h2 => by rw [← e]; exact h.2 p h1 h2⟩

theorem zero_int (w : World) : (zeroValue 3).run Try.prog w = .ok (.int .i64 0) w := by kernel_rfl

set_option maxRecDepth 100000 in
theorem plain_back {v : Value} {x : Int} {ps : List MemPlace} (h : plainElem Try.prog 3 v = some (cntDat x, ps)) : v = .int .i64 x := by
  obtain ⟨a, rfl, e, _⟩ := plainElem_int_inv (H := Unit) Try.underlying3 h
  injection e with e1 e2
  unfold cntDat at e1
  injection e1 with e1
  injection e1 with _ e1
  rw [e1]

set_option maxRecDepth 100000 in
theorem LineMap.look {w : World} {b n : Nat} {D : DataW Unit} {g : Int → Int → Int} (h : LineMap w b n D g) (p : Lk) (ha : (Lit.int .i64 p.fn).wf = true) (hb : (Lit.int .i64 p.line).wf = true) :
    (Instr.lookup 81 (.map (some b)) (.agg #[.int .i64 p.fn, .int .i64 p.line]) false).run Try.prog w = .ok (.int .i64 (g p.fn p.line)) w := by
  obtain ⟨h1, h2⟩ := h
  obtain ⟨e1, e2⟩ := h2 p ha hb
  obtain ⟨v, ps, hr, hv⟩ := h1.lookup lawN Try.underlying81 (zero_int w) (plainElem_int (H := Unit) Try.underlying3 (by decide : (Lit.int .i64 0).wf = true)) (lk_ok p ha hb)
  rw [e2] at hv
  rw [plain_back hv] at hr
  exact hr

set_option maxRecDepth 100000 in
theorem LineMap.store {w : World} {b n : Nat} {D : DataW Unit} {g : Int → Int → Int} (h : LineMap w b n D g) (hn : n < maxLen) (p : Lk) (ha : (Lit.int .i64 p.fn).wf = true) (hb : (Lit.int .i64 p.line).wf = true) (x : Int) (hx : 1 ≤ x) (hw : (Lit.int .i64 x).wf = true) :
    ∃ w' D', (Instr.mapUpdate 81 (.map (some b)) (.agg #[.int .i64 p.fn, .int .i64 p.line]) (.int .i64 x)).run Try.prog w = .ok () w' ∧ LineMap w' b (n + 1) D' (fun a c => if a = p.fn ∧ c = p.line then x else g a c) ∧ w.grownBy w' (some b) := by
  obtain ⟨h1, h2⟩ := h
  have hm : IsMap D := h1.isMap
  obtain ⟨w', hr, h3, h4⟩ := h1.update lawN Try.underlying81 hn (lk_ok p ha hb) (plainElem_int (H := Unit) Try.underlying3 hw)
  refine ⟨w', _, hr, ⟨h3, fun q ha' hb' => ?_⟩, h4⟩
  dsimp only
  by_cases e : q.fn = p.fn ∧ q.line = p.line
  · have e' : q = p := by cases p; cases q; simp only at e; rw [e.1, e.2]
    subst e'
    rw [if_pos e, has_put_same hm (lawN.key (lk_ok q ha hb)), atKey_put_same hm (lawN.key (lk_ok q ha hb))]
    exact ⟨⟨fun _ => hx, fun _ => rfl⟩, rfl⟩
  · have hne : lkLit q ≠ lkLit p := fun e2 => e (by rw [lkLit_inj ha' hb' ha hb e2]; exact ⟨rfl, rfl⟩)
    rw [if_neg e, has_put_other hne, atKey_put_other hne]
    exact h2 q ha' hb'

theorem okWorld {α : Type} {a b : α} {w w' : World} (h : Result.ok a w = Result.ok b w') : w = w' := by injection h

/-- What mapEntry leaves: the map as it was, or as a store of the zero value leaves it. -/
theorem entry_world {H : Type} {P : Program} {w : World} {t k e : TypeId} {R : Value → Option (DataW H × List MemPlace)} {b : Nat} {es : Array MapEntry} {clock : Nat} (K : Go.WideMaps.KeyLaw P k) (ht : P.underlying t = some (.map k e)) {z : Value} (hz : ∀ u : World, (zeroValue e).run P u = .ok z u)
    (hb : w.heap[b]? = some (.map es clock)) (F : WideElems.Fit P k R es clock) {key : Value} {kl : Lit} (hkey : keyOf P k key = some kl) {v : Value} {W1 : World} (hr : (Instr.mapEntry t (.map (some b)) key).run P w = .ok v W1) :
    W1 = w ∨ ((Instr.mapUpdate t (.map (some b)) key z).run P w = .ok () W1 ∧ ∀ x ∈ es.toList, x.key ≠ key) := by
  rcases K.find w hkey es.toList F.keys with ⟨h1, h2⟩ | ⟨j, e0, h1, h2, h3⟩
  · right
    have e1 : (Instr.mapEntry t (.map (some b)) key).run P w = .ok (.tuple #[z, goInt clock]) (ChangeMaps.setBlock w b (.map (es.push ⟨key, z, clock⟩) (clock + 1))) := by
      simp [Instr.mapEntry, run_underlying ht, MapKept.run_getObj_map hb, K.check w false hkey, h1, hz, MapKept.run_setObj_map _ hb, Result.andThen, ChangeMaps.setBlock]
    rw [hr] at e1
    injection e1 with e1 e2
    rw [e2]
    exact ⟨by simp [Instr.mapUpdate, run_underlying ht, MapKept.run_getObj_map hb, K.check w false hkey, h1, MapKept.run_setObj_map _ hb, Result.andThen, ChangeMaps.setBlock], h2⟩
  · left
    have hj : es[j]? = some e0 := by simpa using h2
    have hsame : es.modify j (fun e => { e with key := key }) = es := by
      apply Array.ext'
      rw [Array.toList_modify, ChangeMaps.modify_eq_set _ _ _ _ h2]
      have : ({ e0 with key := key } : MapEntry) = e0 := by rw [← h3]
      rw [this]
      exact WideElems.set_self _ _ _ h2
    have e1 : (Instr.mapEntry t (.map (some b)) key).run P w = .ok (.tuple #[e0.val, goInt e0.born]) (ChangeMaps.setBlock w b (.map es clock)) := by
      simp [Instr.mapEntry, run_underlying ht, MapKept.run_getObj_map hb, K.check w false hkey, h1, hj, h3, K.stays w hkey, hsame, MapKept.run_setObj_map _ hb, Result.andThen, ChangeMaps.setBlock]
    rw [hr] at e1
    injection e1 with e1 e2
    rw [e2]
    have : w.heap.setIfInBounds b (.map es clock) = w.heap := by
      apply Array.ext_getElem?
      intro i
      rw [Array.getElem?_setIfInBounds]
      split
      · rename_i h; subst h; rw [hb]; split
        · rfl
        · rename_i h; exact absurd (Array.getElem?_eq_some_iff.1 hb).1 h
      · rfl
    unfold ChangeMaps.setBlock
    rw [this]

set_option maxRecDepth 100000 in
/-- The entry is found or made, then stored into. -/
theorem LineMap.entry {w : World} {b n : Nat} {D : DataW Unit} {g : Int → Int → Int} (h : LineMap w b n D g) (hn : n < maxLen) (p : Lk) (ha : (Lit.int .i64 p.fn).wf = true) (hb : (Lit.int .i64 p.line).wf = true) (x : Int) (hx : 1 ≤ x) (hw : (Lit.int .i64 x).wf = true) :
    ∃ v0 st W1, (Instr.mapEntry 81 (.map (some b)) (.agg #[.int .i64 p.fn, .int .i64 p.line])).run Try.prog w = .ok (.tuple #[v0, .int .i64 ((st : Nat) : Int)]) W1 ∧ w.grownBy W1 (some b) ∧
      (Instr.lookup 81 (.map (some b)) (.agg #[.int .i64 p.fn, .int .i64 p.line]) false).run Try.prog W1 = .ok (.int .i64 (g p.fn p.line)) W1 ∧
      ∃ W2 D', (Instr.entryStore 81 (.map (some b)) (.int .i64 ((st : Nat) : Int)) (.int .i64 x)).run Try.prog W1 = .ok () W2 ∧ LineMap W2 b (n + 1) D' (fun a c => if a = p.fn ∧ c = p.line then x else g a c) ∧ w.grownBy W2 (some b) := by
  have hlk := h.look p ha hb
  obtain ⟨w', D', hr, h3, h4⟩ := h.store hn p ha hb x hx hw
  have hup := h.1.update lawN Try.underlying81 hn (lk_ok p ha hb) (plainElem_int (H := Unit) Try.underlying3 (by decide : (Lit.int .i64 0).wf = true))
  have hm : IsMap D := h.1.isMap
  obtain ⟨⟨es, clock, hblk, hF, -, -⟩, -⟩ := h
  obtain ⟨v0, st, es1, clock1, hen, -, hst⟩ := WideElems.entry_then_store klawN Try.underlying81 zero_int hblk hF (lk_ok p ha hb)
  have hgr : ∀ (o : Obj), w.grownBy (ChangeMaps.setBlock w b o) (some b) := fun o => ⟨rfl, rfl, rfl, by simp [ChangeMaps.setBlock], fun i _ hi => ChangeMaps.heap_setBlock_other hblk _ (fun e => hi (by rw [e]))⟩
  obtain ⟨es', clock', hs1, hs2⟩ := hst _ (.int .i64 x) (ChangeMaps.heap_setBlock_same hblk (.map es1 clock1))
  have e : w' = ChangeMaps.setBlock w b (.map es' clock') := by
    rw [hr] at hs2
    injection hs2
  have e2 : ChangeMaps.setBlock (ChangeMaps.setBlock w b (.map es1 clock1)) b (.map es' clock') = ChangeMaps.setBlock w b (.map es' clock') := by
    simp [ChangeMaps.setBlock]
  refine ⟨v0, st, _, hen, hgr _, ?_, _, D', hs1, ?_, ?_⟩
  · rcases entry_world klawN Try.underlying81 zero_int hblk hF (lk_ok p ha hb) hen with e3 | ⟨h5, h6⟩
    · rw [e3]; exact hlk
    · have hg0 : g p.fn p.line = 0 := by
        rcases Maps.fit_look false lawN Try.underlying81 (zero_int w) hblk hF (lk_ok p ha hb) with ⟨h7, -, -⟩ | ⟨e0, y, h7, h8, -⟩
        · rw [hlk] at h7
          simp at h7
          exact h7
        · exact absurd h8 (h6 e0 h7)
      obtain ⟨w6, h7, h8, -⟩ := hup
      rw [h5] at h7
      rw [← okWorld h7] at h8
      obtain ⟨v, ps, hr2, hv⟩ := h8.lookup lawN Try.underlying81 (zero_int _) (plainElem_int (H := Unit) Try.underlying3 (by decide : (Lit.int .i64 0).wf = true)) (lk_ok p ha hb)
      rw [atKey_put_same hm (lawN.key (lk_ok p ha hb))] at hv
      rw [plain_back (x := 0) hv] at hr2
      rw [hg0]
      exact hr2
  · rw [e2, ← e]; exact h3
  · rw [e2, ← e]; exact h4

/-- What has come of the keys. -/
structure GotKeys (D : DataW Unit) (left : Lit → Bool) (ss : List (Lk)) : Prop where
  nodup : ss.Nodup
  wf : ∀ p, p ∈ ss → (Lit.int .i64 p.fn).wf = true ∧ (Lit.int .i64 p.line).wf = true
  mem : ∀ p : Lk, (Lit.int .i64 p.fn).wf = true → (Lit.int .i64 p.line).wf = true → (p ∈ ss ↔ (has D (lkLit p) = true ∧ left (lkLit p) = false))

theorem GotKeys.start (D : DataW Unit) : GotKeys D (has D) [] := ⟨List.nodup_nil, fun p h => (by cases h), fun p _ _ => by cases has D (lkLit p) <;> simp⟩

theorem GotKeys.step {D : DataW Unit} {left : Lit → Bool} {ss : List (Lk)} (h : GotKeys D left ss) {p : Lk} {y : DataW Unit} (ha : (Lit.int .i64 p.fn).wf = true) (hb : (Lit.int .i64 p.line).wf = true) (hlk : left (lkLit p) = true) (hat : ∀ zd, D.atKey (lkLit p) zd = y) : GotKeys D (fun z => left z && !z.sameKey (lkLit p)) (ss ++ [p]) := by
  have hhas : has D (lkLit p) = true := has_true_of_atKey hat
  have hnew : p ∉ ss := fun hx => by have := ((h.mem p ha hb).1 hx).2; rw [hlk] at this; cases this
  refine ⟨List.nodup_append.2 ⟨h.nodup, by simp, fun a h1 b h2 e => by rw [List.mem_singleton.1 h2] at e; rw [e] at h1; exact hnew h1⟩, fun q hq => ?_, fun q ha' hb' => ?_⟩
  · rcases List.mem_append.1 hq with hq | hq
    · exact h.wf q hq
    · rw [List.mem_singleton.1 hq]; exact ⟨ha, hb⟩
  · by_cases e : q = p
    · subst e
      have hs : (lkLit q).sameKey (lkLit q) = true := by simp [lkLit, Lit.sameKey]
      rw [hs]
      simp [hhas]
    · have hne : lkLit q ≠ lkLit p := fun e2 => e (lkLit_inj ha' hb' ha hb e2)
      rw [sameKey_ne hne]
      simp [h.mem q ha' hb', e]

/-- All have come. -/
theorem GotKeys.all {w : World} {b n : Nat} {D : DataW Unit} {g : Int → Int → Int} {left : Lit → Bool} {ss : List (Lk)} (h : GotKeys D left ss) (hm : LineMap w b n D g) (hl : ∀ kl, left kl = false) :
    ss.Nodup ∧ (∀ p, p ∈ ss → 1 ≤ g p.fn p.line) ∧ ∀ p : Lk, (Lit.int .i64 p.fn).wf = true → (Lit.int .i64 p.line).wf = true → 1 ≤ g p.fn p.line → p ∈ ss := by
  refine ⟨h.nodup, fun p hp => ?_, fun p ha hb hg => ?_⟩
  · obtain ⟨ha, hb⟩ := h.wf p hp
    have := ((h.mem p ha hb).1 hp).1
    exact (hm.2 p ha hb).1.1 this
  · exact (h.mem p ha hb).2 ⟨(hm.2 p ha hb).1.2 hg, hl _⟩
end Go.Proofs.Ytoiacbdnkkolmab
