import Derived.Test.YtoiacbdnkkolmabC10
import Derived.Test.YtoiacbdnkkolmabS9
namespace Go.Proofs.Ytoiacbdnkkolmab
open Go.RowKit

def atCells (l : List Nat) : List Value := l.reverse.map fun i => Value.int .i64 (i : Nat)

theorem owns_typed {w : World} {B : Nat} {e : TypeId} {z : Nat} {v : Value} {n : Nat} {xs : List Value} (h : w.ownsRow B e z v n xs) : ∀ g, v.ownBlock = some g → B ≤ g ∧ ∃ cs fr, w.heap[g]? = some (.cells cs e fr) := by
  intro g hg
  rcases h.2 with ⟨e1, _⟩ | ⟨g', cap, cur, e1, hB, hh, _⟩
  · rw [e1] at hg; cases hg
  · rw [e1] at hg; cases hg; exact ⟨hB, cur, _, hh⟩

/-- The memory of spec's call tree on its way: the branches, and for each task the branches of its open calls. -/
structure SpT (B : Nat) (w : World) (bt : Nat) (V : Nat → Value) (L : Nat → List Nat) (ov : Value) (bs : List Br) : Prop where
  hbt : B ≤ bt
  row : w.rowIs bt 55 101 V
  own : ∀ t, t < 101 → w.ownsRow B 3 1 (V t) (L t).length (atCells (L t))
  dis : ∀ t t', t < 101 → t' < 101 → t ≠ t' → (V t).ownBlock = none ∨ (V t).ownBlock ≠ (V t').ownBlock
  out : w.ownsRow B 117 4 ov bs.length (brCells bs)

theorem SpT.typed {B : Nat} {w : World} {bt : Nat} {V : Nat → Value} {L : Nat → List Nat} {ov : Value} {bs : List Br} (h : SpT B w bt V L ov bs) : ∃ cs fr, w.heap[bt]? = some (.cells cs 55 fr) := by
  obtain ⟨c, hc, _⟩ := h.row
  exact ⟨c, _, hc⟩

theorem SpT.nbt {B : Nat} {w : World} {bt : Nat} {V : Nat → Value} {L : Nat → List Nat} {ov : Value} {bs : List Br} (h : SpT B w bt V L ov bs) (t : Nat) (ht : t < 101) : (V t).ownBlock ≠ some bt := fun e => by
  obtain ⟨_, cs, fr, h1⟩ := owns_typed (h.own t ht) bt e
  obtain ⟨cs', fr', h2⟩ := h.typed
  rw [h1] at h2; cases h2

theorem SpT.obt {B : Nat} {w : World} {bt : Nat} {V : Nat → Value} {L : Nat → List Nat} {ov : Value} {bs : List Br} (h : SpT B w bt V L ov bs) : ov.ownBlock ≠ some bt := fun e => by
  obtain ⟨_, cs, fr, h1⟩ := owns_typed h.out bt e
  obtain ⟨cs', fr', h2⟩ := h.typed
  rw [h1] at h2; cases h2

theorem SpT.oV {B : Nat} {w : World} {bt : Nat} {V : Nat → Value} {L : Nat → List Nat} {ov : Value} {bs : List Br} (h : SpT B w bt V L ov bs) (t : Nat) (ht : t < 101) (g : Nat) (h1 : (V t).ownBlock = some g) (h2 : ov.ownBlock = some g) : False := by
  obtain ⟨_, cs, fr, e1⟩ := owns_typed (h.own t ht) g h1
  obtain ⟨_, cs', fr', e2⟩ := owns_typed h.out g h2
  rw [e1] at e2; cases e2

theorem SpT.below {B : Nat} {w w' : World} {bt : Nat} {V : Nat → Value} {L : Nat → List Nat} {ov : Value} {bs : List Br} (h : SpT B w bt V L ov bs) (hb : Below w.heap.size w w') : SpT B w' bt V L ov bs :=
  ⟨h.hbt, h.row.of_block (hb.block bt h.row.lt), fun t ht => owns_below (h.own t ht) hb, h.dis, owns_below h.out hb⟩

theorem opt_ne {a b : Option Nat} (h : ∀ g, a = some g → b ≠ some g) : a = none ∨ a ≠ b := by
  cases a with
  | none => exact .inl rfl
  | some g => exact .inr (fun e => h g rfl e.symm)

/-- Behind a search for a branch. -/
theorem SpT.branch {B : Nat} {w w' : World} {bt : Nat} {V : Nat → Value} {L : Nat → List Nat} {ov ov' : Value} {bs bs' : List Br} (h : SpT B w bt V L ov bs) (hg : w.grownBy w' ov.ownBlock) (ho : w'.ownsRow B 117 4 ov' bs'.length (brCells bs')) : SpT B w' bt V L ov' bs' :=
  ⟨h.hbt, h.row.of_block (hg.block bt h.row.lt (fun e => h.obt e.symm)), fun t ht => (h.own t ht).kept hg (opt_ne fun g e1 e2 => h.oV t ht g e1 e2), h.dis, ho⟩

/-- A cell of a branch is written. -/
theorem SpT.setOut {B : Nat} {w : World} {bt g cap : Nat} {V : Nat → Value} {L : Nat → List Nat} {bs bs' : List Br} {j : Nat} {u : Value} (h : SpT B w bt V L (.slice (some ⟨g, 0, none⟩) bs.length cap) bs) (hl : bs'.length = bs.length) (hc : (brCells bs).set j u = brCells bs') : SpT B (w.setCell ⟨g, j, none⟩ u) bt V L (.slice (some ⟨g, 0, none⟩) bs'.length cap) bs' := by
  have hgb : g ≠ bt := fun e => h.obt (by rw [e]; rfl)
  refine ⟨h.hbt, h.row.setOther (Ne.symm hgb) _, fun t ht => owns_setCell (h.own t ht) (fun e => h.oV t ht g e rfl), h.dis, ?_⟩
  rw [hl, ← hc]
  exact owns_set h.out j u

/-- The running task's slice has become another one, and is laid into its place. -/
theorem SpT.putRow {B : Nat} {w w2 : World} {bt cu g : Nat} {V : Nat → Value} {L : Nat → List Nat} {ov v' : Value} {bs : List Br} {l : List Nat} (h : SpT B w bt V L ov bs) (hcu : cu < 101) (hg : w.grownBy w2 (V cu).ownBlock) (ho : w2.ownsRow B 3 1 v' l.length (atCells l)) (hv : v'.ownBlock = some g) (hat : (V cu).ownBlock = some g ∨ w.heap.size ≤ g) :
    SpT B (w2.setCell ⟨bt, cu, none⟩ v') bt (fun t => if t = cu then v' else V t) (fun t => if t = cu then l else L t) ov bs := by
  have hbt := h.row.lt
  have n2 : some bt ≠ (V cu).ownBlock := fun e => h.nbt cu hcu e.symm
  have hgt : g ≠ bt := fun e => by
    rcases hat with h1 | h1
    · exact n2 (by rw [h1, e])
    · omega
  refine ⟨h.hbt, (h.row.of_block (hg.block bt hbt n2)).set cu v', fun t ht => ?_, fun t t' ht ht' hne => ?_, ?_⟩
  · show (w2.setCell _ _).ownsRow B _ 1 (if t = cu then v' else V t) (if t = cu then l else L t).length (atCells (if t = cu then l else L t))
    by_cases e : t = cu
    · rw [if_pos e, if_pos e]
      exact owns_setCell ho (by rw [hv]; simpa using hgt)
    · rw [if_neg e, if_neg e]
      exact owns_setCell ((h.own t ht).kept hg (h.dis t cu ht hcu e)) (h.nbt t ht)
  · by_cases e : t = cu
    · by_cases e' : t' = cu
      · exact absurd (e.trans e'.symm) hne
      · rw [if_pos e, if_neg e', hv]
        right
        intro h1
        rcases hat with h2 | h2
        · rcases h.dis t' cu ht' hcu e' with h3 | h3
          · rw [h3] at h1; cases h1
          · exact h3 (by rw [← h1, h2])
        · have := ((h.own t' ht').lt g h1.symm).2; omega
    · by_cases e' : t' = cu
      · rw [if_neg e, if_pos e', hv]
        by_cases h0 : (V t).ownBlock = none
        · exact .inl h0
        · right
          intro h1
          rcases hat with h2 | h2
          · rcases h.dis t cu ht hcu e with h3 | h3
            · exact h0 h3
            · exact h3 (by rw [h1, h2])
          · have := ((h.own t ht).lt g h1).2; omega
      · rw [if_neg e, if_neg e']; exact h.dis t t' ht ht' hne
  · refine owns_setCell (h.out.kept hg (opt_ne fun g' e1 e2 => h.oV cu hcu g' e2 e1)) (h.obt)
end Go.Proofs.Ytoiacbdnkkolmab
