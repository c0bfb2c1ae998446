import Derived.Test.YtmnmeaeicjhkhaaGreatDoorU1z
import Derived.Test.YtmnmeaeicjhkhaaGreatDoorGJaz
import Derived.Test.YtmnmeaeicjhkhaaGreatDoorC4z
import Derived.Lib.AppendStr
import Derived.Lib.UnsafeStr
/-
  The report's text as plain lists of bytes.
-/
namespace Go.Proofs.YtmnmeaeicjhkhaaGreatDoor
open Go.RowKit Go.Lib

def bl (b : ByteArray) : List UInt8 := b.data.toList

theorem bl_len (b : ByteArray) : (bl b).length = b.size := by cases b; rfl
theorem bl_app (a b : ByteArray) : bl (a ++ b) = bl a ++ bl b := by unfold bl; simp
theorem strCells_bl (s : ByteArray) : Lib.strCells s = Lib.byteCells (bl s) := rfl
theorem byteCells_app (a b : List UInt8) : Lib.byteCells (a ++ b) = Lib.byteCells a ++ Lib.byteCells b := List.map_append ..

/-- A fn's line, and a line's. -/
def fnLineT (i : Nat) (name : ByteArray) (c s t : Nat) : ByteArray :=
  ((((((((decS i ++ ⟨#[32]⟩) ++ name) ++ ⟨#[32, 99, 97, 108, 108, 115, 32]⟩) ++ decS c) ++ ⟨#[32, 115, 101, 108, 102, 32]⟩) ++ decS s) ++ ⟨#[32, 116, 111, 116, 97, 108, 32]⟩) ++ decS t) ++ ⟨#[10]⟩
def lineT (a b : Nat) : ByteArray := (((⟨#[9]⟩ ++ decS a) ++ ⟨#[32]⟩) ++ decS b) ++ ⟨#[10]⟩

theorem decS_size {u : Nat} (h : u ≤ 100000) : (decS u).size ≤ 100001 := by
  have := decDigits_le u
  show (Lib.decDigits u).toArray.size ≤ _
  simp only [List.size_toArray]
  omega

theorem fnLineT_size {i c s t : Nat} {name : ByteArray} (hi : i ≤ 100000) (hc : c ≤ 100000) (hs : s ≤ 100000) (ht : t ≤ 100000) (hn : name.size ≤ 40) : (fnLineT i name c s t).size ≤ 500000 := by
  have h1 := decS_size hi
  have h2 := decS_size hc
  have h3 := decS_size hs
  have h4 := decS_size ht
  unfold fnLineT
  simp only [ByteArray.size_append]
  have e1 : (⟨#[32]⟩ : ByteArray).size = 1 := rfl
  have e2 : (⟨#[32, 99, 97, 108, 108, 115, 32]⟩ : ByteArray).size = 7 := rfl
  have e3 : (⟨#[32, 115, 101, 108, 102, 32]⟩ : ByteArray).size = 6 := rfl
  have e4 : (⟨#[32, 116, 111, 116, 97, 108, 32]⟩ : ByteArray).size = 7 := rfl
  have e5 : (⟨#[10]⟩ : ByteArray).size = 1 := rfl
  omega

theorem lineT_size {a b : Nat} (ha : a ≤ 100000) (hb : b ≤ 100000) : (lineT a b).size ≤ 250000 := by
  have h1 := decS_size ha
  have h2 := decS_size hb
  unfold lineT
  simp only [ByteArray.size_append]
  have e1 : (⟨#[9]⟩ : ByteArray).size = 1 := rfl
  have e2 : (⟨#[32]⟩ : ByteArray).size = 1 := rfl
  have e3 : (⟨#[10]⟩ : ByteArray).size = 1 := rfl
  omega

/-- The lines of fn i among the first q rows. -/
def repRow (i : Nat) (l : List Lc) (q : Nat) : List UInt8 := (l.take q).flatMap fun r => if r.fn = (i : Int) then bl (lineT r.line.toNat r.cnt.toNat) else []

theorem repRow_zero (i : Nat) (l : List Lc) : repRow i l 0 = [] := rfl

theorem repRow_succ (i : Nat) (l : List Lc) (q : Nat) (h : q < l.length) : repRow i l (q + 1) = repRow i l q ++ if l[q].fn = (i : Int) then bl (lineT l[q].line.toNat l[q].cnt.toNat) else [] := by
  unfold repRow
  have h1 : l.take (q + 1) = l.take q ++ [l[q]] := by rw [List.take_add_one, List.getElem?_eq_getElem h]; rfl
  rw [h1, List.flatMap_append]
  simp

/-- What the report says of fn i, and of the first k fns. -/
def repFn (f : Nat → M) (n : Nat) (fns : Nat → ByteArray) (l : List Lc) (i : Nat) : List UInt8 :=
  if fcRow f n i 1 = 0 then [] else bl (fnLineT i (fns i) (fcRow f n i 1).toNat (fcRow f n i 2).toNat (fcRow f n i 3).toNat) ++ repRow i l l.length

def repTo (f : Nat → M) (n : Nat) (fns : Nat → ByteArray) (l : List Lc) : Nat → List UInt8
  | 0 => []
  | k + 1 => repTo f n fns l k ++ repFn f n fns l k

/-- The rows' numbers are small. -/
def SmallL (l : List Lc) : Prop := l.length ≤ 3000 ∧ ∀ r, r ∈ l → 0 ≤ r.line ∧ r.line ≤ 100000 ∧ 0 ≤ r.cnt ∧ r.cnt ≤ 100000

set_option maxRecDepth 10000 in
theorem repRow_len {i : Nat} {l : List Lc} (h : SmallL l) : ∀ q, q ≤ l.length → (repRow i l q).length ≤ q * 250000
  | 0, _ => by rw [repRow_zero, Nat.zero_mul]; exact Nat.le_refl 0
  | q + 1, hq => by
    have ih := repRow_len h (i := i) q (by omega)
    rw [repRow_succ _ _ _ (by omega), List.length_append]
    have hr := h.2 l[q] (List.getElem_mem (by omega))
    have hz := lineT_size (a := l[q].line.toNat) (b := l[q].cnt.toNat) (by omega) (by omega)
    have e : (if l[q].fn = (i : Int) then bl (lineT l[q].line.toNat l[q].cnt.toNat) else []).length ≤ 250000 := by
      by_cases hc : l[q].fn = (i : Int)
      · rw [if_pos hc, bl_len]; exact hz
      · rw [if_neg hc]; exact Nat.zero_le _
    rw [Nat.add_mul, Nat.one_mul]
    exact Nat.add_le_add ih e

set_option maxRecDepth 10000 in
theorem repFn_len {f : Nat → M} {n : Nat} {fns : Nat → ByteArray} {l : List Lc} {i : Nat} (h : SmallL l) (hn : n ≤ 3000) (hi : i ≤ 300) (hf : (fns i).size ≤ 40) : (repFn f n fns l i).length ≤ 800000000 := by
  unfold repFn
  split
  · exact Nat.zero_le _
  · have b1 := fcRow_bound f i 1 (by omega) n
    have b2 := fcRow_bound f i 2 (by omega) n
    have b3 := fcRow_bound f i 3 (by omega) n
    have h1 := fnLineT_size (i := i) (name := fns i) (c := (fcRow f n i 1).toNat) (s := (fcRow f n i 2).toNat) (t := (fcRow f n i 3).toNat) (by omega) (by omega) (by omega) (by omega) hf
    have h2 := repRow_len (i := i) h l.length (Nat.le_refl _)
    have h3 := h.1
    rw [List.length_append, bl_len]
    omega

set_option maxRecDepth 10000 in
theorem repTo_len {f : Nat → M} {n : Nat} {fns : Nat → ByteArray} {l : List Lc} (h : SmallL l) (hn : n ≤ 3000) : ∀ k, k ≤ 300 → (∀ i, i < k → (fns i).size ≤ 40) → (repTo f n fns l k).length ≤ k * 800000000
  | 0, _, _ => by rw [Nat.zero_mul]; exact Nat.le_refl 0
  | k + 1, hk, hf => by
    have ih := repTo_len (f := f) h hn k (by omega) (fun i hi => hf i (by omega))
    have h2 := repFn_len (f := f) (n := n) (fns := fns) (i := k) h hn (by omega) (hf k (by omega))
    show (repTo f n fns l k ++ repFn f n fns l k).length ≤ _
    rw [List.length_append]
    omega

theorem fcRow_text (f : Nat → M) : ∀ n, 1 ≤ fcRow f n 0 1
  | 0 => by show 1 ≤ (if (1 : Nat) = 0 then ((0 : Nat) : Int) else if 1 = 1 ∧ 0 = 0 then 1 else 0); decide
  | n + 1 => by
    have ih := fcRow_text f n
    have h := fcAdd_bound (f n) (runs f (n + 1)) 0 1
    show 1 ≤ fcRow f n 0 1 + fcAdd (f n) (runs f (n + 1)) 0 1
    omega

theorem repTo_some (f : Nat → M) (n : Nat) (fns : Nat → ByteArray) (l : List Lc) : ∀ k, repTo f n fns l (k + 1) ≠ []
  | 0 => by
    show [] ++ repFn f n fns l 0 ≠ []
    have h := fcRow_text f n
    unfold repFn
    rw [if_neg (by omega)]
    intro e
    have e2 := congrArg List.length e
    rw [List.nil_append, List.length_append, bl_len] at e2
    unfold fnLineT at e2
    simp only [ByteArray.size_append, List.length_nil] at e2
    have e5 : (⟨#[10]⟩ : ByteArray).size = 1 := rfl
    omega
  | k + 1 => by
    intro e
    have := List.append_eq_nil_iff.1 (show repTo f n fns l (k + 1) ++ repFn f n fns l (k + 1) = [] from e)
    exact repTo_some f n fns l k this.1

theorem small_of {nf : Nat} {fns : Nat → ByteArray} {n : Nat} {f : Nat → M} {l : List Lc} (hS : Sound nf fns n f) (h : LcIs f n l) : SmallL l := by
  have hn := hS.1.2.2.1
  refine ⟨by have := h.len; omega, fun r hr => ?_⟩
  obtain ⟨e, hc⟩ := h.cnt r hr
  have hb := lcN_bound f r.fn r.line n
  have hex : ∀ k, 1 ≤ lcN f k r.fn r.line → ∃ i, i < k ∧ (f i).line = r.line := by
    intro k
    induction k with
    | zero => intro h0; exact absurd (show (1 : Int) ≤ 0 from h0) (by decide)
    | succ k ih =>
      intro h0
      rw [lcN_succ] at h0
      by_cases e : (f k).kind = 1 ∧ (f k).fn = r.fn ∧ (f k).line = r.line
      · exact ⟨k, by omega, e.2.2⟩
      · rw [if_neg e] at h0
        obtain ⟨i, hi, h2⟩ := ih (by omega)
        exact ⟨i, by omega, h2⟩
  obtain ⟨i, hi, e2⟩ := hex n (by omega)
  have hm := (hS.2.1 i hi).1
  have h3 : 0 ≤ (f i).line := hm.2.2.2.2.2.2.1
  have h4 : (f i).line ≤ 100000 := hm.2.2.2.2.2.2.2.1
  omega

/-- The answer of Report. -/
def RpAns (nf : Nat) (fns : Nat → ByteArray) (n : Nat) (f : Nat → M) (s : ByteArray) : Prop :=
  (Sound nf fns n f ∧ ∃ l, LcIs f n l ∧ s = ⟨(repTo f n fns l nf).toArray⟩) ∨ (¬ Sound nf fns n f ∧ s = ⟨#[]⟩)

theorem RpAns.unique {nf : Nat} {fns : Nat → ByteArray} {n : Nat} {f : Nat → M} {s1 s2 : ByteArray} (h1 : RpAns nf fns n f s1) (h2 : RpAns nf fns n f s2) : s1 = s2 := by
  rcases h1 with ⟨a1, l1, i1, rfl⟩ | ⟨a1, rfl⟩ <;> rcases h2 with ⟨a2, l2, i2, rfl⟩ | ⟨a2, rfl⟩
  · rw [i1.unique i2]
  · exact absurd a1 a2
  · exact absurd a2 a1
  · rfl
end Go.Proofs.YtmnmeaeicjhkhaaGreatDoor
