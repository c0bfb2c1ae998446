import Derived.Test.YtoiacbdnkkolmabT4
namespace Go.Proofs.Ytoiacbdnkkolmab
open Go.RowKit

/-- A cell that a mark may be laid over: a number or a text. -/
def plainV : Value → Bool
  | .int _ _ => true
  | .string _ => true
  | _ => false

/-- Between the worlds only blocks from lo up to hi were written, there only plain cells, with plain values. -/
structure Betw (lo hi : Nat) (w w' : World) : Prop where
  os : w'.os = w.os
  tape : w'.tape = w.tape
  output : w'.output = w.output
  size : w.heap.size ≤ w'.heap.size
  block : ∀ b, b < w.heap.size → (b < lo ∨ hi ≤ b) → w'.heap[b]? = w.heap[b]?
  fz : ∀ p : Addr, p.block < w.heap.size → w'.frozen? p = w.frozen? p
  pl : ∀ (p : Addr) (u : Value), w.cell? p = some u → plainV u = true → ∃ u', w'.cell? p = some u' ∧ plainV u' = true
  fix : ∀ (p : Addr) (u : Value), w.cell? p = some u → plainV u = false → w'.cell? p = some u

theorem Betw.refl (lo hi : Nat) (w : World) : Betw lo hi w w := ⟨rfl, rfl, rfl, Nat.le_refl _, fun _ _ _ => rfl, fun _ _ => rfl, fun _ u h e => ⟨u, h, e⟩, fun _ _ h _ => h⟩

theorem Betw.trans {lo hi : Nat} {a b c : World} (h : Betw lo hi a b) (k : Betw lo hi b c) : Betw lo hi a c :=
  ⟨k.os.trans h.os, k.tape.trans h.tape, k.output.trans h.output, Nat.le_trans h.size k.size, fun i hi' hr => (k.block i (Nat.lt_of_lt_of_le hi' h.size) hr).trans (h.block i hi' hr),
   fun p hp => (k.fz p (Nat.lt_of_lt_of_le hp h.size)).trans (h.fz p hp),
   fun p u hu e => by obtain ⟨u1, h1, e1⟩ := h.pl p u hu e; exact k.pl p u1 h1 e1,
   fun p u hu e => k.fix p u (h.fix p u hu e) e⟩

theorem Betw.of_below {w w' : World} (lo hi : Nat) (h : Below w.heap.size w w') : Betw lo hi w w' :=
  ⟨h.os, h.tape, h.output, h.size, fun b hb _ => h.block b hb, fun _ hp => h.frozen hp, fun _ u hu e => ⟨u, cell_below h hu, e⟩, fun _ _ hu _ => cell_below h hu⟩

theorem Betw.setCell {lo hi : Nat} {a w : World} (h : Betw lo hi a w) {p : Addr} {u0 u : Value} (h1 : lo ≤ p.block) (h2 : p.block < hi) (hc : w.cell? p = some u0) (e0 : plainV u0 = true) (e : plainV u = true) : Betw lo hi a (w.setCell p u) := by
  refine h.trans ⟨rfl, rfl, rfl, by simp [World.setCell], fun b _ hr => Below.heap_setCell _ _ _ _ (by omega), fun q _ => World.frozen?_setCell .., fun q v hv ev => ?_, fun q v hv ev => ?_⟩
  · by_cases hq : q = p
    · subst hq
      exact ⟨u, World.cell?_setCell_same' _ _ _ (by rw [hc]; rfl), e⟩
    · exact ⟨v, by rw [World.cell?_setCell_other _ _ _ _ (fun h => hq h.symm)]; exact hv, ev⟩
  · by_cases hq : q = p
    · subst hq
      rw [hc] at hv
      cases hv
      rw [e0] at ev
      cases ev
    · rw [World.cell?_setCell_other _ _ _ _ (fun h => hq h.symm)]; exact hv

theorem Betw.below {lo hi : Nat} {w w' : World} (h : Betw lo hi w w') (hl : lo ≤ w.heap.size) : Below lo w w' := ⟨h.os, h.tape, h.output, h.size, fun b hb => h.block b (by omega) (.inl hb)⟩

/-- A cell that may be marked. -/
def Mk (lo hi : Nat) (w : World) (p : Addr) : Prop := lo ≤ p.block ∧ p.block < hi ∧ (∃ u, w.cell? p = some u ∧ plainV u = true) ∧ w.frozen? p = false

theorem Mk.go {lo hi : Nat} {w w' : World} {p : Addr} (h : Mk lo hi w p) (hb : Betw lo hi w w') : Mk lo hi w' p := by
  obtain ⟨h1, h2, ⟨u, hu, e⟩, h4⟩ := h
  exact ⟨h1, h2, hb.pl p u hu e, by rw [hb.fz p (cell_lt hu)]; exact h4⟩

theorem Mk.set {lo hi : Nat} {a w : World} {p : Addr} {u : Value} (h : Mk lo hi w p) (hb : Betw lo hi a w) (e : plainV u = true) : Betw lo hi a (w.setCell p u) := by
  obtain ⟨h1, h2, ⟨u0, hu, e0⟩, h4⟩ := h
  exact hb.setCell h1 h2 hu e0 e

def StrsM (lo hi : Nat) (w : World) (v : Value) (n : Nat) : Prop :=
  ∃ a cap, v = .slice a n cap ∧ ∀ i, i < n → ∃ b o, a = some ⟨b, o, none⟩ ∧ Mk lo hi w ⟨b, o + i, none⟩

def VarsM (lo hi : Nat) (w : World) (v : Value) (n : Nat) : Prop :=
  ∃ a cap, v = .slice a n cap ∧ ∀ i, i < n → ∃ b o, a = some ⟨b, o, none⟩ ∧ Mk lo hi w ⟨b, o + i * 2, none⟩ ∧ Mk lo hi w ⟨b, o + i * 2 + 1, none⟩

def MomsM (lo hi : Nat) (w : World) (v : Value) (n : Nat) : Prop :=
  ∃ a cap, v = .slice a n cap ∧ ∀ i, i < n → ∃ b o vv m, a = some ⟨b, o, none⟩ ∧ (Mk lo hi w ⟨b, o + i * 6, none⟩ ∧ Mk lo hi w ⟨b, o + i * 6 + 1, none⟩ ∧ Mk lo hi w ⟨b, o + i * 6 + 2, none⟩ ∧ Mk lo hi w ⟨b, o + i * 6 + 3, none⟩ ∧ Mk lo hi w ⟨b, o + i * 6 + 4, none⟩) ∧
    w.cell? ⟨b, o + i * 6 + 5, none⟩ = some vv ∧ VarsM lo hi w vv m ∧ m ≤ 1048576

theorem StrsM.go {lo hi : Nat} {w w' : World} {v : Value} {n : Nat} (h : StrsM lo hi w v n) (hb : Betw lo hi w w') : StrsM lo hi w' v n := by
  obtain ⟨a, cap, hv, h⟩ := h
  refine ⟨a, cap, hv, fun i hi => ?_⟩
  obtain ⟨b, o, ha, h1⟩ := h i hi
  exact ⟨b, o, ha, h1.go hb⟩

theorem VarsM.go {lo hi : Nat} {w w' : World} {v : Value} {n : Nat} (h : VarsM lo hi w v n) (hb : Betw lo hi w w') : VarsM lo hi w' v n := by
  obtain ⟨a, cap, hv, h⟩ := h
  refine ⟨a, cap, hv, fun i hi => ?_⟩
  obtain ⟨b, o, ha, h1, h2⟩ := h i hi
  exact ⟨b, o, ha, h1.go hb, h2.go hb⟩

theorem MomsM.go {lo hi : Nat} {w w' : World} {v : Value} {n : Nat} (h : MomsM lo hi w v n) (hb : Betw lo hi w w') : MomsM lo hi w' v n := by
  obtain ⟨a, cap, hv, h⟩ := h
  refine ⟨a, cap, hv, fun i hi => ?_⟩
  obtain ⟨b, o, vv, m, ha, ⟨h0, h1, h2, h3, h4⟩, hc, hvv, hm⟩ := h i hi
  refine ⟨b, o, vv, m, ha, ⟨h0.go hb, h1.go hb, h2.go hb, h3.go hb, h4.go hb⟩, hb.fix _ _ hc ?_, hvv.go hb, hm⟩
  obtain ⟨a', cap', rfl, _⟩ := hvv
  rfl

theorem Mine.mk {lo : Nat} {w : World} {p : Addr} {u : Value} (hl : lo ≠ 0) (h : Mine lo w p) (hc : w.cell? p = some u) (e : plainV u = true) : Mk lo w.heap.size w p := ⟨h.1, cell_lt hc, ⟨u, hc, e⟩, h.2 hl⟩

theorem StrsAt.marks {lo : Nat} {w : World} {v : Value} {n : Nat} {f : Nat → ByteArray} (hl : lo ≠ 0) (h : StrsAt lo w v n f) : StrsM lo w.heap.size w v n := by
  obtain ⟨a, cap, hv, hn, h⟩ := h
  refine ⟨a, cap, hv, fun i hi => ?_⟩
  obtain ⟨b, o, ha, h1, h2, h3⟩ := h i hi
  exact ⟨b, o, ha, h3.mk hl h1 rfl⟩

theorem VarsAt.marks {lo : Nat} {w : World} {v : Value} {n : Nat} {f : Nat → V} (hl : lo ≠ 0) (h : VarsAt lo w v n f) : VarsM lo w.heap.size w v n := by
  obtain ⟨a, cap, hv, hn, h⟩ := h
  refine ⟨a, cap, hv, fun i hi => ?_⟩
  obtain ⟨b, o, ha, h1, h2, h3, h4, h5, h6⟩ := h i hi
  exact ⟨b, o, ha, h5.mk hl h1 rfl, h6.mk hl h2 rfl⟩

theorem MomsAt.marks {lo : Nat} {w : World} {v : Value} {n : Nat} {f : Nat → M} (hl : lo ≠ 0) (h : MomsAt lo w v n f) (hnv : ∀ i, i < n → (f i).nv ≤ 1048576) : MomsM lo w.heap.size w v n := by
  obtain ⟨a, cap, hv, hn, h⟩ := h
  refine ⟨a, cap, hv, fun i hi => ?_⟩
  obtain ⟨b, o, vv, ha, h0, h1, h2, h3, h4, h5, h6, h7, h8⟩ := h i hi
  exact ⟨b, o, vv, _, ha, ⟨(h8 0 (by omega)).mk hl h0 rfl, (h8 1 (by omega)).mk hl h1 rfl, (h8 2 (by omega)).mk hl h2 rfl, (h8 3 (by omega)).mk hl h3 rfl, (h8 4 (by omega)).mk hl h4 rfl⟩, h5, h7.marks hl, hnv i hi⟩

set_option maxHeartbeats 400000 in
theorem markStringS_any (lo hi : Nat) (v : Value) (n : Nat) (k : Int) (w : World) (hv : StrsM lo hi w v n) (hn : n ≤ 1048576) (hk : 0 < k) (hk2 : k + n ≤ 4398046511104) :
    Calls Try.prog 72 #[v, .int .i64 k] w fun e w' => e = .returned (.int .i64 (k + n)) ∧ Betw lo hi w w' := by
  have HV := hide hv
  obtain ⟨a, cap, rfl, _⟩ := hv
  go_enter Try.func72, Try.ntmps72
  go_wp2
  go_loopw [1, 5] (fun q i wr => ∃ (j : Nat), j ≤ n ∧ q = .int .i64 (k + j) ∧ i = .int .i64 j ∧ Betw lo hi w wr) (fun _ i _ => n - (intOf i).toNat)
  case atStart => exact ⟨0, by omega, by simp, rfl, Betw.refl _ _ _⟩
  case round =>
    obtain ⟨j, hj, rfl, rfl, hb⟩ := hrel
    have HB := hide hb
    clear hb
    by_cases hlt : j < n
    · obtain ⟨a', cap', e, hv⟩ := (unhide HV).go (unhide HB)
      cases e
      obtain ⟨b, o, rfl, hm⟩ := hv j hlt
      clear hv
      have HM := hide hm
      clear hm
      go_wp2_with fail
      refine (markText_any _ _ (by omega) (by omega)).mono ?_
      rintro e w1 ⟨⟨s, rfl⟩, hb1⟩
      have HB1 := hide ((unhide HB).trans (Betw.of_below lo hi hb1))
      have HM1 := hide ((unhide HM).go (Betw.of_below lo hi hb1))
      obtain ⟨-, -, ⟨u, hc, -⟩, hf⟩ := unhide HM1
      clear hb1 HM HB
      go_wp2
      go_roundw
      case rel => exact ⟨j + 1, by omega, by go_num, by go_num, (unhide HM1).set (unhide HB1) rfl⟩
      case measure => simp [intOf]; omega
    · have e : j = n := by omega
      subst e
      go_wp2
      go_ret
      exact ⟨rfl, unhide HB⟩

set_option maxHeartbeats 400000 in
theorem markVarS_any (lo hi : Nat) (v : Value) (n : Nat) (k : Int) (w : World) (hv : VarsM lo hi w v n) (hn : n ≤ 1048576) (hk : 0 < k) (hk2 : k + n * 2 ≤ 4398046511104) :
    Calls Try.prog 114 #[v, .int .i64 k] w fun e w' => e = .returned (.int .i64 (k + n * 2)) ∧ Betw lo hi w w' := by
  have HV := hide hv
  obtain ⟨a, cap, rfl, _⟩ := hv
  go_enter Try.func114, Try.ntmps114
  go_wp2
  go_loopw [1, 5] (fun q i wr => ∃ (j : Nat), j ≤ n ∧ q = .int .i64 (k + j * 2) ∧ i = .int .i64 j ∧ Betw lo hi w wr) (fun _ i _ => n - (intOf i).toNat)
  case atStart => exact ⟨0, by omega, by simp, rfl, Betw.refl _ _ _⟩
  case round =>
    obtain ⟨j, hj, rfl, rfl, hb⟩ := hrel
    have HB := hide hb
    clear hb
    by_cases hlt : j < n
    · obtain ⟨a', cap', e, hv⟩ := (unhide HV).go (unhide HB)
      cases e
      obtain ⟨b, o, rfl, hm, hm2⟩ := hv j hlt
      clear hv
      have HM := hide (And.intro hm hm2)
      clear hm hm2
      go_wp2_with fail
      refine (markText_any _ _ (by omega) (by omega)).mono ?_
      rintro e w1 ⟨⟨s, rfl⟩, hb1⟩
      have HB1 := hide ((unhide HB).trans (Betw.of_below lo hi hb1))
      have HM1 := hide ((unhide HM).1.go (Betw.of_below lo hi hb1))
      have HM2 := hide ((unhide HM).2.go (Betw.of_below lo hi hb1))
      obtain ⟨-, -, ⟨u, hc, -⟩, hf⟩ := unhide HM1
      have HX := hide ((unhide HM1).set (u := .string s) (Betw.refl lo hi w1) rfl)
      clear hb1 HM HB
      go_wp2_with fail
      refine (markText_any _ _ (by omega) (by omega)).mono ?_
      rintro e w2 ⟨⟨s2, rfl⟩, hb2⟩
      have HB2 := hide (((unhide HB1).trans (unhide HX)).trans (Betw.of_below lo hi hb2))
      have HM3 := hide (((unhide HM2).go (unhide HX)).go (Betw.of_below lo hi hb2))
      obtain ⟨-, -, ⟨u2, hc2, -⟩, hf2⟩ := unhide HM3
      clear hb2 hc hf
      go_wp2
      go_roundw
      case rel => exact ⟨j + 1, by omega, by go_num, by go_num, (unhide HM3).set (unhide HB2) rfl⟩
      case measure => simp [intOf]; omega
    · have e : j = n := by omega
      subst e
      go_wp2
      go_ret
      exact ⟨rfl, unhide HB⟩
end Go.Proofs.Ytoiacbdnkkolmab
