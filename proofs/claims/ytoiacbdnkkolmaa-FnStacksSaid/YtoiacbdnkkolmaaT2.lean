import Derived.Test.YtoiacbdnkkolmaaT1
namespace Go.Proofs.Ytoiacbdnkkolmaa
open Go.RowKit

/-- The answer of StackAt. -/
def IsStack (nf : Nat) (fns : Nat → ByteArray) (n : Nat) (f : Nat → M) (k t : Int) (l : List Fr) : Prop :=
  (Sound nf fns n f ∧ (-1 ≤ k ∧ k ≤ n) ∧ (0 ≤ t ∧ t ≤ 100) ∧ l = (St.after f (upto n k)).tasks t.toNat) ∨ (¬ (Sound nf fns n f ∧ (-1 ≤ k ∧ k ≤ n) ∧ (0 ≤ t ∧ t ≤ 100)) ∧ l = [])

theorem IsStack.unique {nf : Nat} {fns : Nat → ByteArray} {n : Nat} {f : Nat → M} {k t : Int} {l l' : List Fr} (h : IsStack nf fns n f k t l) (h' : IsStack nf fns n f k t l') : l = l' := by
  rcases h with ⟨a, b, c, rfl⟩ | ⟨a, rfl⟩ <;> rcases h' with ⟨a', b', c', rfl⟩ | ⟨a', rfl⟩
  · rfl
  · exact absurd ⟨a, b, c⟩ a'
  · exact absurd ⟨a', b', c'⟩ a
  · rfl

theorem FrsAt_nil (lo : Nat) (w : World) : FrsAt lo w (.slice none 0 0) [] := World.ownsRow_nil _ _ _ _

set_option maxRecDepth 100000 in
set_option maxHeartbeats 1000000 in
theorem implStackAt_any (lo : Nat) (v1 v2 : Value) (nf : Nat) (fns : Nat → ByteArray) (n : Nat) (f : Nat → M) (k t : Int) (w : World) (h1 : StrsAt lo w v1 nf fns) (h2 : MomsAt lo w v2 n f) :
    Calls Try.prog 17 #[.agg #[v1, v2], .int .i64 k, .int .i64 t] w fun e w' => (∃ v l, e = .returned v ∧ IsStack nf fns n f k t l ∧ FrsAt w.heap.size w' v l ∧ l.length ≤ 200) ∧ Below w.heap.size w w' := by
  have H1 := hide h1; clear h1
  have H2 := hide h2; clear h2
  have T0 := hide (TrBox.new w v1 v2)
  go_enter Try.func17, Try.ntmps17
  go_wp2_with fail
  refine (readTrace_any lo _ _ nf fns n f _ ((unhide H1).below (unhide T0).below) ((unhide H2).below (unhide T0).below)).mono ?_
  rintro e w1 ⟨⟨pv, c, m, rfl, ha, hp, pa, pn, pc, rfl⟩, hb1⟩
  have BA := hide (below_new w1 (.cells #[.int .i64 c, .int .i64 m] 70))
  have T1 := hide (((unhide T0).go hb1).go (unhide BA))
  clear hb1 T0
  by_cases hc : c = 0
  · have HS := hide (ha.zero.1.1 hc)
    have hm := ha.zero.2 hc
    have HP := hide ((hp hc).below (unhide BA))
    subst hm
    subst hc
    clear ha hp
    have g0 := (unhide T1).b0
    have g1 := (unhide T1).b1
    go_wp2_with fail
    refine (isPlace_any lo _ _ n f k _ ((unhide H2).below (unhide T1).below)).mono ?_
    rintro e w2 ⟨rfl, hb2⟩
    have HP2 := hide ((unhide HP).below hb2)
    have T2 := hide ((unhide T1).go hb2); clear hb2 T1 g0 g1 HP
    by_cases hk : -1 ≤ k ∧ k ≤ (n : Int)
    · have hkb : decide (-1 ≤ k ∧ k ≤ (n : Int)) = true := by simpa using hk
      rw [hkb]
      clear hkb
      have HK := hide hk; clear hk
      by_cases t1 : decide (t < 0) = true
      · go_wp2
        go_ret
        exact ⟨⟨_, [], rfl, .inr ⟨fun h => by simp at t1; omega, rfl⟩, FrsAt_nil _ _, Nat.zero_le _⟩, (unhide T2).below⟩
      have t1 : decide (t < 0) = false := by simpa using t1
      by_cases t2 : decide (101 ≤ t) = true
      · go_wp2
        go_ret
        exact ⟨⟨_, [], rfl, .inr ⟨fun h => by simp at t2; omega, rfl⟩, FrsAt_nil _ _, Nat.zero_le _⟩, (unhide T2).below⟩
      have t2 : decide (101 ≤ t) = false := by simpa using t2
      go_wp2_with fail
      refine (placeAt_any _ _ n f k _ (unhide HP2) (unhide HS).1.2.2.1 (unhide HK).1 (unhide HK).2).mono ?_
      rintro e w3 ⟨⟨top, bw, rfl, hpl⟩, hb3⟩
      have T3 := hide ((unhide T2).go hb3)
      have HPL := hide hpl
      clear hb3 hpl T2
      obtain ⟨u, rfl⟩ : ∃ u : Nat, t = (u : Int) := Int.eq_ofNat_of_zero_le (by simpa using t1)
      have hu : u < 101 := by simp at t2; omega
      go_wp2_with fail
      refine (openIn_any _ u top bw _ (unhide HPL) hu).mono ?_
      rintro e w4 ⟨⟨p, rfl, hli⟩, hb4⟩
      have T4 := hide ((unhide T3).go hb4)
      have HLI := hide hli
      have HLE := hide ((unhide HPL).2.2.2 u hu).1
      clear hb4 hli T3
      go_wp2_with fail
      refine (frames_any _ p _ (unhide HLI) (unhide HLE)).mono ?_
      rintro e w5 ⟨⟨v, rfl, hfr⟩, hb5⟩
      have T5 := hide ((unhide T4).go hb5)
      have HFR := hide hfr
      clear hb5 hfr
      go_wp2
      go_ret
      exact ⟨⟨v, _, rfl, .inl ⟨unhide HS, unhide HK, ⟨by omega, by omega⟩, by rw [Int.toNat_natCast]⟩, owns_low (unhide HFR) (by have := (unhide T4).size; omega), unhide HLE⟩, (unhide T5).below⟩
    · have hkb : decide (-1 ≤ k ∧ k ≤ (n : Int)) = false := by simpa using hk
      rw [hkb]
      clear hkb
      have HK := hide hk; clear hk
      go_wp2
      go_ret
      exact ⟨⟨_, [], rfl, .inr ⟨fun h => unhide HK h.2.1, rfl⟩, FrsAt_nil _ _, Nat.zero_le _⟩, (unhide T2).below⟩
  · have HS : Hid (¬ Sound nf fns n f) := hide (fun h => hc (ha.zero.1.2 h))
    have hcb : (c == 0) = false := by simpa using hc
    clear ha hp hc
    go_wp2
    go_ret
    exact ⟨⟨_, [], rfl, .inr ⟨fun h => unhide HS h.1, rfl⟩, FrsAt_nil _ _, Nat.zero_le _⟩, (unhide T1).below⟩

theorem frCells_get : ∀ (l : List Fr) (i : Nat) (h : i < l.length), (frCells l)[i * 3]? = some (.int .i64 l[i].fn) ∧ (frCells l)[i * 3 + 1]? = some (.int .i64 l[i].line) ∧ (frCells l)[i * 3 + 2]? = some (.int .i64 l[i].frm)
  | f :: r, 0, _ => ⟨rfl, rfl, rfl⟩
  | f :: r, i + 1, h => by
    have ih := frCells_get r i (by simpa using h)
    have e : frCells (f :: r) = [.int .i64 f.fn, .int .i64 f.line, .int .i64 f.frm] ++ frCells r := rfl
    rw [e, show (i + 1) * 3 = 3 + i * 3 by omega]
    refine ⟨?_, ?_, ?_⟩
    · rw [List.getElem?_append_right (by simp)]; simpa using ih.1
    · rw [List.getElem?_append_right (by simp; omega), show 3 + i * 3 + 1 - [(Value.int .i64 f.fn), .int .i64 f.line, .int .i64 f.frm].length = i * 3 + 1 by simp; omega]; simpa using ih.2.1
    · rw [List.getElem?_append_right (by simp; omega), show 3 + i * 3 + 2 - [(Value.int .i64 f.fn), .int .i64 f.line, .int .i64 f.frm].length = i * 3 + 2 by simp; omega]; simpa using ih.2.2

set_option maxRecDepth 100000 in
set_option maxHeartbeats 1000000 in
theorem l1inner_any (B : Nat) (v : Value) (l : List Fr) (w : World) (h : w.ownsRow B 48 3 v l.length (frCells l.reverse)) (hl : l.length ≤ 200) :
    Calls Try.prog 74 #[v] w fun e w' => (∃ v', e = .returned v' ∧ FrsAt w.heap.size w' v' l) ∧ Below w.heap.size w w' := by
  have H := hide h
  obtain ⟨va, vc, rfl⟩ := owns_slice h
  clear h
  obtain ⟨i0, hi0, hz0, hz1, hz2⟩ := info_parts info_Frame
  have II := hide (And.intro hi0 (And.intro hz0 (And.intro hz1 hz2))); clear hi0 hz0 hz1 hz2
  obtain ⟨len, hlen⟩ : ∃ len, len = l.length := ⟨_, rfl⟩
  rw [← hlen] at H hl
  rw [← hlen]
  have HLN := hide hlen; clear hlen
  go_enter Try.func74, Try.ntmps74
  go_wp2
  go_loopw [3, 4] (fun o i wr => ∃ (j : Nat), j ≤ len ∧ i = .int .i64 ((j : Int) - 1) ∧ FrsAt w.heap.size wr o (l.take (len - j)) ∧ (∃ a n cp, o = .slice a n cp) ∧ Below w.heap.size w wr) (fun _ i _ => (intOf i + 1).toNat)
  case atStart => exact ⟨len, Nat.le_refl _, rfl, by rw [Nat.sub_self, List.take_zero]; exact FrsAt_nil _ _, ⟨_, _, _, rfl⟩, Below.refl _ _⟩
  case round =>
    obtain ⟨j, hj, rfl, hfr, ⟨oa, on, oc, rfl⟩, hb⟩ := hrel
    have HF := hide hfr
    have HB := hide hb
    cases j with
    | zero =>
      clear hfr hb
      go_wp2
      go_ret
      refine ⟨⟨_, rfl, ?_⟩, unhide HB⟩
      have := unhide HF
      rwa [Nat.sub_zero, List.take_of_length_le (by rw [unhide HLN]; exact Nat.le_refl _)] at this
    | succ j' =>
      have hj' : j' < l.reverse.length := by rw [List.length_reverse, ← unhide HLN]; omega
      obtain ⟨e0, e1, e2⟩ := frCells_get l.reverse j' hj'
      obtain ⟨f, hf⟩ : ∃ f, f = l.reverse[j'] := ⟨_, rfl⟩
      rw [← hf] at e0 e1 e2
      have hfl : l[len - (j' + 1)]? = some f := by
        rw [hf, List.getElem_reverse]
        rw [List.getElem?_eq_getElem (by rw [unhide HLN] at hj ⊢; omega)]
        congr 1
        simp only [unhide HLN]
        congr 1
        omega
      obtain ⟨ga, hga⟩ : ∃ ga, va = some ⟨ga, 0, none⟩ := by
        rcases (unhide H).2 with ⟨_, h0⟩ | ⟨g, cap, cur, hv, _⟩
        · omega
        · cases hv; exact ⟨g, rfl⟩
      subst hga
      have c0 := cell_below hb (owns_cell (unhide H) _ _ e0).1
      have c1 := cell_below hb (owns_cell (unhide H) _ _ e1).1
      have c2 := cell_below hb (owns_cell (unhide H) _ _ e2).1
      have hzz : w.heap.size ≤ wr.heap.size := hb.size
      have HFL := hide hfl
      clear e0 e1 e2 hf hfl hfr hb
      have hdl : (l.take (len - (j' + 1))).length = len - (j' + 1) := by rw [List.length_take, ← unhide HLN]; omega
      have HA := hide ((unhide HF).below (below_new wr (.cells #[.int .i64 f.fn, .int .i64 f.line, .int .i64 f.frm] 48)))
      have HNW : Hid (∀ j u, ([.int .i64 f.fn, .int .i64 f.line, .int .i64 f.frm] : List Value)[j]? = some u → (wr.alloc (.cells #[.int .i64 f.fn, .int .i64 f.line, .int .i64 f.frm] 48)).cell? ((⟨wr.heap.size, 0, none⟩ : Addr).add j) = some u) :=
        hide (World.news_of_block (cs := #[.int .i64 f.fn, .int .i64 f.line, .int .i64 f.frm]) (t := 48) (fr := (0, 0)) (heap_alloc_new wr _))
      have HDL := hide hdl
      have hm2 : (l.take (len - (j' + 1))).length ≤ 200 := by omega
      clear hdl
      obtain ⟨d, hd⟩ : ∃ d, d = l.take (len - (j' + 1)) := ⟨_, rfl⟩
      rw [← hd] at HA HF HDL hm2
      have HD := hide hd
      clear hd
      have hi1 : (0 : Int) ≤ (j' : Int) := by omega
      have hi2 : (j' : Int) < (len : Int) := by omega
      have hi3 : ((j' + 1 : Nat) : Int) - 1 = (j' : Int) := by omega
      rw [hi3]
      clear hi3
      go_wp2_with (at_builtin; refine wpList_append_lies _ (by rfl) _ _ _ (by rfl) w.heap.size 48 i0 _ 3 24 Try.underlying45 (unhide II).1 (unhide II).2.1 (unhide II).2.2.1 (unhide II).2.2.2 rfl (by omega) (.slice oa on oc) d.length (frCells d) (by rfl) (unhide HA) ⟨wr.heap.size, 0, none⟩ 1 1 [.int .i64 f.fn, .int .i64 f.line, .int .i64 f.frm] (by rfl) (by rfl) (unhide HNW) (by simp [Value.oneCell']) (by omega) (by unfold maxLen; omega) (by omega) (by simp; omega) (wr.heap.size + 1) (by simp) ?_; intro g2 cp2 w7 hown hgrow _ _; have HB7 : Hid (Below w.heap.size w w7) := hide (Below.grown ((unhide HB).alloc hzz _) hgrow (by simp; omega) (fun k hk => ((unhide HA).lt k hk).1)); have HO7 := hide hown; clear hown hgrow)
      go_roundw
      case rel =>
        refine ⟨j', by omega, rfl, ?_, ⟨_, _, _, rfl⟩, unhide HB7⟩
        have e : l.take (len - j') = d ++ [f] := by
          rw [show len - j' = (len - (j' + 1)) + 1 by omega, List.take_add_one, unhide HFL, unhide HD]; rfl
        unfold FrsAt
        rw [e, List.length_append, frCells_app]
        exact unhide HO7
      case measure => simp [intOf]
end Go.Proofs.Ytoiacbdnkkolmaa
