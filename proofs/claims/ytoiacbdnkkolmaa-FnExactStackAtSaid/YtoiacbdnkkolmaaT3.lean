import Derived.Test.YtoiacbdnkkolmaaT2
namespace Go.Proofs.Ytoiacbdnkkolmaa
open Go.RowKit

set_option maxRecDepth 100000 in
set_option maxHeartbeats 1000000 in
theorem specStackAt_any (lo : Nat) (v1 v2 : Value) (nf : Nat) (fns : Nat → ByteArray) (n : Nat) (f : Nat → M) (k t : Int) (w : World) (h1 : StrsAt lo w v1 nf fns) (h2 : MomsAt lo w v2 n f) :
    Calls Try.prog 30 #[.agg #[v1, v2], .int .i64 k, .int .i64 t] w fun e w' => (∃ v l, e = .returned v ∧ IsStack nf fns n f k t l ∧ FrsAt w.heap.size w' v l) ∧ Below w.heap.size w w' := by
  have H1 := hide h1; clear h1
  have H2 := hide h2; clear h2
  have T0 := hide (TrBox.new w v1 v2)
  go_enter Try.func30, Try.ntmps30
  go_wp2_with fail
  refine (l1ok_any lo _ _ nf fns n f _ ((unhide H1).below (unhide T0).below) ((unhide H2).below (unhide T0).below)).mono ?_
  rintro e w1 ⟨⟨b, rfl, hb⟩, hb1⟩
  have T1 := hide ((unhide T0).go hb1); clear hb1 T0
  cases b with
  | false =>
    have HS : Hid (¬ Sound nf fns n f) := hide (fun h => by simp [h] at hb)
    clear hb
    go_wp2
    go_ret
    exact ⟨⟨_, [], rfl, .inr ⟨fun h => unhide HS h.1, rfl⟩, FrsAt_nil _ _⟩, (unhide T1).below⟩
  | true =>
    have HS : Hid (Sound nf fns n f) := hide (by simpa using hb)
    clear hb
    have g0 := (unhide T1).b0
    have g1 := (unhide T1).b1
    go_wp2_with fail
    refine (l1place_any lo _ _ n f k _ ((unhide H2).below (unhide T1).below)).mono ?_
    rintro e w2 ⟨rfl, hb2⟩
    have T2 := hide ((unhide T1).go hb2); clear hb2 T1 g0 g1
    by_cases hk : -1 ≤ k ∧ k ≤ (n : Int)
    · have hkb : decide (-1 ≤ k ∧ k ≤ (n : Int)) = true := by simpa using hk
      rw [hkb]
      clear hkb
      have HK := hide hk; clear hk
      go_wp2_with fail
      refine (l1in_any _ _ _ _).mono ?_
      rintro e w3 ⟨rfl, rfl⟩
      by_cases ht : 0 ≤ t ∧ t ≤ 100
      · have htb : decide (0 ≤ t ∧ t ≤ 100) = true := by simpa using ht
        rw [htb]
        clear htb
        have HTT := hide ht
        obtain ⟨u, rfl⟩ : ∃ u : Nat, t = (u : Int) := Int.eq_ofNat_of_zero_le ht.1
        have hu : u < 101 := by omega
        clear ht
        have g0 := (unhide T2).b0
        have g1 := (unhide T2).b1
        go_wp2_with fail
        refine (l1stand_any lo _ _ nf fns n f k _ ((unhide H2).below (unhide T2).below) (unhide HS) (unhide HK).1 (unhide HK).2).mono ?_
        rintro e w4 ⟨⟨ps, rfl, hsp⟩, hb4⟩
        have T4 := hide ((unhide T2).go hb4)
        obtain ⟨bt, V, hc⟩ := hsp
        have c0 := hc.c0
        have cr := hc.row.cell hu
        have HO := hide (hc.own u hu)
        have HLE := hide (hc.len u hu)
        clear hb4 hc g0 g1
        have hi1 : (0 : Int) ≤ (u : Int) := by omega
        have hi2 : (u : Int) < 101 := by omega
        obtain ⟨oa, oc, hV⟩ := owns_slice (unhide HO)
        rw [hV] at cr HO
        clear hV
        obtain ⟨ln, hln⟩ : ∃ ln, ln = ((St.after f (upto n k)).tasks u).length := ⟨_, rfl⟩
        rw [← hln] at cr
        have HLN := hide hln
        clear hln
        go_wp2_with fail
        rw [unhide HLN]
        refine (l1inner_any _ _ _ _ (unhide HO) (unhide HLE)).mono ?_
        rintro e w5 ⟨⟨v, rfl, hfr⟩, hb5⟩
        have T5 := hide ((unhide T4).go hb5)
        have HFR := hide hfr
        clear hb5 hfr
        go_wp2
        go_ret
        exact ⟨⟨v, _, rfl, .inl ⟨unhide HS, unhide HK, unhide HTT, by rw [Int.toNat_natCast]⟩, owns_low (unhide HFR) (by have := (unhide T4).size; omega)⟩, (unhide T5).below⟩
      · have htb : decide (0 ≤ t ∧ t ≤ 100) = false := by simpa using ht
        rw [htb]
        clear htb
        have HTT := hide ht
        clear ht
        go_wp2
        go_ret
        exact ⟨⟨_, [], rfl, .inr ⟨fun h => unhide HTT h.2.2, rfl⟩, FrsAt_nil _ _⟩, (unhide T2).below⟩
    · have hkb : decide (-1 ≤ k ∧ k ≤ (n : Int)) = false := by simpa using hk
      rw [hkb]
      clear hkb
      have HK := hide hk; clear hk
      go_wp2
      go_ret
      exact ⟨⟨_, [], rfl, .inr ⟨fun h => unhide HK h.2.1, rfl⟩, FrsAt_nil _ _⟩, (unhide T2).below⟩

set_option maxHeartbeats 400000 in
theorem eqFrame_any (a b c : Int) (w : World) :
    Calls Try.prog 84 #[.agg #[.int .i64 a, .int .i64 b, .int .i64 c], .agg #[.int .i64 a, .int .i64 b, .int .i64 c]] w fun e w' => e = .returned (.bool true) ∧ Below w.heap.size w w' := by
  go_enter Try.func84, Try.ntmps84
  go_wp2
  go_ret
  exact ⟨rfl, ((Below.refl _ _).alloc (Nat.le_refl _) _).alloc (by simp) _⟩

theorem FrsAt.cells {lo : Nat} {w : World} {a : Option Addr} {cap : Nat} {l : List Fr} (h : FrsAt lo w (.slice a l.length cap) l) (i : Nat) (hi : i < l.length) :
    ∃ g, a = some ⟨g, 0, none⟩ ∧ lo ≤ g ∧ g < w.heap.size ∧ w.cell? ⟨g, i * 3, none⟩ = some (.int .i64 l[i].fn) ∧ w.cell? ⟨g, i * 3 + 1, none⟩ = some (.int .i64 l[i].line) ∧ w.cell? ⟨g, i * 3 + 2, none⟩ = some (.int .i64 l[i].frm) := by
  obtain ⟨e0, e1, e2⟩ := frCells_get l i hi
  have h' := h
  rcases h.2 with ⟨_, h0⟩ | ⟨g, cap', cur, hv, hB, hg, _⟩
  · omega
  · cases hv
    exact ⟨g, rfl, hB, (Array.getElem?_eq_some_iff.1 hg).1, (owns_cell h' _ _ e0).1, (owns_cell h' _ _ e1).1, (owns_cell h' _ _ e2).1⟩

set_option maxHeartbeats 1000000 in
theorem eqFrameS_any (lo lo' : Nat) (v v' : Value) (l : List Fr) (w : World) (hv : FrsAt lo w v l) (hv' : FrsAt lo' w v' l) (hl : l.length ≤ 200) :
    Calls Try.prog 42 #[v, v'] w fun e w' => e = .returned (.bool true) ∧ Below w.heap.size w w' := by
  have HV := hide hv
  have HV' := hide hv'
  obtain ⟨a, cap, rfl⟩ := owns_slice hv
  obtain ⟨a', cap', rfl⟩ := owns_slice hv'
  clear hv hv'
  obtain ⟨n, hn⟩ : ∃ n, n = l.length := ⟨_, rfl⟩
  have HN := hide hn
  rw [← hn] at hl
  rw [← hn]
  clear hn
  go_enter Try.func42, Try.ntmps42
  go_wp2
  go_loopw [5] (fun i w' => ∃ (k : Nat), k ≤ n ∧ i = .int .i64 k ∧ Below w.heap.size w w') (fun i _ => n - (intOf i).toNat)
  case atStart => exact ⟨0, by omega, rfl, Below.refl _ _⟩
  case round =>
    obtain ⟨k, hk, rfl, hb⟩ := hrel
    by_cases hlt : k < n
    · have hkl : k < l.length := by rw [← unhide HN]; exact hlt
      obtain ⟨g, rfl, -, -, c0, c1, c2⟩ := ((unhide HV).below hb).cells k hkl
      obtain ⟨g', rfl, -, -, d0, d1, d2⟩ := ((unhide HV').below hb).cells k hkl
      generalize l[k].fn = fa at *
      generalize l[k].line = fb at *
      generalize l[k].frm = fc at *
      have hi1 : (0 : Int) ≤ (k : Int) := by omega
      have hi2 : (k : Int) < (n : Int) := by omega
      clear hkl
      go_wp2
      go_region_held3 (fun w' => (w'.cell? ⟨g, k * 3, none⟩ = some (.int .i64 fa) ∧ w'.cell? ⟨g, k * 3 + 1, none⟩ = some (.int .i64 fb) ∧ w'.cell? ⟨g, k * 3 + 2, none⟩ = some (.int .i64 fc)) ∧ w'.cell? ⟨g', k * 3, none⟩ = some (.int .i64 fa) ∧ w'.cell? ⟨g', k * 3 + 1, none⟩ = some (.int .i64 fb) ∧ w'.cell? ⟨g', k * 3 + 2, none⟩ = some (.int .i64 fc))
        (first | (exact ⟨⟨c0, c1, c2⟩, d0, d1, d2⟩) | (exact ⟨⟨cell_below hb1 c0, cell_below hb1 c1, cell_below hb1 c2⟩, cell_below hb1 d0, cell_below hb1 d1, cell_below hb1 d2⟩))
        ((go_at_call 84; refine (eqFrame_any _ _ _ _).mono ?_; rintro e w1 ⟨rfl, hb1⟩))
      go_wp2
      go_roundw
      case rel => exact ⟨k + 1, by omega, by go_num, hb.drew.trans (hb1.mono (by simpa using hb.size))⟩
      case measure => simp [intOf]; omega
    · go_wp2
      go_ret
      exact ⟨rfl, hb⟩
end Go.Proofs.Ytoiacbdnkkolmaa
