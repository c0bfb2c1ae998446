import Derived.Test.YtoiacbdnkkolmabT5
namespace Go.Proofs.Ytoiacbdnkkolmab
open Go.RowKit

set_option maxHeartbeats 1000000 in
theorem markMomentS_any (lo hi : Nat) (v : Value) (n : Nat) (k : Int) (w : World) (hv : MomsM lo hi w v n) (hn : n ≤ 1048576) (hk : 0 < k) (hk2 : k ≤ 1048577) :
    Calls Try.prog 73 #[v, .int .i64 k] w fun e w' => (∃ r : Int, e = .returned (.int .i64 r) ∧ 0 ≤ r) ∧ Betw lo hi w w' := by
  have HV := hide hv
  obtain ⟨a, cap, rfl, _⟩ := hv
  go_enter Try.func73, Try.ntmps73
  go_wp2
  go_loopw [1, 5] (fun q i wr => ∃ (j : Nat) (z : Int), j ≤ n ∧ q = .int .i64 z ∧ 0 < z ∧ z ≤ 1048577 + j * 2097157 ∧ i = .int .i64 j ∧ Betw lo hi w wr) (fun _ i _ => n - (intOf i).toNat)
  case atStart => exact ⟨0, k, by omega, rfl, hk, by omega, rfl, Betw.refl _ _ _⟩
  case round =>
    obtain ⟨j, z, hj, rfl, hz, hz2, rfl, hb⟩ := hrel
    have HB := hide hb
    clear hb
    by_cases hlt : j < n
    · obtain ⟨a', cap', e, hv⟩ := (unhide HV).go (unhide HB)
      cases e
      obtain ⟨b, o, vv, m, rfl, ⟨m0, m1, m2, m3, m4⟩, hc5, hvv, hm⟩ := hv j hlt
      clear hv
      have hzz : z ≤ 1048577 + 1048575 * 2097157 := by omega
      have X0 := hide (m0.set (u := .int .i64 z) (Betw.refl lo hi wr) rfl)
      have X1 := hide ((m1.go (unhide X0)).set (u := .int .i64 (z + 1)) (unhide X0) rfl)
      have X2 := hide ((m2.go (unhide X1)).set (u := .int .i64 (z + 1 + 1)) (unhide X1) rfl)
      have X3 := hide ((m3.go (unhide X2)).set (u := .int .i64 (z + 1 + 1 + 1)) (unhide X2) rfl)
      have HV5 := hide hvv
      have HC5 := hide hc5
      obtain ⟨va, vc, rfl, -⟩ := hvv
      have M4 := hide (m4.go (unhide X3))
      obtain ⟨-, -, ⟨u0, c0, -⟩, f0⟩ := m0
      obtain ⟨-, -, ⟨u1, c1, -⟩, f1⟩ := m1
      obtain ⟨-, -, ⟨u2, c2, -⟩, f2⟩ := m2
      obtain ⟨-, -, ⟨u3, c3, -⟩, f3⟩ := m3
      clear m4 hc5
      have hi1 : (0 : Int) ≤ (j : Int) := by omega
      have hi2 : (j : Int) < (n : Int) := by omega
      go_wp2_with fail
      refine (markText_any _ _ (by omega) (by omega)).mono ?_
      rintro e w1 ⟨⟨s, rfl⟩, hb1⟩
      have Y1 := hide ((unhide X3).trans (Betw.of_below lo hi hb1))
      have M4' := hide ((unhide M4).go (Betw.of_below lo hi hb1))
      have Y2 := hide ((unhide M4').set (u := .string s) (unhide Y1) rfl)
      obtain ⟨-, -, ⟨u4, c4, -⟩, f4⟩ := unhide M4'
      have V5 := hide ((unhide HV5).go (unhide Y2))
      have C5 := (unhide Y2).fix _ _ (unhide HC5) rfl
      clear hb1 M4 HV5 HC5 c0 c1 c2 c3 f0 f1 f2 f3 X0 X1 X2 X3
      go_wp2_with fail
      refine (markVarS_any lo hi _ m _ _ (unhide V5) hm (by omega) (by omega)).mono ?_
      rintro e w2 ⟨rfl, hb2⟩
      have HB2 := hide ((unhide HB).trans ((unhide Y2).trans hb2))
      clear hb2 c4 f4 C5
      go_wp2
      go_roundw
      case rel => exact ⟨j + 1, _, by omega, rfl, by omega, by omega, by go_num, unhide HB2⟩
      case measure => simp [intOf]; omega
    · go_wp2
      go_ret
      exact ⟨⟨z, rfl, by omega⟩, unhide HB⟩

set_option maxHeartbeats 400000 in
theorem markTrace_any (lo hi : Nat) (v1 v2 : Value) (nf n : Nat) (w : World) (h1 : StrsM lo hi w v1 nf) (h2 : MomsM lo hi w v2 n) (hh : hi ≤ w.heap.size) (hnf : nf ≤ 1048576) (hn : n ≤ 1048576) :
    Calls Try.prog 21 #[.agg #[v1, v2], .int .i64 1] w fun e w' => (∃ r : Int, e = .returned (.int .i64 r) ∧ 0 ≤ r) ∧ Betw lo hi w w' := by
  have B0 := hide (Betw.of_below lo hi (below_new w (.cells #[v1, v2] 31)))
  have H1 := hide (h1.go (unhide B0))
  have H2 := hide (h2.go (unhide B0))
  obtain ⟨a1, c1, rfl, -⟩ := h1
  obtain ⟨a2, c2, rfl, -⟩ := h2
  go_enter Try.func21, Try.ntmps21
  go_wp2_with fail
  refine (markStringS_any lo hi _ nf _ _ (unhide H1) hnf (by omega) (by omega)).mono ?_
  rintro e w1 ⟨rfl, hb1⟩
  have B1 := hide ((unhide B0).trans hb1)
  have H3 := hide ((unhide H2).go hb1)
  have g1 : w1.cell? ⟨w.heap.size, 1, none⟩ = some (.slice a2 n c2) := by
    rw [World.cell?_of_block (hb1.block w.heap.size (by simp) (.inr hh)), cell_alloc_at _ _ _ _ _ rfl]; rfl
  clear hb1 B0 H1 H2
  go_wp2_with fail
  refine (markMomentS_any lo hi _ n _ _ (unhide H3) hn (by omega) (by omega)).mono ?_
  rintro e w2 ⟨⟨r, rfl, hr⟩, hb2⟩
  have B2 := hide ((unhide B1).trans hb2)
  clear hb2 g1
  go_wp2
  go_ret
  exact ⟨⟨r, rfl, hr⟩, unhide B2⟩

theorem frCells_set : ∀ (l : List Fr) (j : Nat) (f : Fr), frCells (l.set j f) = if j < l.length then (((frCells l).set (j * 3) (.int .i64 f.fn)).set (j * 3 + 1) (.int .i64 f.line)).set (j * 3 + 2) (.int .i64 f.frm) else frCells l
  | [], j, f => by simp
  | x :: r, 0, f => by simp [List.set]; rfl
  | x :: r, j + 1, f => by
    have ih := frCells_set r j f
    have e : ∀ (x : Fr) (r : List Fr), frCells (x :: r) = .int .i64 x.fn :: .int .i64 x.line :: .int .i64 x.frm :: frCells r := fun _ _ => rfl
    rw [List.set_cons_succ, e, e, ih]
    by_cases h : j < r.length
    · rw [if_pos h, if_pos (by simpa using h), show (j + 1) * 3 = j * 3 + 1 + 1 + 1 by omega]
      simp only [List.set_cons_succ]
    · rw [if_neg h, if_neg (by simpa using h)]

/-- Frame i of a stack that was marked from 1 on. -/
def mkFr (i : Nat) : Fr := ⟨1 + i * 3, 1 + i * 3 + 1, 1 + i * 3 + 1 + 1⟩

end Go.Proofs.Ytoiacbdnkkolmab
