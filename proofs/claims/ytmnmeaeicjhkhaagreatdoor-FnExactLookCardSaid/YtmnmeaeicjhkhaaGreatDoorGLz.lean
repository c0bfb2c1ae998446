import Derived.Test.YtmnmeaeicjhkhaaGreatDoorA4z
import Derived.Test.YtmnmeaeicjhkhaaGreatDoorGIdz
import Derived.Test.YtmnmeaeicjhkhaaGreatDoorGScz
namespace Go.Proofs.YtmnmeaeicjhkhaaGreatDoor
open Go.RowKit

set_option maxRecDepth 100000 in
set_option maxHeartbeats 1000000 in
theorem implTraceOk_any (lo : Nat) (v1 v2 : Value) (nf : Nat) (fns : Nat → ByteArray) (n : Nat) (f : Nat → M) (w : World) (h1 : StrsAt lo w v1 nf fns) (h2 : MomsAt lo w v2 n f) :
    Calls Tryz.prog 17 #[.agg #[v1, v2]] w fun e w' => SaysF nf fns n f e ∧ Below w.heap.size w w' := by
  have H1 := hide h1; clear h1
  have H2 := hide h2; clear h2
  have T0 : Hid (Two w v1 v2 ((w.alloc (.cells #[v1, v2] 26)).alloc (.cells #[.int .i64 0, .int .i64 0] 49))) := hide (Below.refl _ _)
  go_enter Tryz.func17, Tryz.ntmps17
  go_wp2_with fail
  refine (readTrace_any lo _ _ nf fns n f _ ((unhide H1).below (unhide T0).below) ((unhide H2).below (unhide T0).below)).mono ?_
  rintro e w1 ⟨⟨v', c, m, rfl, ha, -, a, l, cp, rfl⟩, hb1⟩
  have T1 := hide ((unhide T0).go hb1); clear hb1 T0
  have HA := hide ha; clear ha
  have BA := hide ((Below.refl w1.heap.size w1).alloc (Nat.le_refl _) (.cells #[.int .i64 c, .int .i64 m] 49))
  have T2 := hide ((unhide T1).go (unhide BA))
  have g2 := (unhide T2).r0
  have g3 := (unhide T2).r1
  have g4 := (unhide T2).f0
  have g5 := (unhide T2).f1
  go_wp2
  refine bodyPost_ret (v := .agg #[.int .i64 c, .int .i64 m]) (by simp [results, Tryz.results17, go_sem, g2, g3]) rfl ⟨⟨_, _, rfl, unhide HA⟩, ?_⟩
  repeat (refine Below.setCell ?_ (by simp) _)
  exact (unhide T2).below

/-- The law's own box of its argument stands as it was laid. -/
def LawBox (w : World) (v1 v2 : Value) (w' : World) : Prop := Below (w.heap.size + 1) (w.alloc (.cells #[v1, v2] 59)) w'
theorem LawBox.below {w w' : World} {v1 v2 : Value} (h : LawBox w v1 v2 w') : Below w.heap.size w w' := ((Below.refl _ _).alloc (Nat.le_refl _) _).trans (Below.mono h (by omega))
theorem LawBox.size {w w' : World} {v1 v2 : Value} (h : LawBox w v1 v2 w') : w.heap.size + 1 ≤ w'.heap.size := by
  have := Below.size h; simpa using this
theorem LawBox.go {w w' w'' : World} {v1 v2 : Value} (h : LawBox w v1 v2 w') (hb : Below w'.heap.size w' w'') : LawBox w v1 v2 w'' := Below.trans h (hb.mono h.size)
theorem LawBox.b0 {w w' : World} {v1 v2 : Value} (h : LawBox w v1 v2 w') : w'.cell? ⟨w.heap.size, 0, none⟩ = some v1 := by
  rw [Below.cell h (by simp), cell_alloc_at _ _ _ _ _ rfl]; rfl
theorem LawBox.b1 {w w' : World} {v1 v2 : Value} (h : LawBox w v1 v2 w') : w'.cell? ⟨w.heap.size, 1, none⟩ = some v2 := by
  rw [Below.cell h (by simp), cell_alloc_at _ _ _ _ _ rfl]; rfl

theorem below_alloc (w : World) (o : Obj) : Below w.heap.size w (w.alloc o) := (Below.refl _ _).alloc (Nat.le_refl _) o

end Go.Proofs.YtmnmeaeicjhkhaaGreatDoor

namespace Go.Proofs.YtmnmeaeicjhkhaaGreatDoor
open Go.RowKit

theorem field_running (a b c : Value) (w : World) : (Instr.field 119 (.agg #[a, b, c]) 0).run Tryz.prog w = .ok a w := by kernel_rfl

def Running (nf : Nat) (fns : Nat → ByteArray) (n : Nat) (f : Nat → M) (k : Int) (e : Ending) : Prop :=
  (Sound nf fns n f ∧ (-1 ≤ k ∧ k ≤ n) ∧ e = .returned (.int .i64 (St.after f (upto n k)).cur)) ∨ (¬ (Sound nf fns n f ∧ (-1 ≤ k ∧ k ≤ n)) ∧ e = .returned (.int .i64 (-1)))

set_option maxHeartbeats 1000000 in
theorem isPlace_any (lo : Nat) (v1 v2 : Value) (n : Nat) (f : Nat → M) (k : Int) (w : World) (h2 : MomsAt lo w v2 n f) :
    Calls Tryz.prog 65 #[.agg #[v1, v2], .int .i64 k] w fun e w' => e = .returned (.bool (decide (-1 ≤ k ∧ k ≤ (n : Int)))) ∧ Below w.heap.size w w' := by
  obtain ⟨a2, cap2, rfl, hn2, -⟩ := h2
  unfold maxLen at hn2
  by_cases h1 : -1 ≤ k
  · by_cases h2 : k ≤ (n : Int)
    · have e : decide (-1 ≤ k ∧ k ≤ (n : Int)) = true := by simp [h1, h2]
      rw [e]; clear e
      go_enter Tryz.func65, Tryz.ntmps65
      go_wp2
      go_ret
      exact ⟨rfl, below_new _ _⟩
    · have e : decide (-1 ≤ k ∧ k ≤ (n : Int)) = false := by simp [h1, h2]
      rw [e]; clear e
      go_enter Tryz.func65, Tryz.ntmps65
      go_wp2
      go_ret
      exact ⟨rfl, below_new _ _⟩
  · have e : decide (-1 ≤ k ∧ k ≤ (n : Int)) = false := by simp [h1]
    rw [e]; clear e
    go_enter Tryz.func65, Tryz.ntmps65
    go_wp2
    go_ret
    exact ⟨rfl, below_new _ _⟩

set_option maxRecDepth 100000 in
set_option maxHeartbeats 1000000 in
theorem placeAt_any (lo : Nat) (v : Value) (n : Nat) (f : Nat → M) (k : Int) (w : World) (h : PlacesAt lo w v n f) (hn : n ≤ 3000) (hk1 : -1 ≤ k) (hk2 : k ≤ n) :
    Calls Tryz.prog 58 #[v, .int .i64 k] w fun e w' => (∃ top bw, e = .returned (.agg #[.int .i64 (St.after f (upto n k)).cur, .pointer top, .pointer (some ⟨bw, 0, none⟩)]) ∧ PlaceAt w' (St.after f (upto n k)) top bw) ∧ Below w.heap.size w w' := by
  obtain ⟨xs, ho, hp⟩ := h
  obtain ⟨top, bw, x0, x1, x2, pl⟩ := hp (upto n k) (by unfold upto; omega)
  have ho' := ho
  rcases ho.2 with ⟨_, h0⟩ | ⟨g, cap, cur, rfl, _⟩
  · omega
  have c0 := (owns_cell ho' _ _ x0).1
  have c1 := (owns_cell ho' _ _ x1).1
  have c2 := (owns_cell ho' _ _ x2).1
  have PL := hide pl
  clear ho ho' hp x0 x1 x2 pl
  have BA := hide (below_new w (.cells #[.int .i64 0, .pointer none, .pointer none] 119))
  have c0 := cell_below (unhide BA) c0
  have c1 := cell_below (unhide BA) c1
  have c2 := cell_below (unhide BA) c2
  by_cases hk : k = n
  · subst hk
    have e : upto n (n : Int) = n := by unfold upto; omega
    rw [e] at c0 c1 c2 PL ⊢
    clear e
    generalize (St.after f n).cur = cur' at *
    have hu2 : (n : Int) < (n : Int) + 1 := by omega
    have hu3 : (0 : Int) ≤ (n : Int) := by omega
    go_enter Tryz.func58, Tryz.ntmps58
    go_wp2
    refine bodyPost_ret (v := .agg #[.int .i64 cur', .pointer top, .pointer (some ⟨bw, 0, none⟩)]) (by simp [results, Tryz.results58, go_sem]) rfl ⟨⟨top, bw, rfl, (unhide PL).below (below_new _ _)⟩, below_new _ _⟩
  · obtain ⟨u, rfl⟩ : ∃ u : Nat, k = (u : Int) - 1 := ⟨(k + 1).toNat, by omega⟩
    have e : upto n ((u : Int) - 1) = u := by unfold upto; omega
    rw [e] at c0 c1 c2 PL ⊢
    clear e
    generalize (St.after f u).cur = cur' at *
    have hu2 : (u : Int) < (n : Int) + 1 := by omega
    have hu3 : (0 : Int) ≤ (u : Int) := by omega
    have hu4 : (u : Int) ≤ (n : Int) := by omega
    clear hk
    go_enter Tryz.func58, Tryz.ntmps58
    go_wp2
    refine bodyPost_ret (v := .agg #[.int .i64 cur', .pointer top, .pointer (some ⟨bw, 0, none⟩)]) (by simp [results, Tryz.results58, go_sem]) rfl ⟨⟨top, bw, rfl, (unhide PL).below (below_new _ _)⟩, below_new _ _⟩

set_option maxRecDepth 100000 in
set_option maxHeartbeats 1000000 in
theorem implRunningAt_any (lo : Nat) (v1 v2 : Value) (nf : Nat) (fns : Nat → ByteArray) (n : Nat) (f : Nat → M) (k : Int) (w : World) (h1 : StrsAt lo w v1 nf fns) (h2 : MomsAt lo w v2 n f) :
    Calls Tryz.prog 22 #[.agg #[v1, v2], .int .i64 k] w fun e w' => Running nf fns n f k e ∧ Below w.heap.size w w' := by
  have H1 := hide h1; clear h1
  have H2 := hide h2; clear h2
  have T0 := hide (TrBox.new w v1 v2)
  go_enter Tryz.func22, Tryz.ntmps22
  go_wp2_with fail
  refine (readTrace_any lo _ _ nf fns n f _ ((unhide H1).below (unhide T0).below) ((unhide H2).below (unhide T0).below)).mono ?_
  rintro e w1 ⟨⟨pv, c, m, rfl, ha, hp, pa, pn, pc, rfl⟩, hb1⟩
  have BA := hide (below_new w1 (.cells #[.int .i64 c, .int .i64 m] 49))
  have T1 := hide (((unhide T0).go hb1).go (unhide BA))
  clear hb1 T0
  by_cases hc : c = 0
  · have HS := hide (ha.zero.1.1 hc)
    have hm := ha.zero.2 hc
    have HP := hide ((hp hc).below (unhide BA))
    subst hm
    subst hc
    clear ha hp
    have g0 := (unhide T1).b0
    have g1 := (unhide T1).b1
    go_wp2_with fail
    refine (isPlace_any lo _ _ n f k _ ((unhide H2).below (unhide T1).below)).mono ?_
    rintro e w2 ⟨rfl, hb2⟩
    have HP2 := hide ((unhide HP).below hb2)
    have T2 := hide ((unhide T1).go hb2); clear hb2 T1 g0 g1 HP
    by_cases hk : -1 ≤ k ∧ k ≤ (n : Int)
    · have hkb : decide (-1 ≤ k ∧ k ≤ (n : Int)) = true := by simpa using hk
      rw [hkb]
      clear hkb
      have HK := hide hk; clear hk
      go_wp2_with fail
      refine (placeAt_any _ _ n f k _ (unhide HP2) (unhide HS).1.2.2.1 (unhide HK).1 (unhide HK).2).mono ?_
      rintro e w3 ⟨⟨top, bw, rfl, hpl⟩, hb3⟩
      have T3 := hide ((unhide T2).go hb3)
      clear hb3 hpl
      have hfd := field_running
      go_wp2
      go_ret
      exact ⟨.inl ⟨unhide HS, unhide HK, rfl⟩, (unhide T3).below⟩
    · have hkb : decide (-1 ≤ k ∧ k ≤ (n : Int)) = false := by simpa using hk
      rw [hkb]
      clear hkb
      have HK := hide hk; clear hk
      go_wp2
      go_ret
      exact ⟨.inr ⟨fun h => unhide HK h.2, rfl⟩, (unhide T2).below⟩
  · have HS : Hid (¬ Sound nf fns n f) := hide (fun h => hc (ha.zero.1.2 h))
    have hcb : (c == 0) = false := by simpa using hc
    clear ha hp hc
    go_wp2
    go_ret
    exact ⟨.inr ⟨fun h => unhide HS h.1, rfl⟩, (unhide T1).below⟩
end Go.Proofs.YtmnmeaeicjhkhaaGreatDoor
