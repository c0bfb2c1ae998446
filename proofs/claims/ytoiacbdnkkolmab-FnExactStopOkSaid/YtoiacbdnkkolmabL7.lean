import Derived.Test.YtoiacbdnkkolmabE2
namespace Go.Proofs.Ytoiacbdnkkolmab
open Go.RowKit

set_option maxRecDepth 100000 in
set_option maxHeartbeats 2000000 in
theorem exactStopOk_any (kd fn line : Int) (name : ByteArray) (w : World) (hz : name.size ≤ maxLen) :
    Calls Try.prog 6 #[.agg #[.int .i64 kd, .int .i64 fn, .int .i64 line, .string name]] w fun e w' => e = .returned (.bool true) ∧ Below w.heap.size w w' := by
  have B0 := hide ((Below.refl w.heap.size w).alloc (Nat.le_refl _) (.cells #[.int .i64 kd, .int .i64 fn, .int .i64 line, .string name] 47))
  obtain ⟨W0, hW0⟩ : ∃ W0, W0 = w.alloc (.cells #[.int .i64 kd, .int .i64 fn, .int .i64 line, .string name] 47) := ⟨_, rfl⟩
  have hc : ∀ i v, (#[.int .i64 kd, .int .i64 fn, .int .i64 line, .string name] : Array Value)[i]? = some v → W0.cell? ⟨w.heap.size, i, none⟩ = some v := fun i v h => by rw [hW0]; simp only [World.cell?, heap_alloc_new]; exact h
  have HC := hide hc
  clear hc
  go_enter Try.func6, Try.ntmps6
  go_wp2_with fail
  refine (szStop_any kd fn line name _ _ hz (by omega) (by omega)).mono ?_
  rintro e w1 ⟨⟨r, rfl, hr⟩, hb1⟩
  rw [← hW0] at hb1 B0
  have B1 := hide ((unhide B0).trans (hb1.mono (unhide B0).size))
  have c0 := cell_below hb1 (unhide HC 0 _ rfl)
  have c1 := cell_below hb1 (unhide HC 1 _ rfl)
  have c2 := cell_below hb1 (unhide HC 2 _ rfl)
  have c3 := cell_below hb1 (unhide HC 3 _ rfl)
  clear hb1 B0 HC hW0
  by_cases hr0 : r < 0
  · go_wp2
    go_ret
    exact ⟨rfl, unhide B1⟩
  go_wp2_with fail
  refine (toStop_any kd fn line name _).mono ?_
  rintro e w2 ⟨rfl, hb2⟩
  have B2 := hide ((unhide B1).trans (hb2.mono (unhide B1).size))
  have d0 := cell_below hb2 c0
  have d1 := cell_below hb2 c1
  have d2 := cell_below hb2 c2
  have d3 := cell_below hb2 c3
  clear hb2 c0 c1 c2 c3 B1
  go_wp2_with fail
  refine (specStopOk_any kd fn line name _ hz).mono ?_
  rintro e w3 ⟨⟨b, rfl, hb⟩, hb3⟩
  have B3 := hide ((unhide B2).trans (hb3.mono (unhide B2).size))
  have c0 := cell_below hb3 d0
  have c1 := cell_below hb3 d1
  have c2 := cell_below hb3 d2
  have c3 := cell_below hb3 d3
  have HB := hide hb
  clear hb3 d0 d1 d2 d3 B2 hb
  go_wp2_with fail
  refine (toStop_any kd fn line name _).mono ?_
  rintro e w4 ⟨rfl, hb4⟩
  have B4 := hide ((unhide B3).trans (hb4.mono (unhide B3).size))
  clear hb4 c0 c1 c2 c3 B3
  go_wp2_with fail
  refine (implStopOk_any kd fn line name _ hz).mono ?_
  rintro e w5 ⟨⟨b', rfl, hb'⟩, hb5⟩
  have B5 := hide ((unhide B4).trans (hb5.mono (unhide B4).size))
  have e : b' = b := by
    have h := unhide HB
    cases b <;> cases b' <;> simp_all
  subst e
  clear hb5 B4 HB hb'
  go_wp2
  go_ret
  exact ⟨rfl, unhide B5⟩
end Go.Proofs.Ytoiacbdnkkolmab
