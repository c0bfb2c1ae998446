import Derived.Test.YtmnmeaeicjhkhaaGreatDoorV4z
import Derived.Test.YtmnmeaeicjhkhaaGreatDoorV5z
import Derived.Test.YtmnmeaeicjhkhaaGreatDoorF3z
import Derived.Test.YtmnmeaeicjhkhaaGreatDoorC7z
import Derived.Test.YtmnmeaeicjhkhaaGreatDoorGCcz
import Derived.Test.YtmnmeaeicjhkhaaGreatDoorU5z
import Derived.Test.YtmnmeaeicjhkhaaGreatDoorU7z
import Derived.Deep.RegionHeld3
namespace Go.Proofs.YtmnmeaeicjhkhaaGreatDoor
open Go.RowKit

set_option maxRecDepth 100000 in
set_option maxHeartbeats 2000000 in
theorem fnSpoilt_any (hso : SortsInts) (hco : CompactsInts) (v : Value) (len : Nat) (w : World) (h : BytesAt w v len) (htab : Tab w) :
    Calls Tryz.prog 5 #[v] w fun e w' => e = .returned (.bool true) ∧ Below w.heap.size w w' := by
  have H := hide h
  have HSO := hide hso
  have HCO := hide hco
  have HTAB0 := hide htab
  clear hso hco htab
  obtain ⟨a, cap, rfl, _⟩ := h
  by_cases hlen : len ≤ 1048576
  · have hle2 : decide ((1048576 : Int) < (len : Int)) = false := by simp; omega
    go_enter Tryz.func5, Tryz.ntmps5
    go_wp2_with fail
    refine (drawTraceOk_any _ len w (unhide H) hlen).mono ?_
    rintro e w1 ⟨⟨v1, v2, nf, ms, rfl, hnf, hms, hT⟩, hb1⟩
    obtain ⟨fns, hs⟩ := hT.strs hnf
    have hm := hT.mom.momsAt (by omega)
    obtain ⟨n, hn⟩ : ∃ n, n = ms.length := ⟨_, rfl⟩
    rw [← hn] at hm
    obtain ⟨f, hf⟩ : ∃ f, f = momOf ms := ⟨_, rfl⟩
    rw [← hf] at hm
    have H1 := hide (hs.low (Nat.zero_le _))
    have H2 := hide (hm.low (Nat.zero_le _))
    obtain ⟨a1, cap1, rfl, -, -⟩ := hs
    obtain ⟨a2, cap2, rfl, -, -⟩ := hm
    have HB1 := hide hb1
    have HTAB := hide (tab_go (unhide HTAB0) hb1)
    have T0 := hide (TrBox.new w1 (.slice a1 nf cap1) (.slice a2 n cap2))
    clear hT hb1 hn hf HTAB0 H hle2 hms
    go_wp2_with fail
    refine (implTraceOk_any 0 _ _ nf fns n f _ ((unhide H1).below (unhide T0).below) ((unhide H2).below (unhide T0).below)).mono ?_
    rintro e w2 ⟨⟨c, m, rfl, ha⟩, hb2⟩
    have HXB := hide (heap_alloc_new w2 (.cells #[.int .i64 c, .int .i64 m] 49))
    have T1 := hide (((unhide T0).go hb2).go (below_new w2 (.cells #[.int .i64 c, .int .i64 m] 49)))
    have HA := hide ha
    clear ha hb2 T0
    have HSS : Hid (∀ W, Below (w2.alloc (.cells #[.int .i64 c, .int .i64 m] 49)).heap.size (w2.alloc (.cells #[.int .i64 c, .int .i64 m] 49)) W → W.cell? ⟨w2.heap.size, 0, none⟩ = some (.int .i64 c) ∧ W.cell? ⟨w2.heap.size, 1, none⟩ = some (.int .i64 m) ∧ W.cell? ⟨w1.heap.size, 0, none⟩ = some (.slice a1 nf cap1) ∧ W.cell? ⟨w1.heap.size, 1, none⟩ = some (.slice a2 n cap2)) := hide (fun W hb => ⟨cell_below hb (by rw [cell_of_row _ _ 0 _ _ _ (unhide HXB)]; rfl), cell_below hb (by rw [cell_of_row _ _ 1 _ _ _ (unhide HXB)]; rfl), cell_below hb (unhide T1).b0, cell_below hb (unhide T1).b1⟩)
    obtain ⟨W1, hW1⟩ : ∃ W1, W1 = (w2.alloc (.cells #[.int .i64 c, .int .i64 m] 49)) := ⟨_, rfl⟩
    go_upto_region 5 with fail
    rw [← hW1] at HSS T1 ⊢
    clear hW1 HXB
    refine wp_region_held_drew (S := fun W => W.cell? ⟨w2.heap.size, 0, none⟩ = some (.int .i64 c) ∧ W.cell? ⟨w2.heap.size, 1, none⟩ = some (.int .i64 m) ∧ W.cell? ⟨w1.heap.size, 0, none⟩ = some (.slice a1 nf cap1) ∧ W.cell? ⟨w1.heap.size, 1, none⟩ = some (.slice a2 n cap2)) (by kernel_rfl) (unhide HSS _ (Below.refl _ _).drew) (fun hHeld => ?_)
    refine takeAt 0 (some 12) (v := ?v0a) (by decide) rfl (by kernel_rfl) (by kernel_rfl) (by kernel_rfl) (fun _ _ _ h => h) (by rfl) ?hy0a hHeld ?r0a
    case hy0a => (intro wx hSw; obtain ⟨s0, s1, s2, s3⟩ := hSw; go_simp; with_reducible rfl)
    simp only [Act.put, List.setIfInBounds_toArray, List.set_cons_zero, List.set_cons_succ]
    refine takeAt 1 (some 13) (v := ?v1a) (by decide) rfl (by kernel_rfl) (by kernel_rfl) (by kernel_rfl) (fun _ _ _ h => h) (by rfl) ?hy1a hHeld ?r1a
    case hy1a => (intro wx hSw; obtain ⟨s0, s1, s2, s3⟩ := hSw; go_simp; with_reducible rfl)
    simp only [Act.put, List.setIfInBounds_toArray, List.set_cons_zero, List.set_cons_succ]
    refine wpAnyH_ready (rs := [2]) (by kernel_rfl) (by simp) ?_
    refine AllReadyH.cons rfl (fun KK hK => ?_) AllReadyH.nil
    go_simp
    refine (specTraceOk_any 0 _ _ nf fns n f _ (((unhide H1).below (unhide T1).below).below (Below.refl _ _).drew) (((unhide H2).below (unhide T1).below).below (Below.refl _ _).drew)).mono ?_
    rintro e w3 ⟨⟨c', m', rfl, ha'⟩, hb⟩
    obtain ⟨rfl, rfl⟩ := (unhide HA).unique ha'
    have HB3 : Hid (Below W1.heap.size W1 w3) := hide ((Below.refl _ _).drew.trans hb)
    clear hb ha'
    refine hK.out _ _ (unhide HSS _ (unhide HB3)) (fun hHeld => ?_)
    clear hK KK
    try simp only [Act.put, List.setIfInBounds_toArray, List.getElem_toArray, List.getElem_cons_succ, List.getElem_cons_zero, List.set_cons_zero, List.set_cons_succ]
    refine takeAt 3 (some 15) (v := ?v3a) (by decide) rfl (by kernel_rfl) (by kernel_rfl) (by kernel_rfl) (fun _ _ _ h => h) (by rfl) ?hy3a hHeld ?r3a
    case hy3a => (intro wx hSw; obtain ⟨s0, s1, s2, s3⟩ := hSw; go_simp; with_reducible rfl)
    simp only [Act.put, List.setIfInBounds_toArray, List.set_cons_zero, List.set_cons_succ]
    refine wpAnyH_done (by kernel_rfl) ?_ _
    have T3 := hide ((unhide T1).go (unhide HB3))
    obtain ⟨s0, s1, s2, s3⟩ := unhide HSS _ (unhide HB3)
    clear hHeld
    by_cases hc : c = 0
    · have HS := hide ((unhide HA).zero.1.1 hc)
      subst hc
      have HSS3 : Hid (∀ W, Below w3.heap.size w3 W → W.cell? ⟨w1.heap.size, 0, none⟩ = some (.slice a1 nf cap1) ∧ W.cell? ⟨w1.heap.size, 1, none⟩ = some (.slice a2 n cap2)) := hide (fun W hb => ⟨cell_below hb (unhide T3).b0, cell_below hb (unhide T3).b1⟩)
      clear HSS
      go_upto_region 8 with fail
      refine wp_region_held_drew (S := fun W => W.cell? ⟨w1.heap.size, 0, none⟩ = some (.slice a1 nf cap1) ∧ W.cell? ⟨w1.heap.size, 1, none⟩ = some (.slice a2 n cap2)) (by kernel_rfl) (unhide HSS3 _ (Below.refl _ _).drew) (fun hHeld => ?_)
      refine takeAt 0 (some 19) (v := ?v0b) (by decide) rfl (by kernel_rfl) (by kernel_rfl) (by kernel_rfl) (fun _ _ _ h => h) (by rfl) ?hy0b hHeld ?r0b
      case hy0b => (intro wx hSw; obtain ⟨s0, s1⟩ := hSw; go_simp; with_reducible rfl)
      simp only [Act.put, List.setIfInBounds_toArray, List.set_cons_zero, List.set_cons_succ]
      refine takeAt 2 (some 21) (v := ?v2b) (by decide) rfl (by kernel_rfl) (by kernel_rfl) (by kernel_rfl) (fun _ _ _ h => h) (by rfl) ?hy2b hHeld ?r2b
      case hy2b => (intro wx hSw; obtain ⟨s0, s1⟩ := hSw; go_simp; with_reducible rfl)
      simp only [Act.put, List.setIfInBounds_toArray, List.set_cons_zero, List.set_cons_succ]
      refine wpAnyH_ready (rs := [1]) (by kernel_rfl) (by simp) ?_
      refine AllReadyH.cons rfl (fun KK hK => ?_) AllReadyH.nil
      go_simp
      refine (implReport_any 0 _ _ nf fns n f _ (((unhide H1).below (unhide T3).below).below (Below.refl _ _).drew) (((unhide H2).below (unhide T3).below).below (Below.refl _ _).drew) (tab_go (tab_go (unhide HTAB) (unhide T3).below) (Below.refl _ _).drew)).mono ?_
      rintro e w4 ⟨⟨r1, rfl, hr1⟩, hb⟩
      have HB4 : Hid (Below w3.heap.size w3 w4) := hide ((Below.refl _ _).drew.trans hb)
      clear hb
      refine hK.out _ _ (unhide HSS3 _ (unhide HB4)) (fun hHeld => ?_)
      clear hK KK
      try simp only [Act.put, List.setIfInBounds_toArray, List.getElem_toArray, List.getElem_cons_succ, List.getElem_cons_zero, List.set_cons_zero, List.set_cons_succ]
      refine wpAnyH_ready (rs := [3]) (by kernel_rfl) (by simp) ?_
      refine AllReadyH.cons rfl (fun KK hK => ?_) AllReadyH.nil
      go_simp
      refine (specReport_any 0 _ _ nf fns n f _ (((unhide H1).below (unhide T3).below).below (unhide HB4)) (((unhide H2).below (unhide T3).below).below (unhide HB4))).mono ?_
      rintro e w5 ⟨⟨r2, rfl, hr2⟩, hb⟩
      obtain rfl := hr1.unique hr2
      have HB5 : Hid (Below w3.heap.size w3 w5) := hide ((unhide HB4).trans (hb.mono (unhide HB4).size))
      clear hb hr1 hr2
      refine hK.out _ _ (unhide HSS3 _ (unhide HB5)) (fun hHeld => ?_)
      clear hK KK
      try simp only [Act.put, List.setIfInBounds_toArray, List.getElem_toArray, List.getElem_cons_succ, List.getElem_cons_zero, List.set_cons_zero, List.set_cons_succ]
      refine takeAt 4 (some 23) (v := ?v4b) (by decide) rfl (by kernel_rfl) (by kernel_rfl) (by kernel_rfl) (fun _ _ _ h => h) (by rfl) ?hy4b hHeld ?r4b
      case hy4b => (intro wx hSw; obtain ⟨s0, s1⟩ := hSw; go_simp; with_reducible rfl)
      simp only [Act.put, List.setIfInBounds_toArray, List.set_cons_zero, List.set_cons_succ]
      refine takeAt 5 (some 2) (v := ?v5b) (by decide) rfl (by kernel_rfl) (by kernel_rfl) (by kernel_rfl) (fun _ _ _ h => h) (by rfl) ?hy5b hHeld ?r5b
      case hy5b => (intro wx hSw; obtain ⟨s0, s1⟩ := hSw; go_simp; with_reducible rfl)
      simp only [Act.put, List.setIfInBounds_toArray, List.set_cons_zero, List.set_cons_succ]
      refine wpAnyH_done (by kernel_rfl) ?_ _
      have T5 := hide ((unhide T3).go (unhide HB5))
      clear hHeld
      go_wp2
      go_ret
      exact ⟨rfl, (unhide HB1).trans ((unhide T5).below.mono (unhide HB1).size)⟩
    · have HS : Hid (¬ Sound nf fns n f) := hide (fun h => hc ((unhide HA).zero.1.2 h))
      have hcb : (c == 0) = false := by simpa using hc
      clear HSS hc
      have T4 := hide ((unhide T3).go (below_new w3 (.cells #[.int .i64 3, .int .i64 0, .string ⟨#[]⟩, .int .i64 0, .int .i64 0, .int .i64 0, .string ⟨#[]⟩] 47)))
      have g0 := (unhide T3).b0
      have g1 := (unhide T3).b1
      have k0 := (unhide T4).b0
      have k1 := (unhide T4).b1
      go_wp2_with fail
      refine (implLook_fault 0 _ _ nf fns n f _ _ _ _ ((unhide H1).below (unhide T4).below) ((unhide H2).below (unhide T4).below) (unhide HS)).mono ?_
      rintro e w5 ⟨rfl, hb⟩
      have T5 := hide ((unhide T4).go hb)
      clear hb
      have g0 := (unhide T5).b0
      have g1 := (unhide T5).b1
      go_wp2_with fail
      refine (implReport_any 0 _ _ nf fns n f _ ((unhide H1).below (unhide T5).below) ((unhide H2).below (unhide T5).below) (tab_go (unhide HTAB) (unhide T5).below)).mono ?_
      rintro e w6 ⟨⟨r, rfl, hr⟩, hb⟩
      obtain rfl : r = ⟨#[]⟩ := by
        rcases hr with ⟨x, -⟩ | ⟨-, x⟩
        · exact absurd x (unhide HS)
        · exact x
      clear hr
      have T6 := hide ((unhide T5).go hb)
      clear hb
      have g0 := (unhide T6).b0
      have g1 := (unhide T6).b1
      go_wp2_with fail
      refine (implFnCounts_any (unhide HSO) (unhide HCO) 0 _ _ nf fns n f _ ((unhide H1).below (unhide T6).below) ((unhide H2).below (unhide T6).below)).mono ?_
      rintro e w7 ⟨⟨fv, nc, F, rfl, hfc, hrows⟩, hb⟩
      obtain rfl : nc = 0 := by
        rcases hfc with ⟨x, -⟩ | ⟨-, x⟩
        · exact absurd x (unhide HS)
        · exact x
      obtain ⟨fa, fcap, rfl⟩ := hrows.shape
      clear hfc hrows
      have T7 := hide ((unhide T6).go hb)
      clear hb
      have g0 := (unhide T7).b0
      have g1 := (unhide T7).b1
      go_wp2_with fail
      refine (implCallTree_any 0 _ _ nf fns n f _ ((unhide H1).below (unhide T7).below) ((unhide H2).below (unhide T7).below)).mono ?_
      rintro e w8 ⟨⟨bv, nb, G, rfl, htr, hrows⟩, hb⟩
      obtain rfl : nb = 0 := by
        rcases htr with ⟨x, -⟩ | ⟨-, x⟩
        · exact absurd x (unhide HS)
        · exact x
      obtain ⟨ba, bcap, rfl⟩ := hrows.shape
      clear htr hrows
      have T8 := hide ((unhide T7).go hb)
      clear hb
      have g0 := (unhide T8).b0
      have g1 := (unhide T8).b1
      go_wp2_with fail
      refine (implInto_any 0 _ _ nf fns n f (-1) _ ((unhide H1).below (unhide T8).below) ((unhide H2).below (unhide T8).below)).mono ?_
      rintro e w9 ⟨hst, hb⟩
      obtain rfl : e = .returned (.int .i64 (-2)) := by
        rcases hst with ⟨x, -⟩ | ⟨-, x⟩
        · exact absurd x.1 (unhide HS)
        · exact x
      clear hst
      have T9 := hide ((unhide T8).go hb)
      clear hb
      have g0 := (unhide T9).b0
      have g1 := (unhide T9).b1
      go_wp2_with fail
      refine (implRunningAt_any 0 _ _ nf fns n f (-1) _ ((unhide H1).below (unhide T9).below) ((unhide H2).below (unhide T9).below)).mono ?_
      rintro e w10 ⟨hru, hb⟩
      obtain rfl : e = .returned (.int .i64 (-1)) := by
        rcases hru with ⟨x, -⟩ | ⟨-, x⟩
        · exact absurd x (unhide HS)
        · exact x
      clear hru
      have T10 := hide ((unhide T9).go hb)
      clear hb
      have g0 := (unhide T10).b0
      have g1 := (unhide T10).b1
      go_wp2
      go_ret
      exact ⟨rfl, (unhide HB1).trans ((unhide T10).below.mono (unhide HB1).size)⟩
  · have hle2 : decide ((1048576 : Int) < (len : Int)) = true := by simp; omega
    go_enter Tryz.func5, Tryz.ntmps5
    go_wp2
    go_ret
    exact ⟨rfl, Below.refl _ _⟩
end Go.Proofs.YtmnmeaeicjhkhaaGreatDoor
