import Derived.Test.YtmnmeaeicjhkhaaGreatDoorGYaz
import Derived.Test.YtmnmeaeicjhkhaaGreatDoorGYbz
import Derived.Test.YtmnmeaeicjhkhaaGreatDoorGYcz
/-
  The program's try, op by op.
-/
namespace Go.Proofs.YtmnmeaeicjhkhaaGreatDoor
open Go.RowKit Go.Shelf

attribute [local go_sem] Oper.semAt_some

theorem SBox.cd {W : World} {sb : Nat} {mv pv tv uv : Value} {k : Int} {D : Nat → Value} (h : SBox W sb mv pv k tv uv D) (j : Nat) (h5 : 5 ≤ j) (h75 : j < 75) : W.cell? ⟨sb, j, none⟩ = some (D j) := by
  obtain ⟨cs, hh, -, -, -, -, -, -, hd⟩ := h
  rw [cell_of_row W _ j _ _ _ hh]; exact hd j h5 h75

set_option maxRecDepth 100000 in
set_option maxHeartbeats 4000000 in
theorem try1_any (B sb lo lp : Nat) (mv pv tv uv : Value) (D : Nat → Value) (nf : Nat) (fns : Nat → ByteArray) (n : Nat) (f : Nat → M) (s : LS) (nn : Int) (name : ByteArray) (kd fn line : Int) (sn : ByteArray) (w : World) (h : SS B w sb mv pv n f s tv uv D) (h2 : ∀ W, Below B w W → MomsAt lo W mv n f) (hp : ∀ W, Below B w W → PlacesAt lp W pv n f) (hs : Sound nf fns n f) (hok : LsOk n s) (hpl : s.past.length ≤ 10000) (hB : B ≤ w.heap.size) (hz : name.size ≤ maxLen) (hzs : sn.size ≤ maxLen) (d0 : D 10 = .func (.func 104) #[.pointer (some ⟨sb, 0, none⟩)] #[]) (d1 : D 11 = .int .i64 0) (d2 : D 12 = .int .i64 0) (d3 : D 13 = .bool false) (d4 : D 14 = .bool true) :
    Calls Tryz.prog 115 #[.pointer (some ⟨sb, 0, none⟩), .agg #[.int .i64 1, .int .i64 nn, .string name, .int .i64 kd, .int .i64 fn, .int .i64 line, .string sn]] w fun e w' => DSay B sb mv pv n f D s (⟨1, nn, name, ⟨kd, fn, line, sn⟩⟩ : Ak) w e w' := by
  have H := hide h
  have H2 := hide h2
  have HP := hide hp
  have HS := hide hs
  have HOK := hide hok
  have HPL := hide hpl
  have HZ := hide hz
  have HZS := hide hzs
  have A1 := hide (DB.new w (⟨1, nn, name, ⟨kd, fn, line, sn⟩⟩ : Ak))
  have HB1 : Hid (Below w.heap.size w ((w.alloc (.cells #[.int .i64 1, .int .i64 nn, .string name, .int .i64 kd, .int .i64 fn, .int .i64 line, .string sn] 47)).alloc (.cells #[.int .i64 0, .int .i64 0, .int .i64 0, .string ⟨#[]⟩, .slice none 0 0, .slice none 0 0] 38))) := hide ((below_new w (.cells #[.int .i64 1, .int .i64 nn, .string name, .int .i64 kd, .int .i64 fn, .int .i64 line, .string sn] 47)).alloc (by simp) (.cells #[.int .i64 0, .int .i64 0, .int .i64 0, .string ⟨#[]⟩, .slice none 0 0, .slice none 0 0] 38))
  have H1 := hide ((unhide H).below (unhide HB1))
  have hlt := (unhide H).lt
  clear h h2 hp hs hok hpl hz hzs
  go_enter Tryz.func115, Tryz.ntmps115
  go_upto_region 3 with fail
  obtain ⟨w1, hw1⟩ : ∃ w1, w1 = ((w.alloc (.cells #[.int .i64 1, .int .i64 nn, .string name, .int .i64 kd, .int .i64 fn, .int .i64 line, .string sn] 47)).alloc (.cells #[.int .i64 0, .int .i64 0, .int .i64 0, .string ⟨#[]⟩, .slice none 0 0, .slice none 0 0] 38)) := ⟨_, rfl⟩
  have sz1 : w1.heap.size = w.heap.size + 2 := by rw [hw1]; simp
  rw [← hw1] at A1 HB1 H1 ⊢
  clear hw1
  have HSS : Hid (∀ W, Below w1.heap.size w1 W → W.cell? ⟨w.heap.size, 0, none⟩ = some (.int .i64 1) ∧ W.cell? ⟨sb, 10, none⟩ = some (.func (.func 104) #[.pointer (some ⟨sb, 0, none⟩)] #[]) ∧ W.cell? ⟨sb, 11, none⟩ = some (.int .i64 0) ∧ W.cell? ⟨sb, 12, none⟩ = some (.int .i64 0) ∧ W.cell? ⟨sb, 13, none⟩ = some (.bool false) ∧ W.cell? ⟨sb, 14, none⟩ = some (.bool true)) := hide (by
    intro W hb
    have ha := ((unhide A1).go hb).ak
    have hx := ((unhide H1).below hb).box
    exact ⟨by rw [cell_of_row W _ 0 _ _ _ ha]; rfl, by rw [← d0]; exact hx.cd _ (by omega) (by omega), by rw [← d1]; exact hx.cd _ (by omega) (by omega), by rw [← d2]; exact hx.cd _ (by omega) (by omega), by rw [← d3]; exact hx.cd _ (by omega) (by omega), by rw [← d4]; exact hx.cd _ (by omega) (by omega)⟩)
  clear d0 d1 d2 d3 d4
  refine wp_region_held_drew (S := fun W => W.cell? ⟨w.heap.size, 0, none⟩ = some (.int .i64 1) ∧ W.cell? ⟨sb, 10, none⟩ = some (.func (.func 104) #[.pointer (some ⟨sb, 0, none⟩)] #[]) ∧ W.cell? ⟨sb, 11, none⟩ = some (.int .i64 0) ∧ W.cell? ⟨sb, 12, none⟩ = some (.int .i64 0) ∧ W.cell? ⟨sb, 13, none⟩ = some (.bool false) ∧ W.cell? ⟨sb, 14, none⟩ = some (.bool true)) (by kernel_rfl) (unhide HSS _ (Below.refl _ _).drew) (fun hHeld => ?_)
  refine takeAt 0 (some 18) (v := ?v0a) (by decide) rfl (by kernel_rfl) (by kernel_rfl) (by kernel_rfl) (fun _ _ _ h => h) (by rfl) ?hy0a hHeld ?r0a
  case hy0a => (intro wx hSw; obtain ⟨s0, s1, s2, s3, s4, s5⟩ := hSw; go_simp; with_reducible rfl)
  simp only [Act.put, List.setIfInBounds_toArray, List.set_cons_zero, List.set_cons_succ]
  refine takeAt 1 (some 19) (v := ?v1a) (by decide) rfl (by kernel_rfl) (by kernel_rfl) (by kernel_rfl) (fun _ _ _ h => h) (by rfl) ?hy1a hHeld ?r1a
  case hy1a => (intro wx hSw; obtain ⟨s0, s1, s2, s3, s4, s5⟩ := hSw; go_simp; with_reducible rfl)
  simp only [Act.put, List.setIfInBounds_toArray, List.set_cons_zero, List.set_cons_succ]
  refine takeAt 2 (some 20) (v := ?v2a) (by decide) rfl (by kernel_rfl) (by kernel_rfl) (by kernel_rfl) (fun _ _ _ h => h) (by rfl) ?hy2a hHeld ?r2a
  case hy2a => (intro wx hSw; obtain ⟨s0, s1, s2, s3, s4, s5⟩ := hSw; go_simp; with_reducible rfl)
  simp only [Act.put, List.setIfInBounds_toArray, List.set_cons_zero, List.set_cons_succ]
  refine takeAt 3 (some 21) (v := ?v3a) (by decide) rfl (by kernel_rfl) (by kernel_rfl) (by kernel_rfl) (fun _ _ _ h => h) (by rfl) ?hy3a hHeld ?r3a
  case hy3a => (intro wx hSw; obtain ⟨s0, s1, s2, s3, s4, s5⟩ := hSw; go_simp; with_reducible rfl)
  simp only [Act.put, List.setIfInBounds_toArray, List.set_cons_zero, List.set_cons_succ]
  refine takeAt 4 (some 22) (v := ?v4a) (by decide) rfl (by kernel_rfl) (by kernel_rfl) (by kernel_rfl) (fun _ _ _ h => h) (by rfl) ?hy4a hHeld ?r4a
  case hy4a => (intro wx hSw; obtain ⟨s0, s1, s2, s3, s4, s5⟩ := hSw; go_simp; with_reducible rfl)
  simp only [Act.put, List.setIfInBounds_toArray, List.set_cons_zero, List.set_cons_succ]
  refine takeAt 5 (some 23) (v := ?v5a) (by decide) rfl (by kernel_rfl) (by kernel_rfl) (by kernel_rfl) (fun _ _ _ h => h) (by rfl) ?hy5a hHeld ?r5a
  case hy5a => (intro wx hSw; obtain ⟨s0, s1, s2, s3, s4, s5⟩ := hSw; go_simp; with_reducible rfl)
  simp only [Act.put, List.setIfInBounds_toArray, List.set_cons_zero, List.set_cons_succ]
  refine takeAt 6 (some 24) (v := ?v6a) (by decide) rfl (by kernel_rfl) (by kernel_rfl) (by kernel_rfl) (fun _ _ _ h => h) (by rfl) ?hy6a hHeld ?r6a
  case hy6a => (intro wx hSw; obtain ⟨s0, s1, s2, s3, s4, s5⟩ := hSw; go_simp; with_reducible rfl)
  simp only [Act.put, List.setIfInBounds_toArray, List.set_cons_zero, List.set_cons_succ]
  refine wpAnyH_ready (rs := [7]) (by kernel_rfl) (by simp) ?_
  refine AllReadyH.cons rfl (fun KK hK => ?_) AllReadyH.nil
  go_simp
  have hba : Below w1.heap.size w1 (w1.alloc (.cells #[.nilFunc, .int .i64 0, .int .i64 0, .bool false, .bool false] 173)).drew := (below_new w1 _).drew
  refine hK.out _ _ (unhide HSS _ hba) (fun hHeld => ?_)
  clear hK KK hba
  try simp only [Act.put, List.setIfInBounds_toArray, List.getElem_toArray, List.getElem_cons_succ, List.getElem_cons_zero, List.set_cons_zero, List.set_cons_succ]
  refine wpAnyH_ready (rs := [8]) (by kernel_rfl) (by simp) ?_
  refine AllReadyH.cons rfl (fun KK hK => ?_) AllReadyH.nil
  go_simp
  have hb2 : Below w1.heap.size w1 (w1.alloc (.cells #[.func (.func 104) #[.pointer (some ⟨sb, 0, none⟩)] #[], .int .i64 0, .int .i64 0, .bool false, .bool true] 173)).drew := (below_new w1 _).drew
  have HX2 : Hid ((w1.alloc (.cells #[.func (.func 104) #[.pointer (some ⟨sb, 0, none⟩)] #[], .int .i64 0, .int .i64 0, .bool false, .bool true] 173)).drew.heap[w1.heap.size]? = some (.cells #[.func (.func 104) #[.pointer (some ⟨sb, 0, none⟩)] #[], .int .i64 0, .int .i64 0, .bool false, .bool true] 173 (0, 0))) := hide (heap_alloc_new w1 _)
  rw [sz1] at HX2
  refine hK.out _ _ (unhide HSS _ hb2) (fun hHeld => ?_)
  clear hK KK hHeld
  try simp only [Act.put, List.setIfInBounds_toArray, List.getElem_toArray, List.getElem_cons_succ, List.getElem_cons_zero, List.set_cons_zero, List.set_cons_succ]
  refine wpAnyH_done (by kernel_rfl) ?_ _
  generalize hW2 : (w1.alloc (.cells #[.func (.func 104) #[.pointer (some ⟨sb, 0, none⟩)] #[], .int .i64 0, .int .i64 0, .bool false, .bool true] 173)).drew = w2 at hb2 HX2 ⊢
  clear hW2
  have A2 := hide ((unhide A1).go hb2)
  have HL2 := hide ((unhide H1).below hb2)
  have HB2 := hide ((unhide HB1).trans (hb2.mono (unhide HB1).size))
  clear hb2 A1 H1 HSS
  have e0 : w2.cell? ⟨w.heap.size + 2, 0, none⟩ = some (.func (.func 104) #[.pointer (some ⟨sb, 0, none⟩)] #[]) := by rw [cell_of_row w2 _ 0 _ _ _ (unhide HX2)]; rfl
  have e1 : w2.cell? ⟨w.heap.size + 2, 1, none⟩ = some (.int .i64 0) := by rw [cell_of_row w2 _ 1 _ _ _ (unhide HX2)]; rfl
  have e2 : w2.cell? ⟨w.heap.size + 2, 2, none⟩ = some (.int .i64 0) := by rw [cell_of_row w2 _ 2 _ _ _ (unhide HX2)]; rfl
  have e3 : w2.cell? ⟨w.heap.size + 2, 3, none⟩ = some (.bool false) := by rw [cell_of_row w2 _ 3 _ _ _ (unhide HX2)]; rfl
  have e4 : w2.cell? ⟨w.heap.size + 2, 4, none⟩ = some (.bool true) := by rw [cell_of_row w2 _ 4 _ _ _ (unhide HX2)]; rfl
  have a0 : w2.cell? ⟨w.heap.size, 0, none⟩ = some (.int .i64 1) := by rw [cell_of_row w2 _ 0 _ _ _ (unhide A2).ak]; rfl
  have a1 : w2.cell? ⟨w.heap.size, 1, none⟩ = some (.int .i64 nn) := (unhide A2).a1
  have a2 : w2.cell? ⟨w.heap.size, 2, none⟩ = some (.string name) := (unhide A2).a2
  have a3 : w2.cell? ⟨w.heap.size, 3, none⟩ = some (.int .i64 kd) := (unhide A2).a3
  have a4 : w2.cell? ⟨w.heap.size, 4, none⟩ = some (.int .i64 fn) := (unhide A2).a4
  have a5 : w2.cell? ⟨w.heap.size, 5, none⟩ = some (.int .i64 line) := (unhide A2).a5
  have a6 : w2.cell? ⟨w.heap.size, 6, none⟩ = some (.string sn) := (unhide A2).a6
  go_wp2_with fail
  refine (takesS_any _ _ _ 1 nn name kd fn line sn _ (unhide HZ) (unhide HZS)).mono ?_
  rintro e w3 ⟨⟨b, rfl, hbT⟩, hb3⟩
  clear e0 e1 e2 e3 e4 a0 a1 a2 a3 a4 a5 a6
  have A3 := hide ((unhide A2).go hb3)
  have HL3 := hide ((unhide HL2).below hb3)
  have HX3 := hide ((hb3.block _ (heap_ltx (unhide HX2))).trans (unhide HX2))
  have HB3 := hide ((unhide HB2).trans (hb3.mono (unhide HB2).size))
  clear hb3 A2 HL2 HX2
  cases b with
  | false =>
    have hN : ¬ OkAsk (⟨1, nn, name, ⟨kd, fn, line, sn⟩⟩ : Ak) := fun hO => by
      refine absurd (hbT.2 ?_) (by decide)
      have h := okAsk1.1 hO; exact ⟨Int.le_of_eq h.1.symm, Int.le_of_eq h.1, (by rw [if_pos rfl]; exact h.2.2), (by rw [if_neg (by simp)]; exact h.2.1)⟩
    have HN := hide hN
    clear hN hbT
    obtain ⟨⟨r0, r1, r2, r3, r4, r5⟩, x0, x1, x2, x3, x4, x5⟩ := (unhide A3).rc
    go_wp2
    refine bodyPost_ret (v := .tuple #[.agg #[.int .i64 0, .int .i64 0, .int .i64 0, .string ⟨#[]⟩, .slice none 0 0, .slice none 0 0], .iface 180 (.agg #[.int .i64 1])]) (by simp [results, Tryz.results115, go_sem, r0, r1, r2, r3, r4, r5]) rfl ?_
    exact dsay_end (AskIs.notOk (unhide HN)) (.inr ⟨rfl, by show (1 : Int) ≠ 0; omega, rfl⟩) (unhide HL3) (unhide A3) (frs_nil _ _) (VsAt.nil _ _) ((unhide HB3).mono hB) (Same.of_below (unhide HB3)) hB
  | true =>
    have hT := hbT.1 rfl
    have HO : Hid (OkAsk (⟨1, nn, name, ⟨kd, fn, line, sn⟩⟩ : Ak)) := hide (okAsk1.2 ⟨(Int.le_antisymm hT.2.1 hT.1), (by have q := hT.2.2.2; rwa [if_neg (by simp)] at q), (by have q := hT.2.2.1; rwa [if_pos rfl] at q)⟩)
    clear hbT hT
    have e0 : w3.cell? ⟨w.heap.size + 2, 0, none⟩ = some (.func (.func 104) #[.pointer (some ⟨sb, 0, none⟩)] #[]) := by rw [cell_of_row w3 _ 0 _ _ _ (unhide HX3)]; rfl
    have a0 : w3.cell? ⟨w.heap.size, 0, none⟩ = some (.int .i64 1) := by rw [cell_of_row w3 _ 0 _ _ _ (unhide A3).ak]; rfl
    have a1 : w3.cell? ⟨w.heap.size, 1, none⟩ = some (.int .i64 nn) := (unhide A3).a1
    have a2 : w3.cell? ⟨w.heap.size, 2, none⟩ = some (.string name) := (unhide A3).a2
    have a3 : w3.cell? ⟨w.heap.size, 3, none⟩ = some (.int .i64 kd) := (unhide A3).a3
    have a4 : w3.cell? ⟨w.heap.size, 4, none⟩ = some (.int .i64 fn) := (unhide A3).a4
    have a5 : w3.cell? ⟨w.heap.size, 5, none⟩ = some (.int .i64 line) := (unhide A3).a5
    have a6 : w3.cell? ⟨w.heap.size, 6, none⟩ = some (.string sn) := (unhide A3).a6
    go_wp2_with fail
    refine (addStop_any B sb lo lp mv pv tv uv D nf fns n f s nn name kd fn line sn w3 (unhide HL3) (fun W hb => unhide H2 W (((unhide HB3).mono hB).trans hb)) (fun W hb => unhide HP W (((unhide HB3).mono hB).trans hb)) (unhide HS) (unhide HOK) (unhide HPL) (Nat.le_trans hB (unhide HB3).size) (unhide HO)).mono ?_
    rintro e w4 ⟨s', d, m, t, v5, v6, er, rfl, hI, hd, ⟨tv', uv', hL4⟩, h5, h6, hb4, hk4⟩
    clear e0 a0 a1 a2 a3 a4 a5 a6
    obtain ⟨va, vc, rfl⟩ := owns_slice h5
    obtain ⟨ua, uc, rfl⟩ := owns_slice h6.row
    generalize hx : d.fr.length = ln5 at h5
    generalize hy : d.vs.length = ln6 at h6
    clear hx hy
    have A4 := hide ((unhide A3).same hk4)
    have H5 : Hid (FrsAt w.heap.size w4 (.slice va ln5 vc) d.fr) := hide (owns_low h5 (unhide HB3).size)
    have H6 : Hid (VsAt w.heap.size w4 (.slice ua ln6 uc) d.vs) := hide (h6.low (unhide HB3).size)
    have HB4 : Hid (Below B w w4) := hide (((unhide HB3).mono hB).trans hb4)
    have HK4 : Hid (Same KindS w w4) := hide ((Same.of_below (unhide HB3)).trans hk4)
    have HL4 := hide hL4
    have HI := hide hI
    have HD := hide hd
    clear hL4 h5 h6 hb4 hk4 hI hd
    obtain ⟨⟨r0, r1, r2, r3, r4, r5⟩, x0, x1, x2, x3, x4, x5⟩ := (unhide A4).rc
    go_wp2
    refine bodyPost_ret (v := .tuple #[.agg #[.int .i64 0, .int .i64 0, .int .i64 m, .string t, .slice va ln5 vc, .slice ua ln6 uc], er]) (by simp [results, Tryz.results115, go_sem, r0, r1, r2, r3, r4, r5]) rfl ?_
    exact dsay_end (unhide HI) (unhide HD) (unhide HL4) (unhide A4) (unhide H5) (unhide H6) (unhide HB4) (unhide HK4) hB

set_option maxRecDepth 100000 in
set_option maxHeartbeats 4000000 in
theorem try2_any (B sb lo lp : Nat) (mv pv tv uv : Value) (D : Nat → Value) (nf : Nat) (fns : Nat → ByteArray) (n : Nat) (f : Nat → M) (s : LS) (nn : Int) (name : ByteArray) (kd fn line : Int) (sn : ByteArray) (w : World) (h : SS B w sb mv pv n f s tv uv D) (h2 : ∀ W, Below B w W → MomsAt lo W mv n f) (hp : ∀ W, Below B w W → PlacesAt lp W pv n f) (hs : Sound nf fns n f) (hok : LsOk n s) (hpl : s.past.length ≤ 10000) (hB : B ≤ w.heap.size) (hz : name.size ≤ maxLen) (hzs : sn.size ≤ maxLen) (d0 : D 15 = .func (.func 105) #[.pointer (some ⟨sb, 0, none⟩)] #[]) (d1 : D 16 = .int .i64 0) (d2 : D 17 = .int .i64 49) (d3 : D 18 = .bool false) (d4 : D 19 = .bool false) :
    Calls Tryz.prog 115 #[.pointer (some ⟨sb, 0, none⟩), .agg #[.int .i64 2, .int .i64 nn, .string name, .int .i64 kd, .int .i64 fn, .int .i64 line, .string sn]] w fun e w' => DSay B sb mv pv n f D s (⟨2, nn, name, ⟨kd, fn, line, sn⟩⟩ : Ak) w e w' := by
  have H := hide h
  have H2 := hide h2
  have HP := hide hp
  have HS := hide hs
  have HOK := hide hok
  have HPL := hide hpl
  have HZ := hide hz
  have HZS := hide hzs
  have A1 := hide (DB.new w (⟨2, nn, name, ⟨kd, fn, line, sn⟩⟩ : Ak))
  have HB1 : Hid (Below w.heap.size w ((w.alloc (.cells #[.int .i64 2, .int .i64 nn, .string name, .int .i64 kd, .int .i64 fn, .int .i64 line, .string sn] 47)).alloc (.cells #[.int .i64 0, .int .i64 0, .int .i64 0, .string ⟨#[]⟩, .slice none 0 0, .slice none 0 0] 38))) := hide ((below_new w (.cells #[.int .i64 2, .int .i64 nn, .string name, .int .i64 kd, .int .i64 fn, .int .i64 line, .string sn] 47)).alloc (by simp) (.cells #[.int .i64 0, .int .i64 0, .int .i64 0, .string ⟨#[]⟩, .slice none 0 0, .slice none 0 0] 38))
  have H1 := hide ((unhide H).below (unhide HB1))
  have hlt := (unhide H).lt
  clear h h2 hp hs hok hpl hz hzs
  go_enter Tryz.func115, Tryz.ntmps115
  go_upto_region 3 with fail
  obtain ⟨w1, hw1⟩ : ∃ w1, w1 = ((w.alloc (.cells #[.int .i64 2, .int .i64 nn, .string name, .int .i64 kd, .int .i64 fn, .int .i64 line, .string sn] 47)).alloc (.cells #[.int .i64 0, .int .i64 0, .int .i64 0, .string ⟨#[]⟩, .slice none 0 0, .slice none 0 0] 38)) := ⟨_, rfl⟩
  have sz1 : w1.heap.size = w.heap.size + 2 := by rw [hw1]; simp
  rw [← hw1] at A1 HB1 H1 ⊢
  clear hw1
  have HSS : Hid (∀ W, Below w1.heap.size w1 W → W.cell? ⟨w.heap.size, 0, none⟩ = some (.int .i64 2) ∧ W.cell? ⟨sb, 15, none⟩ = some (.func (.func 105) #[.pointer (some ⟨sb, 0, none⟩)] #[]) ∧ W.cell? ⟨sb, 16, none⟩ = some (.int .i64 0) ∧ W.cell? ⟨sb, 17, none⟩ = some (.int .i64 49) ∧ W.cell? ⟨sb, 18, none⟩ = some (.bool false) ∧ W.cell? ⟨sb, 19, none⟩ = some (.bool false)) := hide (by
    intro W hb
    have ha := ((unhide A1).go hb).ak
    have hx := ((unhide H1).below hb).box
    exact ⟨by rw [cell_of_row W _ 0 _ _ _ ha]; rfl, by rw [← d0]; exact hx.cd _ (by omega) (by omega), by rw [← d1]; exact hx.cd _ (by omega) (by omega), by rw [← d2]; exact hx.cd _ (by omega) (by omega), by rw [← d3]; exact hx.cd _ (by omega) (by omega), by rw [← d4]; exact hx.cd _ (by omega) (by omega)⟩)
  clear d0 d1 d2 d3 d4
  refine wp_region_held_drew (S := fun W => W.cell? ⟨w.heap.size, 0, none⟩ = some (.int .i64 2) ∧ W.cell? ⟨sb, 15, none⟩ = some (.func (.func 105) #[.pointer (some ⟨sb, 0, none⟩)] #[]) ∧ W.cell? ⟨sb, 16, none⟩ = some (.int .i64 0) ∧ W.cell? ⟨sb, 17, none⟩ = some (.int .i64 49) ∧ W.cell? ⟨sb, 18, none⟩ = some (.bool false) ∧ W.cell? ⟨sb, 19, none⟩ = some (.bool false)) (by kernel_rfl) (unhide HSS _ (Below.refl _ _).drew) (fun hHeld => ?_)
  refine takeAt 0 (some 18) (v := ?v0a) (by decide) rfl (by kernel_rfl) (by kernel_rfl) (by kernel_rfl) (fun _ _ _ h => h) (by rfl) ?hy0a hHeld ?r0a
  case hy0a => (intro wx hSw; obtain ⟨s0, s1, s2, s3, s4, s5⟩ := hSw; go_simp; with_reducible rfl)
  simp only [Act.put, List.setIfInBounds_toArray, List.set_cons_zero, List.set_cons_succ]
  refine takeAt 1 (some 19) (v := ?v1a) (by decide) rfl (by kernel_rfl) (by kernel_rfl) (by kernel_rfl) (fun _ _ _ h => h) (by rfl) ?hy1a hHeld ?r1a
  case hy1a => (intro wx hSw; obtain ⟨s0, s1, s2, s3, s4, s5⟩ := hSw; go_simp; with_reducible rfl)
  simp only [Act.put, List.setIfInBounds_toArray, List.set_cons_zero, List.set_cons_succ]
  refine takeAt 2 (some 20) (v := ?v2a) (by decide) rfl (by kernel_rfl) (by kernel_rfl) (by kernel_rfl) (fun _ _ _ h => h) (by rfl) ?hy2a hHeld ?r2a
  case hy2a => (intro wx hSw; obtain ⟨s0, s1, s2, s3, s4, s5⟩ := hSw; go_simp; with_reducible rfl)
  simp only [Act.put, List.setIfInBounds_toArray, List.set_cons_zero, List.set_cons_succ]
  refine takeAt 3 (some 21) (v := ?v3a) (by decide) rfl (by kernel_rfl) (by kernel_rfl) (by kernel_rfl) (fun _ _ _ h => h) (by rfl) ?hy3a hHeld ?r3a
  case hy3a => (intro wx hSw; obtain ⟨s0, s1, s2, s3, s4, s5⟩ := hSw; go_simp; with_reducible rfl)
  simp only [Act.put, List.setIfInBounds_toArray, List.set_cons_zero, List.set_cons_succ]
  refine takeAt 4 (some 22) (v := ?v4a) (by decide) rfl (by kernel_rfl) (by kernel_rfl) (by kernel_rfl) (fun _ _ _ h => h) (by rfl) ?hy4a hHeld ?r4a
  case hy4a => (intro wx hSw; obtain ⟨s0, s1, s2, s3, s4, s5⟩ := hSw; go_simp; with_reducible rfl)
  simp only [Act.put, List.setIfInBounds_toArray, List.set_cons_zero, List.set_cons_succ]
  refine takeAt 5 (some 23) (v := ?v5a) (by decide) rfl (by kernel_rfl) (by kernel_rfl) (by kernel_rfl) (fun _ _ _ h => h) (by rfl) ?hy5a hHeld ?r5a
  case hy5a => (intro wx hSw; obtain ⟨s0, s1, s2, s3, s4, s5⟩ := hSw; go_simp; with_reducible rfl)
  simp only [Act.put, List.setIfInBounds_toArray, List.set_cons_zero, List.set_cons_succ]
  refine takeAt 6 (some 24) (v := ?v6a) (by decide) rfl (by kernel_rfl) (by kernel_rfl) (by kernel_rfl) (fun _ _ _ h => h) (by rfl) ?hy6a hHeld ?r6a
  case hy6a => (intro wx hSw; obtain ⟨s0, s1, s2, s3, s4, s5⟩ := hSw; go_simp; with_reducible rfl)
  simp only [Act.put, List.setIfInBounds_toArray, List.set_cons_zero, List.set_cons_succ]
  refine wpAnyH_ready (rs := [7]) (by kernel_rfl) (by simp) ?_
  refine AllReadyH.cons rfl (fun KK hK => ?_) AllReadyH.nil
  go_simp
  have hba : Below w1.heap.size w1 (w1.alloc (.cells #[.nilFunc, .int .i64 0, .int .i64 0, .bool false, .bool false] 173)).drew := (below_new w1 _).drew
  refine hK.out _ _ (unhide HSS _ hba) (fun hHeld => ?_)
  clear hK KK hba
  try simp only [Act.put, List.setIfInBounds_toArray, List.getElem_toArray, List.getElem_cons_succ, List.getElem_cons_zero, List.set_cons_zero, List.set_cons_succ]
  refine wpAnyH_ready (rs := [8]) (by kernel_rfl) (by simp) ?_
  refine AllReadyH.cons rfl (fun KK hK => ?_) AllReadyH.nil
  go_simp
  have hb2 : Below w1.heap.size w1 (w1.alloc (.cells #[.func (.func 105) #[.pointer (some ⟨sb, 0, none⟩)] #[], .int .i64 0, .int .i64 49, .bool false, .bool false] 173)).drew := (below_new w1 _).drew
  have HX2 : Hid ((w1.alloc (.cells #[.func (.func 105) #[.pointer (some ⟨sb, 0, none⟩)] #[], .int .i64 0, .int .i64 49, .bool false, .bool false] 173)).drew.heap[w1.heap.size]? = some (.cells #[.func (.func 105) #[.pointer (some ⟨sb, 0, none⟩)] #[], .int .i64 0, .int .i64 49, .bool false, .bool false] 173 (0, 0))) := hide (heap_alloc_new w1 _)
  rw [sz1] at HX2
  refine hK.out _ _ (unhide HSS _ hb2) (fun hHeld => ?_)
  clear hK KK hHeld
  try simp only [Act.put, List.setIfInBounds_toArray, List.getElem_toArray, List.getElem_cons_succ, List.getElem_cons_zero, List.set_cons_zero, List.set_cons_succ]
  refine wpAnyH_done (by kernel_rfl) ?_ _
  generalize hW2 : (w1.alloc (.cells #[.func (.func 105) #[.pointer (some ⟨sb, 0, none⟩)] #[], .int .i64 0, .int .i64 49, .bool false, .bool false] 173)).drew = w2 at hb2 HX2 ⊢
  clear hW2
  have A2 := hide ((unhide A1).go hb2)
  have HL2 := hide ((unhide H1).below hb2)
  have HB2 := hide ((unhide HB1).trans (hb2.mono (unhide HB1).size))
  clear hb2 A1 H1 HSS
  have e0 : w2.cell? ⟨w.heap.size + 2, 0, none⟩ = some (.func (.func 105) #[.pointer (some ⟨sb, 0, none⟩)] #[]) := by rw [cell_of_row w2 _ 0 _ _ _ (unhide HX2)]; rfl
  have e1 : w2.cell? ⟨w.heap.size + 2, 1, none⟩ = some (.int .i64 0) := by rw [cell_of_row w2 _ 1 _ _ _ (unhide HX2)]; rfl
  have e2 : w2.cell? ⟨w.heap.size + 2, 2, none⟩ = some (.int .i64 49) := by rw [cell_of_row w2 _ 2 _ _ _ (unhide HX2)]; rfl
  have e3 : w2.cell? ⟨w.heap.size + 2, 3, none⟩ = some (.bool false) := by rw [cell_of_row w2 _ 3 _ _ _ (unhide HX2)]; rfl
  have e4 : w2.cell? ⟨w.heap.size + 2, 4, none⟩ = some (.bool false) := by rw [cell_of_row w2 _ 4 _ _ _ (unhide HX2)]; rfl
  have a0 : w2.cell? ⟨w.heap.size, 0, none⟩ = some (.int .i64 2) := by rw [cell_of_row w2 _ 0 _ _ _ (unhide A2).ak]; rfl
  have a1 : w2.cell? ⟨w.heap.size, 1, none⟩ = some (.int .i64 nn) := (unhide A2).a1
  have a2 : w2.cell? ⟨w.heap.size, 2, none⟩ = some (.string name) := (unhide A2).a2
  have a3 : w2.cell? ⟨w.heap.size, 3, none⟩ = some (.int .i64 kd) := (unhide A2).a3
  have a4 : w2.cell? ⟨w.heap.size, 4, none⟩ = some (.int .i64 fn) := (unhide A2).a4
  have a5 : w2.cell? ⟨w.heap.size, 5, none⟩ = some (.int .i64 line) := (unhide A2).a5
  have a6 : w2.cell? ⟨w.heap.size, 6, none⟩ = some (.string sn) := (unhide A2).a6
  go_wp2_with fail
  refine (takes_any _ _ _ 2 nn name kd fn line sn _ (unhide HZ) (unhide HZS)).mono ?_
  rintro e w3 ⟨⟨b, rfl, hbT⟩, hb3⟩
  clear e0 e1 e2 e3 e4 a0 a1 a2 a3 a4 a5 a6
  have A3 := hide ((unhide A2).go hb3)
  have HL3 := hide ((unhide HL2).below hb3)
  have HX3 := hide ((hb3.block _ (heap_ltx (unhide HX2))).trans (unhide HX2))
  have HB3 := hide ((unhide HB2).trans (hb3.mono (unhide HB2).size))
  clear hb3 A2 HL2 HX2
  cases b with
  | false =>
    have hN : ¬ OkAsk (⟨2, nn, name, ⟨kd, fn, line, sn⟩⟩ : Ak) := fun hO => by
      refine absurd (hbT.2 ?_) (by decide)
      have h := (okAsk2 (by omega)).1 hO; exact ⟨h.1.1, h.1.2, (by rw [if_neg (by simp)]; exact h.2.2), (by rw [if_neg (by simp)]; exact h.2.1)⟩
    have HN := hide hN
    clear hN hbT
    obtain ⟨⟨r0, r1, r2, r3, r4, r5⟩, x0, x1, x2, x3, x4, x5⟩ := (unhide A3).rc
    go_wp2
    refine bodyPost_ret (v := .tuple #[.agg #[.int .i64 0, .int .i64 0, .int .i64 0, .string ⟨#[]⟩, .slice none 0 0, .slice none 0 0], .iface 180 (.agg #[.int .i64 1])]) (by simp [results, Tryz.results115, go_sem, r0, r1, r2, r3, r4, r5]) rfl ?_
    exact dsay_end (AskIs.notOk (unhide HN)) (.inr ⟨rfl, by show (1 : Int) ≠ 0; omega, rfl⟩) (unhide HL3) (unhide A3) (frs_nil _ _) (VsAt.nil _ _) ((unhide HB3).mono hB) (Same.of_below (unhide HB3)) hB
  | true =>
    have hT := hbT.1 rfl
    have HO : Hid (OkAsk (⟨2, nn, name, ⟨kd, fn, line, sn⟩⟩ : Ak)) := hide ((okAsk2 (by omega)).2 ⟨⟨hT.1, hT.2.1⟩, (by have q := hT.2.2.2; rwa [if_neg (by simp)] at q), (by have q := hT.2.2.1; rwa [if_neg (by simp)] at q)⟩)
    clear hbT hT
    have e0 : w3.cell? ⟨w.heap.size + 2, 0, none⟩ = some (.func (.func 105) #[.pointer (some ⟨sb, 0, none⟩)] #[]) := by rw [cell_of_row w3 _ 0 _ _ _ (unhide HX3)]; rfl
    have a0 : w3.cell? ⟨w.heap.size, 0, none⟩ = some (.int .i64 2) := by rw [cell_of_row w3 _ 0 _ _ _ (unhide A3).ak]; rfl
    have a1 : w3.cell? ⟨w.heap.size, 1, none⟩ = some (.int .i64 nn) := (unhide A3).a1
    have a2 : w3.cell? ⟨w.heap.size, 2, none⟩ = some (.string name) := (unhide A3).a2
    have a3 : w3.cell? ⟨w.heap.size, 3, none⟩ = some (.int .i64 kd) := (unhide A3).a3
    have a4 : w3.cell? ⟨w.heap.size, 4, none⟩ = some (.int .i64 fn) := (unhide A3).a4
    have a5 : w3.cell? ⟨w.heap.size, 5, none⟩ = some (.int .i64 line) := (unhide A3).a5
    have a6 : w3.cell? ⟨w.heap.size, 6, none⟩ = some (.string sn) := (unhide A3).a6
    go_wp2_with fail
    refine (clearStop_any B sb lo lp mv pv tv uv D nf fns n f s nn name kd fn line sn w3 (unhide HL3) (fun W hb => unhide H2 W (((unhide HB3).mono hB).trans hb)) (fun W hb => unhide HP W (((unhide HB3).mono hB).trans hb)) (unhide HS) (unhide HOK) (unhide HPL) (Nat.le_trans hB (unhide HB3).size) (unhide HO)).mono ?_
    rintro e w4 ⟨s', d, m, t, v5, v6, er, rfl, hI, hd, ⟨tv', uv', hL4⟩, h5, h6, hb4, hk4⟩
    clear e0 a0 a1 a2 a3 a4 a5 a6
    obtain ⟨va, vc, rfl⟩ := owns_slice h5
    obtain ⟨ua, uc, rfl⟩ := owns_slice h6.row
    generalize hx : d.fr.length = ln5 at h5
    generalize hy : d.vs.length = ln6 at h6
    clear hx hy
    have A4 := hide ((unhide A3).same hk4)
    have H5 : Hid (FrsAt w.heap.size w4 (.slice va ln5 vc) d.fr) := hide (owns_low h5 (unhide HB3).size)
    have H6 : Hid (VsAt w.heap.size w4 (.slice ua ln6 uc) d.vs) := hide (h6.low (unhide HB3).size)
    have HB4 : Hid (Below B w w4) := hide (((unhide HB3).mono hB).trans hb4)
    have HK4 : Hid (Same KindS w w4) := hide ((Same.of_below (unhide HB3)).trans hk4)
    have HL4 := hide hL4
    have HI := hide hI
    have HD := hide hd
    clear hL4 h5 h6 hb4 hk4 hI hd
    obtain ⟨⟨r0, r1, r2, r3, r4, r5⟩, x0, x1, x2, x3, x4, x5⟩ := (unhide A4).rc
    go_wp2
    refine bodyPost_ret (v := .tuple #[.agg #[.int .i64 0, .int .i64 0, .int .i64 m, .string t, .slice va ln5 vc, .slice ua ln6 uc], er]) (by simp [results, Tryz.results115, go_sem, r0, r1, r2, r3, r4, r5]) rfl ?_
    exact dsay_end (unhide HI) (unhide HD) (unhide HL4) (unhide A4) (unhide H5) (unhide H6) (unhide HB4) (unhide HK4) hB

set_option maxRecDepth 100000 in
set_option maxHeartbeats 4000000 in
theorem try3_any (B sb lo lp : Nat) (mv pv tv uv : Value) (D : Nat → Value) (nf : Nat) (fns : Nat → ByteArray) (n : Nat) (f : Nat → M) (s : LS) (nn : Int) (name : ByteArray) (kd fn line : Int) (sn : ByteArray) (w : World) (h : SS B w sb mv pv n f s tv uv D) (h2 : ∀ W, Below B w W → MomsAt lo W mv n f) (hp : ∀ W, Below B w W → PlacesAt lp W pv n f) (hs : Sound nf fns n f) (hok : LsOk n s) (hpl : s.past.length ≤ 10000) (hB : B ≤ w.heap.size) (hz : name.size ≤ maxLen) (hzs : sn.size ≤ maxLen) (d0 : D 20 = .func (.func 106) #[.pointer (some ⟨sb, 0, none⟩)] #[]) (d1 : D 21 = .int .i64 0) (d2 : D 22 = .int .i64 0) (d3 : D 23 = .bool false) (d4 : D 24 = .bool false) :
    Calls Tryz.prog 115 #[.pointer (some ⟨sb, 0, none⟩), .agg #[.int .i64 3, .int .i64 nn, .string name, .int .i64 kd, .int .i64 fn, .int .i64 line, .string sn]] w fun e w' => DSay B sb mv pv n f D s (⟨3, nn, name, ⟨kd, fn, line, sn⟩⟩ : Ak) w e w' := by
  have H := hide h
  have H2 := hide h2
  have HP := hide hp
  have HS := hide hs
  have HOK := hide hok
  have HPL := hide hpl
  have HZ := hide hz
  have HZS := hide hzs
  have A1 := hide (DB.new w (⟨3, nn, name, ⟨kd, fn, line, sn⟩⟩ : Ak))
  have HB1 : Hid (Below w.heap.size w ((w.alloc (.cells #[.int .i64 3, .int .i64 nn, .string name, .int .i64 kd, .int .i64 fn, .int .i64 line, .string sn] 47)).alloc (.cells #[.int .i64 0, .int .i64 0, .int .i64 0, .string ⟨#[]⟩, .slice none 0 0, .slice none 0 0] 38))) := hide ((below_new w (.cells #[.int .i64 3, .int .i64 nn, .string name, .int .i64 kd, .int .i64 fn, .int .i64 line, .string sn] 47)).alloc (by simp) (.cells #[.int .i64 0, .int .i64 0, .int .i64 0, .string ⟨#[]⟩, .slice none 0 0, .slice none 0 0] 38))
  have H1 := hide ((unhide H).below (unhide HB1))
  have hlt := (unhide H).lt
  clear h h2 hp hs hok hpl hz hzs
  go_enter Tryz.func115, Tryz.ntmps115
  go_upto_region 3 with fail
  obtain ⟨w1, hw1⟩ : ∃ w1, w1 = ((w.alloc (.cells #[.int .i64 3, .int .i64 nn, .string name, .int .i64 kd, .int .i64 fn, .int .i64 line, .string sn] 47)).alloc (.cells #[.int .i64 0, .int .i64 0, .int .i64 0, .string ⟨#[]⟩, .slice none 0 0, .slice none 0 0] 38)) := ⟨_, rfl⟩
  have sz1 : w1.heap.size = w.heap.size + 2 := by rw [hw1]; simp
  rw [← hw1] at A1 HB1 H1 ⊢
  clear hw1
  have HSS : Hid (∀ W, Below w1.heap.size w1 W → W.cell? ⟨w.heap.size, 0, none⟩ = some (.int .i64 3) ∧ W.cell? ⟨sb, 20, none⟩ = some (.func (.func 106) #[.pointer (some ⟨sb, 0, none⟩)] #[]) ∧ W.cell? ⟨sb, 21, none⟩ = some (.int .i64 0) ∧ W.cell? ⟨sb, 22, none⟩ = some (.int .i64 0) ∧ W.cell? ⟨sb, 23, none⟩ = some (.bool false) ∧ W.cell? ⟨sb, 24, none⟩ = some (.bool false)) := hide (by
    intro W hb
    have ha := ((unhide A1).go hb).ak
    have hx := ((unhide H1).below hb).box
    exact ⟨by rw [cell_of_row W _ 0 _ _ _ ha]; rfl, by rw [← d0]; exact hx.cd _ (by omega) (by omega), by rw [← d1]; exact hx.cd _ (by omega) (by omega), by rw [← d2]; exact hx.cd _ (by omega) (by omega), by rw [← d3]; exact hx.cd _ (by omega) (by omega), by rw [← d4]; exact hx.cd _ (by omega) (by omega)⟩)
  clear d0 d1 d2 d3 d4
  refine wp_region_held_drew (S := fun W => W.cell? ⟨w.heap.size, 0, none⟩ = some (.int .i64 3) ∧ W.cell? ⟨sb, 20, none⟩ = some (.func (.func 106) #[.pointer (some ⟨sb, 0, none⟩)] #[]) ∧ W.cell? ⟨sb, 21, none⟩ = some (.int .i64 0) ∧ W.cell? ⟨sb, 22, none⟩ = some (.int .i64 0) ∧ W.cell? ⟨sb, 23, none⟩ = some (.bool false) ∧ W.cell? ⟨sb, 24, none⟩ = some (.bool false)) (by kernel_rfl) (unhide HSS _ (Below.refl _ _).drew) (fun hHeld => ?_)
  refine takeAt 0 (some 18) (v := ?v0a) (by decide) rfl (by kernel_rfl) (by kernel_rfl) (by kernel_rfl) (fun _ _ _ h => h) (by rfl) ?hy0a hHeld ?r0a
  case hy0a => (intro wx hSw; obtain ⟨s0, s1, s2, s3, s4, s5⟩ := hSw; go_simp; with_reducible rfl)
  simp only [Act.put, List.setIfInBounds_toArray, List.set_cons_zero, List.set_cons_succ]
  refine takeAt 1 (some 19) (v := ?v1a) (by decide) rfl (by kernel_rfl) (by kernel_rfl) (by kernel_rfl) (fun _ _ _ h => h) (by rfl) ?hy1a hHeld ?r1a
  case hy1a => (intro wx hSw; obtain ⟨s0, s1, s2, s3, s4, s5⟩ := hSw; go_simp; with_reducible rfl)
  simp only [Act.put, List.setIfInBounds_toArray, List.set_cons_zero, List.set_cons_succ]
  refine takeAt 2 (some 20) (v := ?v2a) (by decide) rfl (by kernel_rfl) (by kernel_rfl) (by kernel_rfl) (fun _ _ _ h => h) (by rfl) ?hy2a hHeld ?r2a
  case hy2a => (intro wx hSw; obtain ⟨s0, s1, s2, s3, s4, s5⟩ := hSw; go_simp; with_reducible rfl)
  simp only [Act.put, List.setIfInBounds_toArray, List.set_cons_zero, List.set_cons_succ]
  refine takeAt 3 (some 21) (v := ?v3a) (by decide) rfl (by kernel_rfl) (by kernel_rfl) (by kernel_rfl) (fun _ _ _ h => h) (by rfl) ?hy3a hHeld ?r3a
  case hy3a => (intro wx hSw; obtain ⟨s0, s1, s2, s3, s4, s5⟩ := hSw; go_simp; with_reducible rfl)
  simp only [Act.put, List.setIfInBounds_toArray, List.set_cons_zero, List.set_cons_succ]
  refine takeAt 4 (some 22) (v := ?v4a) (by decide) rfl (by kernel_rfl) (by kernel_rfl) (by kernel_rfl) (fun _ _ _ h => h) (by rfl) ?hy4a hHeld ?r4a
  case hy4a => (intro wx hSw; obtain ⟨s0, s1, s2, s3, s4, s5⟩ := hSw; go_simp; with_reducible rfl)
  simp only [Act.put, List.setIfInBounds_toArray, List.set_cons_zero, List.set_cons_succ]
  refine takeAt 5 (some 23) (v := ?v5a) (by decide) rfl (by kernel_rfl) (by kernel_rfl) (by kernel_rfl) (fun _ _ _ h => h) (by rfl) ?hy5a hHeld ?r5a
  case hy5a => (intro wx hSw; obtain ⟨s0, s1, s2, s3, s4, s5⟩ := hSw; go_simp; with_reducible rfl)
  simp only [Act.put, List.setIfInBounds_toArray, List.set_cons_zero, List.set_cons_succ]
  refine takeAt 6 (some 24) (v := ?v6a) (by decide) rfl (by kernel_rfl) (by kernel_rfl) (by kernel_rfl) (fun _ _ _ h => h) (by rfl) ?hy6a hHeld ?r6a
  case hy6a => (intro wx hSw; obtain ⟨s0, s1, s2, s3, s4, s5⟩ := hSw; go_simp; with_reducible rfl)
  simp only [Act.put, List.setIfInBounds_toArray, List.set_cons_zero, List.set_cons_succ]
  refine wpAnyH_ready (rs := [7]) (by kernel_rfl) (by simp) ?_
  refine AllReadyH.cons rfl (fun KK hK => ?_) AllReadyH.nil
  go_simp
  have hba : Below w1.heap.size w1 (w1.alloc (.cells #[.nilFunc, .int .i64 0, .int .i64 0, .bool false, .bool false] 173)).drew := (below_new w1 _).drew
  refine hK.out _ _ (unhide HSS _ hba) (fun hHeld => ?_)
  clear hK KK hba
  try simp only [Act.put, List.setIfInBounds_toArray, List.getElem_toArray, List.getElem_cons_succ, List.getElem_cons_zero, List.set_cons_zero, List.set_cons_succ]
  refine wpAnyH_ready (rs := [8]) (by kernel_rfl) (by simp) ?_
  refine AllReadyH.cons rfl (fun KK hK => ?_) AllReadyH.nil
  go_simp
  have hb2 : Below w1.heap.size w1 (w1.alloc (.cells #[.func (.func 106) #[.pointer (some ⟨sb, 0, none⟩)] #[], .int .i64 0, .int .i64 0, .bool false, .bool false] 173)).drew := (below_new w1 _).drew
  have HX2 : Hid ((w1.alloc (.cells #[.func (.func 106) #[.pointer (some ⟨sb, 0, none⟩)] #[], .int .i64 0, .int .i64 0, .bool false, .bool false] 173)).drew.heap[w1.heap.size]? = some (.cells #[.func (.func 106) #[.pointer (some ⟨sb, 0, none⟩)] #[], .int .i64 0, .int .i64 0, .bool false, .bool false] 173 (0, 0))) := hide (heap_alloc_new w1 _)
  rw [sz1] at HX2
  refine hK.out _ _ (unhide HSS _ hb2) (fun hHeld => ?_)
  clear hK KK hHeld
  try simp only [Act.put, List.setIfInBounds_toArray, List.getElem_toArray, List.getElem_cons_succ, List.getElem_cons_zero, List.set_cons_zero, List.set_cons_succ]
  refine wpAnyH_done (by kernel_rfl) ?_ _
  generalize hW2 : (w1.alloc (.cells #[.func (.func 106) #[.pointer (some ⟨sb, 0, none⟩)] #[], .int .i64 0, .int .i64 0, .bool false, .bool false] 173)).drew = w2 at hb2 HX2 ⊢
  clear hW2
  have A2 := hide ((unhide A1).go hb2)
  have HL2 := hide ((unhide H1).below hb2)
  have HB2 := hide ((unhide HB1).trans (hb2.mono (unhide HB1).size))
  clear hb2 A1 H1 HSS
  have e0 : w2.cell? ⟨w.heap.size + 2, 0, none⟩ = some (.func (.func 106) #[.pointer (some ⟨sb, 0, none⟩)] #[]) := by rw [cell_of_row w2 _ 0 _ _ _ (unhide HX2)]; rfl
  have e1 : w2.cell? ⟨w.heap.size + 2, 1, none⟩ = some (.int .i64 0) := by rw [cell_of_row w2 _ 1 _ _ _ (unhide HX2)]; rfl
  have e2 : w2.cell? ⟨w.heap.size + 2, 2, none⟩ = some (.int .i64 0) := by rw [cell_of_row w2 _ 2 _ _ _ (unhide HX2)]; rfl
  have e3 : w2.cell? ⟨w.heap.size + 2, 3, none⟩ = some (.bool false) := by rw [cell_of_row w2 _ 3 _ _ _ (unhide HX2)]; rfl
  have e4 : w2.cell? ⟨w.heap.size + 2, 4, none⟩ = some (.bool false) := by rw [cell_of_row w2 _ 4 _ _ _ (unhide HX2)]; rfl
  have a0 : w2.cell? ⟨w.heap.size, 0, none⟩ = some (.int .i64 3) := by rw [cell_of_row w2 _ 0 _ _ _ (unhide A2).ak]; rfl
  have a1 : w2.cell? ⟨w.heap.size, 1, none⟩ = some (.int .i64 nn) := (unhide A2).a1
  have a2 : w2.cell? ⟨w.heap.size, 2, none⟩ = some (.string name) := (unhide A2).a2
  have a3 : w2.cell? ⟨w.heap.size, 3, none⟩ = some (.int .i64 kd) := (unhide A2).a3
  have a4 : w2.cell? ⟨w.heap.size, 4, none⟩ = some (.int .i64 fn) := (unhide A2).a4
  have a5 : w2.cell? ⟨w.heap.size, 5, none⟩ = some (.int .i64 line) := (unhide A2).a5
  have a6 : w2.cell? ⟨w.heap.size, 6, none⟩ = some (.string sn) := (unhide A2).a6
  go_wp2_with fail
  refine (takes_any _ _ _ 3 nn name kd fn line sn _ (unhide HZ) (unhide HZS)).mono ?_
  rintro e w3 ⟨⟨b, rfl, hbT⟩, hb3⟩
  clear e0 e1 e2 e3 e4 a0 a1 a2 a3 a4 a5 a6
  have A3 := hide ((unhide A2).go hb3)
  have HL3 := hide ((unhide HL2).below hb3)
  have HX3 := hide ((hb3.block _ (heap_ltx (unhide HX2))).trans (unhide HX2))
  have HB3 := hide ((unhide HB2).trans (hb3.mono (unhide HB2).size))
  clear hb3 A2 HL2 HX2
  cases b with
  | false =>
    have hN : ¬ OkAsk (⟨3, nn, name, ⟨kd, fn, line, sn⟩⟩ : Ak) := fun hO => by
      refine absurd (hbT.2 ?_) (by decide)
      have h := (okAsk3 (by omega)).1 hO; exact ⟨Int.le_of_eq h.1.symm, Int.le_of_eq h.1, (by rw [if_neg (by simp)]; exact h.2.2), (by rw [if_neg (by simp)]; exact h.2.1)⟩
    have HN := hide hN
    clear hN hbT
    obtain ⟨⟨r0, r1, r2, r3, r4, r5⟩, x0, x1, x2, x3, x4, x5⟩ := (unhide A3).rc
    go_wp2
    refine bodyPost_ret (v := .tuple #[.agg #[.int .i64 0, .int .i64 0, .int .i64 0, .string ⟨#[]⟩, .slice none 0 0, .slice none 0 0], .iface 180 (.agg #[.int .i64 1])]) (by simp [results, Tryz.results115, go_sem, r0, r1, r2, r3, r4, r5]) rfl ?_
    exact dsay_end (AskIs.notOk (unhide HN)) (.inr ⟨rfl, by show (1 : Int) ≠ 0; omega, rfl⟩) (unhide HL3) (unhide A3) (frs_nil _ _) (VsAt.nil _ _) ((unhide HB3).mono hB) (Same.of_below (unhide HB3)) hB
  | true =>
    have hT := hbT.1 rfl
    have HO : Hid (OkAsk (⟨3, nn, name, ⟨kd, fn, line, sn⟩⟩ : Ak)) := hide ((okAsk3 (by omega)).2 ⟨(Int.le_antisymm hT.2.1 hT.1), (by have q := hT.2.2.2; rwa [if_neg (by simp)] at q), (by have q := hT.2.2.1; rwa [if_neg (by simp)] at q)⟩)
    clear hbT hT
    have e0 : w3.cell? ⟨w.heap.size + 2, 0, none⟩ = some (.func (.func 106) #[.pointer (some ⟨sb, 0, none⟩)] #[]) := by rw [cell_of_row w3 _ 0 _ _ _ (unhide HX3)]; rfl
    have a0 : w3.cell? ⟨w.heap.size, 0, none⟩ = some (.int .i64 3) := by rw [cell_of_row w3 _ 0 _ _ _ (unhide A3).ak]; rfl
    have a1 : w3.cell? ⟨w.heap.size, 1, none⟩ = some (.int .i64 nn) := (unhide A3).a1
    have a2 : w3.cell? ⟨w.heap.size, 2, none⟩ = some (.string name) := (unhide A3).a2
    have a3 : w3.cell? ⟨w.heap.size, 3, none⟩ = some (.int .i64 kd) := (unhide A3).a3
    have a4 : w3.cell? ⟨w.heap.size, 4, none⟩ = some (.int .i64 fn) := (unhide A3).a4
    have a5 : w3.cell? ⟨w.heap.size, 5, none⟩ = some (.int .i64 line) := (unhide A3).a5
    have a6 : w3.cell? ⟨w.heap.size, 6, none⟩ = some (.string sn) := (unhide A3).a6
    go_wp2_with fail
    refine (goOn_any B sb lo lp mv pv tv uv D nf fns n f s nn name kd fn line sn w3 (unhide HL3) (fun W hb => unhide H2 W (((unhide HB3).mono hB).trans hb)) (fun W hb => unhide HP W (((unhide HB3).mono hB).trans hb)) (unhide HS) (unhide HOK) (unhide HPL) (Nat.le_trans hB (unhide HB3).size) (unhide HO)).mono ?_
    rintro e w4 ⟨s', d, m, t, v5, v6, er, rfl, hI, hd, ⟨tv', uv', hL4⟩, h5, h6, hb4, hk4⟩
    clear e0 a0 a1 a2 a3 a4 a5 a6
    obtain ⟨va, vc, rfl⟩ := owns_slice h5
    obtain ⟨ua, uc, rfl⟩ := owns_slice h6.row
    generalize hx : d.fr.length = ln5 at h5
    generalize hy : d.vs.length = ln6 at h6
    clear hx hy
    have A4 := hide ((unhide A3).same hk4)
    have H5 : Hid (FrsAt w.heap.size w4 (.slice va ln5 vc) d.fr) := hide (owns_low h5 (unhide HB3).size)
    have H6 : Hid (VsAt w.heap.size w4 (.slice ua ln6 uc) d.vs) := hide (h6.low (unhide HB3).size)
    have HB4 : Hid (Below B w w4) := hide (((unhide HB3).mono hB).trans hb4)
    have HK4 : Hid (Same KindS w w4) := hide ((Same.of_below (unhide HB3)).trans hk4)
    have HL4 := hide hL4
    have HI := hide hI
    have HD := hide hd
    clear hL4 h5 h6 hb4 hk4 hI hd
    obtain ⟨⟨r0, r1, r2, r3, r4, r5⟩, x0, x1, x2, x3, x4, x5⟩ := (unhide A4).rc
    go_wp2
    refine bodyPost_ret (v := .tuple #[.agg #[.int .i64 0, .int .i64 0, .int .i64 m, .string t, .slice va ln5 vc, .slice ua ln6 uc], er]) (by simp [results, Tryz.results115, go_sem, r0, r1, r2, r3, r4, r5]) rfl ?_
    exact dsay_end (unhide HI) (unhide HD) (unhide HL4) (unhide A4) (unhide H5) (unhide H6) (unhide HB4) (unhide HK4) hB

set_option maxRecDepth 100000 in
set_option maxHeartbeats 4000000 in
theorem try4_any (B sb lo lp : Nat) (mv pv tv uv : Value) (D : Nat → Value) (nf : Nat) (fns : Nat → ByteArray) (n : Nat) (f : Nat → M) (s : LS) (nn : Int) (name : ByteArray) (kd fn line : Int) (sn : ByteArray) (w : World) (h : SS B w sb mv pv n f s tv uv D) (h2 : ∀ W, Below B w W → MomsAt lo W mv n f) (hp : ∀ W, Below B w W → PlacesAt lp W pv n f) (hs : Sound nf fns n f) (hok : LsOk n s) (hpl : s.past.length ≤ 10000) (hB : B ≤ w.heap.size) (hz : name.size ≤ maxLen) (hzs : sn.size ≤ maxLen) (d0 : D 25 = .func (.func 107) #[.pointer (some ⟨sb, 0, none⟩)] #[]) (d1 : D 26 = .int .i64 0) (d2 : D 27 = .int .i64 0) (d3 : D 28 = .bool false) (d4 : D 29 = .bool false) :
    Calls Tryz.prog 115 #[.pointer (some ⟨sb, 0, none⟩), .agg #[.int .i64 4, .int .i64 nn, .string name, .int .i64 kd, .int .i64 fn, .int .i64 line, .string sn]] w fun e w' => DSay B sb mv pv n f D s (⟨4, nn, name, ⟨kd, fn, line, sn⟩⟩ : Ak) w e w' := by
  have H := hide h
  have H2 := hide h2
  have HP := hide hp
  have HS := hide hs
  have HOK := hide hok
  have HPL := hide hpl
  have HZ := hide hz
  have HZS := hide hzs
  have A1 := hide (DB.new w (⟨4, nn, name, ⟨kd, fn, line, sn⟩⟩ : Ak))
  have HB1 : Hid (Below w.heap.size w ((w.alloc (.cells #[.int .i64 4, .int .i64 nn, .string name, .int .i64 kd, .int .i64 fn, .int .i64 line, .string sn] 47)).alloc (.cells #[.int .i64 0, .int .i64 0, .int .i64 0, .string ⟨#[]⟩, .slice none 0 0, .slice none 0 0] 38))) := hide ((below_new w (.cells #[.int .i64 4, .int .i64 nn, .string name, .int .i64 kd, .int .i64 fn, .int .i64 line, .string sn] 47)).alloc (by simp) (.cells #[.int .i64 0, .int .i64 0, .int .i64 0, .string ⟨#[]⟩, .slice none 0 0, .slice none 0 0] 38))
  have H1 := hide ((unhide H).below (unhide HB1))
  have hlt := (unhide H).lt
  clear h h2 hp hs hok hpl hz hzs
  go_enter Tryz.func115, Tryz.ntmps115
  go_upto_region 3 with fail
  obtain ⟨w1, hw1⟩ : ∃ w1, w1 = ((w.alloc (.cells #[.int .i64 4, .int .i64 nn, .string name, .int .i64 kd, .int .i64 fn, .int .i64 line, .string sn] 47)).alloc (.cells #[.int .i64 0, .int .i64 0, .int .i64 0, .string ⟨#[]⟩, .slice none 0 0, .slice none 0 0] 38)) := ⟨_, rfl⟩
  have sz1 : w1.heap.size = w.heap.size + 2 := by rw [hw1]; simp
  rw [← hw1] at A1 HB1 H1 ⊢
  clear hw1
  have HSS : Hid (∀ W, Below w1.heap.size w1 W → W.cell? ⟨w.heap.size, 0, none⟩ = some (.int .i64 4) ∧ W.cell? ⟨sb, 25, none⟩ = some (.func (.func 107) #[.pointer (some ⟨sb, 0, none⟩)] #[]) ∧ W.cell? ⟨sb, 26, none⟩ = some (.int .i64 0) ∧ W.cell? ⟨sb, 27, none⟩ = some (.int .i64 0) ∧ W.cell? ⟨sb, 28, none⟩ = some (.bool false) ∧ W.cell? ⟨sb, 29, none⟩ = some (.bool false)) := hide (by
    intro W hb
    have ha := ((unhide A1).go hb).ak
    have hx := ((unhide H1).below hb).box
    exact ⟨by rw [cell_of_row W _ 0 _ _ _ ha]; rfl, by rw [← d0]; exact hx.cd _ (by omega) (by omega), by rw [← d1]; exact hx.cd _ (by omega) (by omega), by rw [← d2]; exact hx.cd _ (by omega) (by omega), by rw [← d3]; exact hx.cd _ (by omega) (by omega), by rw [← d4]; exact hx.cd _ (by omega) (by omega)⟩)
  clear d0 d1 d2 d3 d4
  refine wp_region_held_drew (S := fun W => W.cell? ⟨w.heap.size, 0, none⟩ = some (.int .i64 4) ∧ W.cell? ⟨sb, 25, none⟩ = some (.func (.func 107) #[.pointer (some ⟨sb, 0, none⟩)] #[]) ∧ W.cell? ⟨sb, 26, none⟩ = some (.int .i64 0) ∧ W.cell? ⟨sb, 27, none⟩ = some (.int .i64 0) ∧ W.cell? ⟨sb, 28, none⟩ = some (.bool false) ∧ W.cell? ⟨sb, 29, none⟩ = some (.bool false)) (by kernel_rfl) (unhide HSS _ (Below.refl _ _).drew) (fun hHeld => ?_)
  refine takeAt 0 (some 18) (v := ?v0a) (by decide) rfl (by kernel_rfl) (by kernel_rfl) (by kernel_rfl) (fun _ _ _ h => h) (by rfl) ?hy0a hHeld ?r0a
  case hy0a => (intro wx hSw; obtain ⟨s0, s1, s2, s3, s4, s5⟩ := hSw; go_simp; with_reducible rfl)
  simp only [Act.put, List.setIfInBounds_toArray, List.set_cons_zero, List.set_cons_succ]
  refine takeAt 1 (some 19) (v := ?v1a) (by decide) rfl (by kernel_rfl) (by kernel_rfl) (by kernel_rfl) (fun _ _ _ h => h) (by rfl) ?hy1a hHeld ?r1a
  case hy1a => (intro wx hSw; obtain ⟨s0, s1, s2, s3, s4, s5⟩ := hSw; go_simp; with_reducible rfl)
  simp only [Act.put, List.setIfInBounds_toArray, List.set_cons_zero, List.set_cons_succ]
  refine takeAt 2 (some 20) (v := ?v2a) (by decide) rfl (by kernel_rfl) (by kernel_rfl) (by kernel_rfl) (fun _ _ _ h => h) (by rfl) ?hy2a hHeld ?r2a
  case hy2a => (intro wx hSw; obtain ⟨s0, s1, s2, s3, s4, s5⟩ := hSw; go_simp; with_reducible rfl)
  simp only [Act.put, List.setIfInBounds_toArray, List.set_cons_zero, List.set_cons_succ]
  refine takeAt 3 (some 21) (v := ?v3a) (by decide) rfl (by kernel_rfl) (by kernel_rfl) (by kernel_rfl) (fun _ _ _ h => h) (by rfl) ?hy3a hHeld ?r3a
  case hy3a => (intro wx hSw; obtain ⟨s0, s1, s2, s3, s4, s5⟩ := hSw; go_simp; with_reducible rfl)
  simp only [Act.put, List.setIfInBounds_toArray, List.set_cons_zero, List.set_cons_succ]
  refine takeAt 4 (some 22) (v := ?v4a) (by decide) rfl (by kernel_rfl) (by kernel_rfl) (by kernel_rfl) (fun _ _ _ h => h) (by rfl) ?hy4a hHeld ?r4a
  case hy4a => (intro wx hSw; obtain ⟨s0, s1, s2, s3, s4, s5⟩ := hSw; go_simp; with_reducible rfl)
  simp only [Act.put, List.setIfInBounds_toArray, List.set_cons_zero, List.set_cons_succ]
  refine takeAt 5 (some 23) (v := ?v5a) (by decide) rfl (by kernel_rfl) (by kernel_rfl) (by kernel_rfl) (fun _ _ _ h => h) (by rfl) ?hy5a hHeld ?r5a
  case hy5a => (intro wx hSw; obtain ⟨s0, s1, s2, s3, s4, s5⟩ := hSw; go_simp; with_reducible rfl)
  simp only [Act.put, List.setIfInBounds_toArray, List.set_cons_zero, List.set_cons_succ]
  refine takeAt 6 (some 24) (v := ?v6a) (by decide) rfl (by kernel_rfl) (by kernel_rfl) (by kernel_rfl) (fun _ _ _ h => h) (by rfl) ?hy6a hHeld ?r6a
  case hy6a => (intro wx hSw; obtain ⟨s0, s1, s2, s3, s4, s5⟩ := hSw; go_simp; with_reducible rfl)
  simp only [Act.put, List.setIfInBounds_toArray, List.set_cons_zero, List.set_cons_succ]
  refine wpAnyH_ready (rs := [7]) (by kernel_rfl) (by simp) ?_
  refine AllReadyH.cons rfl (fun KK hK => ?_) AllReadyH.nil
  go_simp
  have hba : Below w1.heap.size w1 (w1.alloc (.cells #[.nilFunc, .int .i64 0, .int .i64 0, .bool false, .bool false] 173)).drew := (below_new w1 _).drew
  refine hK.out _ _ (unhide HSS _ hba) (fun hHeld => ?_)
  clear hK KK hba
  try simp only [Act.put, List.setIfInBounds_toArray, List.getElem_toArray, List.getElem_cons_succ, List.getElem_cons_zero, List.set_cons_zero, List.set_cons_succ]
  refine wpAnyH_ready (rs := [8]) (by kernel_rfl) (by simp) ?_
  refine AllReadyH.cons rfl (fun KK hK => ?_) AllReadyH.nil
  go_simp
  have hb2 : Below w1.heap.size w1 (w1.alloc (.cells #[.func (.func 107) #[.pointer (some ⟨sb, 0, none⟩)] #[], .int .i64 0, .int .i64 0, .bool false, .bool false] 173)).drew := (below_new w1 _).drew
  have HX2 : Hid ((w1.alloc (.cells #[.func (.func 107) #[.pointer (some ⟨sb, 0, none⟩)] #[], .int .i64 0, .int .i64 0, .bool false, .bool false] 173)).drew.heap[w1.heap.size]? = some (.cells #[.func (.func 107) #[.pointer (some ⟨sb, 0, none⟩)] #[], .int .i64 0, .int .i64 0, .bool false, .bool false] 173 (0, 0))) := hide (heap_alloc_new w1 _)
  rw [sz1] at HX2
  refine hK.out _ _ (unhide HSS _ hb2) (fun hHeld => ?_)
  clear hK KK hHeld
  try simp only [Act.put, List.setIfInBounds_toArray, List.getElem_toArray, List.getElem_cons_succ, List.getElem_cons_zero, List.set_cons_zero, List.set_cons_succ]
  refine wpAnyH_done (by kernel_rfl) ?_ _
  generalize hW2 : (w1.alloc (.cells #[.func (.func 107) #[.pointer (some ⟨sb, 0, none⟩)] #[], .int .i64 0, .int .i64 0, .bool false, .bool false] 173)).drew = w2 at hb2 HX2 ⊢
  clear hW2
  have A2 := hide ((unhide A1).go hb2)
  have HL2 := hide ((unhide H1).below hb2)
  have HB2 := hide ((unhide HB1).trans (hb2.mono (unhide HB1).size))
  clear hb2 A1 H1 HSS
  have e0 : w2.cell? ⟨w.heap.size + 2, 0, none⟩ = some (.func (.func 107) #[.pointer (some ⟨sb, 0, none⟩)] #[]) := by rw [cell_of_row w2 _ 0 _ _ _ (unhide HX2)]; rfl
  have e1 : w2.cell? ⟨w.heap.size + 2, 1, none⟩ = some (.int .i64 0) := by rw [cell_of_row w2 _ 1 _ _ _ (unhide HX2)]; rfl
  have e2 : w2.cell? ⟨w.heap.size + 2, 2, none⟩ = some (.int .i64 0) := by rw [cell_of_row w2 _ 2 _ _ _ (unhide HX2)]; rfl
  have e3 : w2.cell? ⟨w.heap.size + 2, 3, none⟩ = some (.bool false) := by rw [cell_of_row w2 _ 3 _ _ _ (unhide HX2)]; rfl
  have e4 : w2.cell? ⟨w.heap.size + 2, 4, none⟩ = some (.bool false) := by rw [cell_of_row w2 _ 4 _ _ _ (unhide HX2)]; rfl
  have a0 : w2.cell? ⟨w.heap.size, 0, none⟩ = some (.int .i64 4) := by rw [cell_of_row w2 _ 0 _ _ _ (unhide A2).ak]; rfl
  have a1 : w2.cell? ⟨w.heap.size, 1, none⟩ = some (.int .i64 nn) := (unhide A2).a1
  have a2 : w2.cell? ⟨w.heap.size, 2, none⟩ = some (.string name) := (unhide A2).a2
  have a3 : w2.cell? ⟨w.heap.size, 3, none⟩ = some (.int .i64 kd) := (unhide A2).a3
  have a4 : w2.cell? ⟨w.heap.size, 4, none⟩ = some (.int .i64 fn) := (unhide A2).a4
  have a5 : w2.cell? ⟨w.heap.size, 5, none⟩ = some (.int .i64 line) := (unhide A2).a5
  have a6 : w2.cell? ⟨w.heap.size, 6, none⟩ = some (.string sn) := (unhide A2).a6
  go_wp2_with fail
  refine (takes_any _ _ _ 4 nn name kd fn line sn _ (unhide HZ) (unhide HZS)).mono ?_
  rintro e w3 ⟨⟨b, rfl, hbT⟩, hb3⟩
  clear e0 e1 e2 e3 e4 a0 a1 a2 a3 a4 a5 a6
  have A3 := hide ((unhide A2).go hb3)
  have HL3 := hide ((unhide HL2).below hb3)
  have HX3 := hide ((hb3.block _ (heap_ltx (unhide HX2))).trans (unhide HX2))
  have HB3 := hide ((unhide HB2).trans (hb3.mono (unhide HB2).size))
  clear hb3 A2 HL2 HX2
  cases b with
  | false =>
    have hN : ¬ OkAsk (⟨4, nn, name, ⟨kd, fn, line, sn⟩⟩ : Ak) := fun hO => by
      refine absurd (hbT.2 ?_) (by decide)
      have h := (okAsk3 (by omega)).1 hO; exact ⟨Int.le_of_eq h.1.symm, Int.le_of_eq h.1, (by rw [if_neg (by simp)]; exact h.2.2), (by rw [if_neg (by simp)]; exact h.2.1)⟩
    have HN := hide hN
    clear hN hbT
    obtain ⟨⟨r0, r1, r2, r3, r4, r5⟩, x0, x1, x2, x3, x4, x5⟩ := (unhide A3).rc
    go_wp2
    refine bodyPost_ret (v := .tuple #[.agg #[.int .i64 0, .int .i64 0, .int .i64 0, .string ⟨#[]⟩, .slice none 0 0, .slice none 0 0], .iface 180 (.agg #[.int .i64 1])]) (by simp [results, Tryz.results115, go_sem, r0, r1, r2, r3, r4, r5]) rfl ?_
    exact dsay_end (AskIs.notOk (unhide HN)) (.inr ⟨rfl, by show (1 : Int) ≠ 0; omega, rfl⟩) (unhide HL3) (unhide A3) (frs_nil _ _) (VsAt.nil _ _) ((unhide HB3).mono hB) (Same.of_below (unhide HB3)) hB
  | true =>
    have hT := hbT.1 rfl
    have HO : Hid (OkAsk (⟨4, nn, name, ⟨kd, fn, line, sn⟩⟩ : Ak)) := hide ((okAsk3 (by omega)).2 ⟨(Int.le_antisymm hT.2.1 hT.1), (by have q := hT.2.2.2; rwa [if_neg (by simp)] at q), (by have q := hT.2.2.1; rwa [if_neg (by simp)] at q)⟩)
    clear hbT hT
    have e0 : w3.cell? ⟨w.heap.size + 2, 0, none⟩ = some (.func (.func 107) #[.pointer (some ⟨sb, 0, none⟩)] #[]) := by rw [cell_of_row w3 _ 0 _ _ _ (unhide HX3)]; rfl
    have a0 : w3.cell? ⟨w.heap.size, 0, none⟩ = some (.int .i64 4) := by rw [cell_of_row w3 _ 0 _ _ _ (unhide A3).ak]; rfl
    have a1 : w3.cell? ⟨w.heap.size, 1, none⟩ = some (.int .i64 nn) := (unhide A3).a1
    have a2 : w3.cell? ⟨w.heap.size, 2, none⟩ = some (.string name) := (unhide A3).a2
    have a3 : w3.cell? ⟨w.heap.size, 3, none⟩ = some (.int .i64 kd) := (unhide A3).a3
    have a4 : w3.cell? ⟨w.heap.size, 4, none⟩ = some (.int .i64 fn) := (unhide A3).a4
    have a5 : w3.cell? ⟨w.heap.size, 5, none⟩ = some (.int .i64 line) := (unhide A3).a5
    have a6 : w3.cell? ⟨w.heap.size, 6, none⟩ = some (.string sn) := (unhide A3).a6
    go_wp2_with fail
    refine (goBack_any B sb lo lp mv pv tv uv D nf fns n f s nn name kd fn line sn w3 (unhide HL3) (fun W hb => unhide H2 W (((unhide HB3).mono hB).trans hb)) (fun W hb => unhide HP W (((unhide HB3).mono hB).trans hb)) (unhide HS) (unhide HOK) (unhide HPL) (Nat.le_trans hB (unhide HB3).size) (unhide HO)).mono ?_
    rintro e w4 ⟨s', d, m, t, v5, v6, er, rfl, hI, hd, ⟨tv', uv', hL4⟩, h5, h6, hb4, hk4⟩
    clear e0 a0 a1 a2 a3 a4 a5 a6
    obtain ⟨va, vc, rfl⟩ := owns_slice h5
    obtain ⟨ua, uc, rfl⟩ := owns_slice h6.row
    generalize hx : d.fr.length = ln5 at h5
    generalize hy : d.vs.length = ln6 at h6
    clear hx hy
    have A4 := hide ((unhide A3).same hk4)
    have H5 : Hid (FrsAt w.heap.size w4 (.slice va ln5 vc) d.fr) := hide (owns_low h5 (unhide HB3).size)
    have H6 : Hid (VsAt w.heap.size w4 (.slice ua ln6 uc) d.vs) := hide (h6.low (unhide HB3).size)
    have HB4 : Hid (Below B w w4) := hide (((unhide HB3).mono hB).trans hb4)
    have HK4 : Hid (Same KindS w w4) := hide ((Same.of_below (unhide HB3)).trans hk4)
    have HL4 := hide hL4
    have HI := hide hI
    have HD := hide hd
    clear hL4 h5 h6 hb4 hk4 hI hd
    obtain ⟨⟨r0, r1, r2, r3, r4, r5⟩, x0, x1, x2, x3, x4, x5⟩ := (unhide A4).rc
    go_wp2
    refine bodyPost_ret (v := .tuple #[.agg #[.int .i64 0, .int .i64 0, .int .i64 m, .string t, .slice va ln5 vc, .slice ua ln6 uc], er]) (by simp [results, Tryz.results115, go_sem, r0, r1, r2, r3, r4, r5]) rfl ?_
    exact dsay_end (unhide HI) (unhide HD) (unhide HL4) (unhide A4) (unhide H5) (unhide H6) (unhide HB4) (unhide HK4) hB

set_option maxRecDepth 100000 in
set_option maxHeartbeats 4000000 in
theorem try5_any (B sb lo lp : Nat) (mv pv tv uv : Value) (D : Nat → Value) (nf : Nat) (fns : Nat → ByteArray) (n : Nat) (f : Nat → M) (s : LS) (nn : Int) (name : ByteArray) (kd fn line : Int) (sn : ByteArray) (w : World) (h : SS B w sb mv pv n f s tv uv D) (h2 : ∀ W, Below B w W → MomsAt lo W mv n f) (hp : ∀ W, Below B w W → PlacesAt lp W pv n f) (hs : Sound nf fns n f) (hok : LsOk n s) (hpl : s.past.length ≤ 10000) (hB : B ≤ w.heap.size) (hz : name.size ≤ maxLen) (hzs : sn.size ≤ maxLen) (b1 b2 : Nat) (g1 : w.heap[b1]? = some (.cells #[.pointer (some ⟨sb, 0, none⟩)] 87 (0, 0))) (g2 : w.heap[b2]? = some (.cells #[.int .i64 0] 3 (0, 0))) (d0 : D 30 = .func (.func 152) #[] #[.pointer (some ⟨b1, 0, none⟩), .pointer (some ⟨b2, 0, none⟩)]) (d1 : D 31 = .int .i64 0) (d2 : D 32 = .int .i64 0) (d3 : D 33 = .bool false) (d4 : D 34 = .bool false) :
    Calls Tryz.prog 115 #[.pointer (some ⟨sb, 0, none⟩), .agg #[.int .i64 5, .int .i64 nn, .string name, .int .i64 kd, .int .i64 fn, .int .i64 line, .string sn]] w fun e w' => DSay B sb mv pv n f D s (⟨5, nn, name, ⟨kd, fn, line, sn⟩⟩ : Ak) w e w' := by
  have H := hide h
  have H2 := hide h2
  have HP := hide hp
  have HS := hide hs
  have HOK := hide hok
  have HPL := hide hpl
  have HZ := hide hz
  have HZS := hide hzs
  have A1 := hide (DB.new w (⟨5, nn, name, ⟨kd, fn, line, sn⟩⟩ : Ak))
  have HB1 : Hid (Below w.heap.size w ((w.alloc (.cells #[.int .i64 5, .int .i64 nn, .string name, .int .i64 kd, .int .i64 fn, .int .i64 line, .string sn] 47)).alloc (.cells #[.int .i64 0, .int .i64 0, .int .i64 0, .string ⟨#[]⟩, .slice none 0 0, .slice none 0 0] 38))) := hide ((below_new w (.cells #[.int .i64 5, .int .i64 nn, .string name, .int .i64 kd, .int .i64 fn, .int .i64 line, .string sn] 47)).alloc (by simp) (.cells #[.int .i64 0, .int .i64 0, .int .i64 0, .string ⟨#[]⟩, .slice none 0 0, .slice none 0 0] 38))
  have H1 := hide ((unhide H).below (unhide HB1))
  have hlt := (unhide H).lt
  clear h h2 hp hs hok hpl hz hzs
  go_enter Tryz.func115, Tryz.ntmps115
  go_upto_region 3 with fail
  obtain ⟨w1, hw1⟩ : ∃ w1, w1 = ((w.alloc (.cells #[.int .i64 5, .int .i64 nn, .string name, .int .i64 kd, .int .i64 fn, .int .i64 line, .string sn] 47)).alloc (.cells #[.int .i64 0, .int .i64 0, .int .i64 0, .string ⟨#[]⟩, .slice none 0 0, .slice none 0 0] 38)) := ⟨_, rfl⟩
  have sz1 : w1.heap.size = w.heap.size + 2 := by rw [hw1]; simp
  rw [← hw1] at A1 HB1 H1 ⊢
  clear hw1
  have HSS : Hid (∀ W, Below w1.heap.size w1 W → W.cell? ⟨w.heap.size, 0, none⟩ = some (.int .i64 5) ∧ W.cell? ⟨sb, 30, none⟩ = some (.func (.func 152) #[] #[.pointer (some ⟨b1, 0, none⟩), .pointer (some ⟨b2, 0, none⟩)]) ∧ W.cell? ⟨sb, 31, none⟩ = some (.int .i64 0) ∧ W.cell? ⟨sb, 32, none⟩ = some (.int .i64 0) ∧ W.cell? ⟨sb, 33, none⟩ = some (.bool false) ∧ W.cell? ⟨sb, 34, none⟩ = some (.bool false)) := hide (by
    intro W hb
    have ha := ((unhide A1).go hb).ak
    have hx := ((unhide H1).below hb).box
    exact ⟨by rw [cell_of_row W _ 0 _ _ _ ha]; rfl, by rw [← d0]; exact hx.cd _ (by omega) (by omega), by rw [← d1]; exact hx.cd _ (by omega) (by omega), by rw [← d2]; exact hx.cd _ (by omega) (by omega), by rw [← d3]; exact hx.cd _ (by omega) (by omega), by rw [← d4]; exact hx.cd _ (by omega) (by omega)⟩)
  clear d0 d1 d2 d3 d4
  refine wp_region_held_drew (S := fun W => W.cell? ⟨w.heap.size, 0, none⟩ = some (.int .i64 5) ∧ W.cell? ⟨sb, 30, none⟩ = some (.func (.func 152) #[] #[.pointer (some ⟨b1, 0, none⟩), .pointer (some ⟨b2, 0, none⟩)]) ∧ W.cell? ⟨sb, 31, none⟩ = some (.int .i64 0) ∧ W.cell? ⟨sb, 32, none⟩ = some (.int .i64 0) ∧ W.cell? ⟨sb, 33, none⟩ = some (.bool false) ∧ W.cell? ⟨sb, 34, none⟩ = some (.bool false)) (by kernel_rfl) (unhide HSS _ (Below.refl _ _).drew) (fun hHeld => ?_)
  refine takeAt 0 (some 18) (v := ?v0a) (by decide) rfl (by kernel_rfl) (by kernel_rfl) (by kernel_rfl) (fun _ _ _ h => h) (by rfl) ?hy0a hHeld ?r0a
  case hy0a => (intro wx hSw; obtain ⟨s0, s1, s2, s3, s4, s5⟩ := hSw; go_simp; with_reducible rfl)
  simp only [Act.put, List.setIfInBounds_toArray, List.set_cons_zero, List.set_cons_succ]
  refine takeAt 1 (some 19) (v := ?v1a) (by decide) rfl (by kernel_rfl) (by kernel_rfl) (by kernel_rfl) (fun _ _ _ h => h) (by rfl) ?hy1a hHeld ?r1a
  case hy1a => (intro wx hSw; obtain ⟨s0, s1, s2, s3, s4, s5⟩ := hSw; go_simp; with_reducible rfl)
  simp only [Act.put, List.setIfInBounds_toArray, List.set_cons_zero, List.set_cons_succ]
  refine takeAt 2 (some 20) (v := ?v2a) (by decide) rfl (by kernel_rfl) (by kernel_rfl) (by kernel_rfl) (fun _ _ _ h => h) (by rfl) ?hy2a hHeld ?r2a
  case hy2a => (intro wx hSw; obtain ⟨s0, s1, s2, s3, s4, s5⟩ := hSw; go_simp; with_reducible rfl)
  simp only [Act.put, List.setIfInBounds_toArray, List.set_cons_zero, List.set_cons_succ]
  refine takeAt 3 (some 21) (v := ?v3a) (by decide) rfl (by kernel_rfl) (by kernel_rfl) (by kernel_rfl) (fun _ _ _ h => h) (by rfl) ?hy3a hHeld ?r3a
  case hy3a => (intro wx hSw; obtain ⟨s0, s1, s2, s3, s4, s5⟩ := hSw; go_simp; with_reducible rfl)
  simp only [Act.put, List.setIfInBounds_toArray, List.set_cons_zero, List.set_cons_succ]
  refine takeAt 4 (some 22) (v := ?v4a) (by decide) rfl (by kernel_rfl) (by kernel_rfl) (by kernel_rfl) (fun _ _ _ h => h) (by rfl) ?hy4a hHeld ?r4a
  case hy4a => (intro wx hSw; obtain ⟨s0, s1, s2, s3, s4, s5⟩ := hSw; go_simp; with_reducible rfl)
  simp only [Act.put, List.setIfInBounds_toArray, List.set_cons_zero, List.set_cons_succ]
  refine takeAt 5 (some 23) (v := ?v5a) (by decide) rfl (by kernel_rfl) (by kernel_rfl) (by kernel_rfl) (fun _ _ _ h => h) (by rfl) ?hy5a hHeld ?r5a
  case hy5a => (intro wx hSw; obtain ⟨s0, s1, s2, s3, s4, s5⟩ := hSw; go_simp; with_reducible rfl)
  simp only [Act.put, List.setIfInBounds_toArray, List.set_cons_zero, List.set_cons_succ]
  refine takeAt 6 (some 24) (v := ?v6a) (by decide) rfl (by kernel_rfl) (by kernel_rfl) (by kernel_rfl) (fun _ _ _ h => h) (by rfl) ?hy6a hHeld ?r6a
  case hy6a => (intro wx hSw; obtain ⟨s0, s1, s2, s3, s4, s5⟩ := hSw; go_simp; with_reducible rfl)
  simp only [Act.put, List.setIfInBounds_toArray, List.set_cons_zero, List.set_cons_succ]
  refine wpAnyH_ready (rs := [7]) (by kernel_rfl) (by simp) ?_
  refine AllReadyH.cons rfl (fun KK hK => ?_) AllReadyH.nil
  go_simp
  have hba : Below w1.heap.size w1 (w1.alloc (.cells #[.nilFunc, .int .i64 0, .int .i64 0, .bool false, .bool false] 173)).drew := (below_new w1 _).drew
  refine hK.out _ _ (unhide HSS _ hba) (fun hHeld => ?_)
  clear hK KK hba
  try simp only [Act.put, List.setIfInBounds_toArray, List.getElem_toArray, List.getElem_cons_succ, List.getElem_cons_zero, List.set_cons_zero, List.set_cons_succ]
  refine wpAnyH_ready (rs := [8]) (by kernel_rfl) (by simp) ?_
  refine AllReadyH.cons rfl (fun KK hK => ?_) AllReadyH.nil
  go_simp
  have hb2 : Below w1.heap.size w1 (w1.alloc (.cells #[.func (.func 152) #[] #[.pointer (some ⟨b1, 0, none⟩), .pointer (some ⟨b2, 0, none⟩)], .int .i64 0, .int .i64 0, .bool false, .bool false] 173)).drew := (below_new w1 _).drew
  have HX2 : Hid ((w1.alloc (.cells #[.func (.func 152) #[] #[.pointer (some ⟨b1, 0, none⟩), .pointer (some ⟨b2, 0, none⟩)], .int .i64 0, .int .i64 0, .bool false, .bool false] 173)).drew.heap[w1.heap.size]? = some (.cells #[.func (.func 152) #[] #[.pointer (some ⟨b1, 0, none⟩), .pointer (some ⟨b2, 0, none⟩)], .int .i64 0, .int .i64 0, .bool false, .bool false] 173 (0, 0))) := hide (heap_alloc_new w1 _)
  rw [sz1] at HX2
  refine hK.out _ _ (unhide HSS _ hb2) (fun hHeld => ?_)
  clear hK KK hHeld
  try simp only [Act.put, List.setIfInBounds_toArray, List.getElem_toArray, List.getElem_cons_succ, List.getElem_cons_zero, List.set_cons_zero, List.set_cons_succ]
  refine wpAnyH_done (by kernel_rfl) ?_ _
  generalize hW2 : (w1.alloc (.cells #[.func (.func 152) #[] #[.pointer (some ⟨b1, 0, none⟩), .pointer (some ⟨b2, 0, none⟩)], .int .i64 0, .int .i64 0, .bool false, .bool false] 173)).drew = w2 at hb2 HX2 ⊢
  clear hW2
  have A2 := hide ((unhide A1).go hb2)
  have HL2 := hide ((unhide H1).below hb2)
  have HB2 := hide ((unhide HB1).trans (hb2.mono (unhide HB1).size))
  clear hb2 A1 H1 HSS
  have e0 : w2.cell? ⟨w.heap.size + 2, 0, none⟩ = some (.func (.func 152) #[] #[.pointer (some ⟨b1, 0, none⟩), .pointer (some ⟨b2, 0, none⟩)]) := by rw [cell_of_row w2 _ 0 _ _ _ (unhide HX2)]; rfl
  have e1 : w2.cell? ⟨w.heap.size + 2, 1, none⟩ = some (.int .i64 0) := by rw [cell_of_row w2 _ 1 _ _ _ (unhide HX2)]; rfl
  have e2 : w2.cell? ⟨w.heap.size + 2, 2, none⟩ = some (.int .i64 0) := by rw [cell_of_row w2 _ 2 _ _ _ (unhide HX2)]; rfl
  have e3 : w2.cell? ⟨w.heap.size + 2, 3, none⟩ = some (.bool false) := by rw [cell_of_row w2 _ 3 _ _ _ (unhide HX2)]; rfl
  have e4 : w2.cell? ⟨w.heap.size + 2, 4, none⟩ = some (.bool false) := by rw [cell_of_row w2 _ 4 _ _ _ (unhide HX2)]; rfl
  have a0 : w2.cell? ⟨w.heap.size, 0, none⟩ = some (.int .i64 5) := by rw [cell_of_row w2 _ 0 _ _ _ (unhide A2).ak]; rfl
  have a1 : w2.cell? ⟨w.heap.size, 1, none⟩ = some (.int .i64 nn) := (unhide A2).a1
  have a2 : w2.cell? ⟨w.heap.size, 2, none⟩ = some (.string name) := (unhide A2).a2
  have a3 : w2.cell? ⟨w.heap.size, 3, none⟩ = some (.int .i64 kd) := (unhide A2).a3
  have a4 : w2.cell? ⟨w.heap.size, 4, none⟩ = some (.int .i64 fn) := (unhide A2).a4
  have a5 : w2.cell? ⟨w.heap.size, 5, none⟩ = some (.int .i64 line) := (unhide A2).a5
  have a6 : w2.cell? ⟨w.heap.size, 6, none⟩ = some (.string sn) := (unhide A2).a6
  go_wp2_with fail
  refine (takes_any _ _ _ 5 nn name kd fn line sn _ (unhide HZ) (unhide HZS)).mono ?_
  rintro e w3 ⟨⟨b, rfl, hbT⟩, hb3⟩
  clear e0 e1 e2 e3 e4 a0 a1 a2 a3 a4 a5 a6
  have A3 := hide ((unhide A2).go hb3)
  have HL3 := hide ((unhide HL2).below hb3)
  have HX3 := hide ((hb3.block _ (heap_ltx (unhide HX2))).trans (unhide HX2))
  have HB3 := hide ((unhide HB2).trans (hb3.mono (unhide HB2).size))
  clear hb3 A2 HL2 HX2
  cases b with
  | false =>
    have hN : ¬ OkAsk (⟨5, nn, name, ⟨kd, fn, line, sn⟩⟩ : Ak) := fun hO => by
      refine absurd (hbT.2 ?_) (by decide)
      have h := (okAsk3 (by omega)).1 hO; exact ⟨Int.le_of_eq h.1.symm, Int.le_of_eq h.1, (by rw [if_neg (by simp)]; exact h.2.2), (by rw [if_neg (by simp)]; exact h.2.1)⟩
    have HN := hide hN
    clear hN hbT
    obtain ⟨⟨r0, r1, r2, r3, r4, r5⟩, x0, x1, x2, x3, x4, x5⟩ := (unhide A3).rc
    go_wp2
    refine bodyPost_ret (v := .tuple #[.agg #[.int .i64 0, .int .i64 0, .int .i64 0, .string ⟨#[]⟩, .slice none 0 0, .slice none 0 0], .iface 180 (.agg #[.int .i64 1])]) (by simp [results, Tryz.results115, go_sem, r0, r1, r2, r3, r4, r5]) rfl ?_
    exact dsay_end (AskIs.notOk (unhide HN)) (.inr ⟨rfl, by show (1 : Int) ≠ 0; omega, rfl⟩) (unhide HL3) (unhide A3) (frs_nil _ _) (VsAt.nil _ _) ((unhide HB3).mono hB) (Same.of_below (unhide HB3)) hB
  | true =>
    have hT := hbT.1 rfl
    have HO : Hid (OkAsk (⟨5, nn, name, ⟨kd, fn, line, sn⟩⟩ : Ak)) := hide ((okAsk3 (by omega)).2 ⟨(Int.le_antisymm hT.2.1 hT.1), (by have q := hT.2.2.2; rwa [if_neg (by simp)] at q), (by have q := hT.2.2.1; rwa [if_neg (by simp)] at q)⟩)
    clear hbT hT
    have e0 : w3.cell? ⟨w.heap.size + 2, 0, none⟩ = some (.func (.func 152) #[] #[.pointer (some ⟨b1, 0, none⟩), .pointer (some ⟨b2, 0, none⟩)]) := by rw [cell_of_row w3 _ 0 _ _ _ (unhide HX3)]; rfl
    have a0 : w3.cell? ⟨w.heap.size, 0, none⟩ = some (.int .i64 5) := by rw [cell_of_row w3 _ 0 _ _ _ (unhide A3).ak]; rfl
    have a1 : w3.cell? ⟨w.heap.size, 1, none⟩ = some (.int .i64 nn) := (unhide A3).a1
    have a2 : w3.cell? ⟨w.heap.size, 2, none⟩ = some (.string name) := (unhide A3).a2
    have a3 : w3.cell? ⟨w.heap.size, 3, none⟩ = some (.int .i64 kd) := (unhide A3).a3
    have a4 : w3.cell? ⟨w.heap.size, 4, none⟩ = some (.int .i64 fn) := (unhide A3).a4
    have a5 : w3.cell? ⟨w.heap.size, 5, none⟩ = some (.int .i64 line) := (unhide A3).a5
    have a6 : w3.cell? ⟨w.heap.size, 6, none⟩ = some (.string sn) := (unhide A3).a6
    go_wp2_with fail
    refine (stepInto_any B sb lo lp mv pv tv uv D nf fns n f s nn name kd fn line sn w3 (unhide HL3) (fun W hb => unhide H2 W (((unhide HB3).mono hB).trans hb)) (fun W hb => unhide HP W (((unhide HB3).mono hB).trans hb)) (unhide HS) (unhide HOK) (unhide HPL) (Nat.le_trans hB (unhide HB3).size) (unhide HO) b1 b2 ((Same.of_below (P := fun _ => True) (unhide HB3)) _ _ _ _ g1 trivial) ((Same.of_below (P := fun _ => True) (unhide HB3)) _ _ _ _ g2 trivial)).mono ?_
    rintro e w4 ⟨s', d, m, t, v5, v6, er, rfl, hI, hd, ⟨tv', uv', hL4⟩, h5, h6, hb4, hk4⟩
    clear e0 a0 a1 a2 a3 a4 a5 a6
    obtain ⟨va, vc, rfl⟩ := owns_slice h5
    obtain ⟨ua, uc, rfl⟩ := owns_slice h6.row
    generalize hx : d.fr.length = ln5 at h5
    generalize hy : d.vs.length = ln6 at h6
    clear hx hy
    have A4 := hide ((unhide A3).same hk4)
    have H5 : Hid (FrsAt w.heap.size w4 (.slice va ln5 vc) d.fr) := hide (owns_low h5 (unhide HB3).size)
    have H6 : Hid (VsAt w.heap.size w4 (.slice ua ln6 uc) d.vs) := hide (h6.low (unhide HB3).size)
    have HB4 : Hid (Below B w w4) := hide (((unhide HB3).mono hB).trans hb4)
    have HK4 : Hid (Same KindS w w4) := hide ((Same.of_below (unhide HB3)).trans hk4)
    have HL4 := hide hL4
    have HI := hide hI
    have HD := hide hd
    clear hL4 h5 h6 hb4 hk4 hI hd
    obtain ⟨⟨r0, r1, r2, r3, r4, r5⟩, x0, x1, x2, x3, x4, x5⟩ := (unhide A4).rc
    go_wp2
    refine bodyPost_ret (v := .tuple #[.agg #[.int .i64 0, .int .i64 0, .int .i64 m, .string t, .slice va ln5 vc, .slice ua ln6 uc], er]) (by simp [results, Tryz.results115, go_sem, r0, r1, r2, r3, r4, r5]) rfl ?_
    exact dsay_end (unhide HI) (unhide HD) (unhide HL4) (unhide A4) (unhide H5) (unhide H6) (unhide HB4) (unhide HK4) hB
end Go.Proofs.YtmnmeaeicjhkhaaGreatDoor

/-
  The program's try, op by op.
-/
namespace Go.Proofs.YtmnmeaeicjhkhaaGreatDoor
open Go.RowKit Go.Shelf

attribute [local go_sem] Oper.semAt_some

set_option maxRecDepth 100000 in
set_option maxHeartbeats 4000000 in
theorem try6_any (B sb lo lp : Nat) (mv pv tv uv : Value) (D : Nat → Value) (nf : Nat) (fns : Nat → ByteArray) (n : Nat) (f : Nat → M) (s : LS) (nn : Int) (name : ByteArray) (kd fn line : Int) (sn : ByteArray) (w : World) (h : SS B w sb mv pv n f s tv uv D) (h2 : ∀ W, Below B w W → MomsAt lo W mv n f) (hp : ∀ W, Below B w W → PlacesAt lp W pv n f) (hs : Sound nf fns n f) (hok : LsOk n s) (hpl : s.past.length ≤ 10000) (hB : B ≤ w.heap.size) (hz : name.size ≤ maxLen) (hzs : sn.size ≤ maxLen) (b1 b2 : Nat) (g1 : w.heap[b1]? = some (.cells #[.pointer (some ⟨sb, 0, none⟩)] 87 (0, 0))) (g2 : w.heap[b2]? = some (.cells #[.int .i64 1] 3 (0, 0))) (d0 : D 35 = .func (.func 152) #[] #[.pointer (some ⟨b1, 0, none⟩), .pointer (some ⟨b2, 0, none⟩)]) (d1 : D 36 = .int .i64 0) (d2 : D 37 = .int .i64 0) (d3 : D 38 = .bool false) (d4 : D 39 = .bool false) :
    Calls Tryz.prog 115 #[.pointer (some ⟨sb, 0, none⟩), .agg #[.int .i64 6, .int .i64 nn, .string name, .int .i64 kd, .int .i64 fn, .int .i64 line, .string sn]] w fun e w' => DSay B sb mv pv n f D s (⟨6, nn, name, ⟨kd, fn, line, sn⟩⟩ : Ak) w e w' := by
  have H := hide h
  have H2 := hide h2
  have HP := hide hp
  have HS := hide hs
  have HOK := hide hok
  have HPL := hide hpl
  have HZ := hide hz
  have HZS := hide hzs
  have A1 := hide (DB.new w (⟨6, nn, name, ⟨kd, fn, line, sn⟩⟩ : Ak))
  have HB1 : Hid (Below w.heap.size w ((w.alloc (.cells #[.int .i64 6, .int .i64 nn, .string name, .int .i64 kd, .int .i64 fn, .int .i64 line, .string sn] 47)).alloc (.cells #[.int .i64 0, .int .i64 0, .int .i64 0, .string ⟨#[]⟩, .slice none 0 0, .slice none 0 0] 38))) := hide ((below_new w (.cells #[.int .i64 6, .int .i64 nn, .string name, .int .i64 kd, .int .i64 fn, .int .i64 line, .string sn] 47)).alloc (by simp) (.cells #[.int .i64 0, .int .i64 0, .int .i64 0, .string ⟨#[]⟩, .slice none 0 0, .slice none 0 0] 38))
  have H1 := hide ((unhide H).below (unhide HB1))
  have hlt := (unhide H).lt
  clear h h2 hp hs hok hpl hz hzs
  go_enter Tryz.func115, Tryz.ntmps115
  go_upto_region 3 with fail
  obtain ⟨w1, hw1⟩ : ∃ w1, w1 = ((w.alloc (.cells #[.int .i64 6, .int .i64 nn, .string name, .int .i64 kd, .int .i64 fn, .int .i64 line, .string sn] 47)).alloc (.cells #[.int .i64 0, .int .i64 0, .int .i64 0, .string ⟨#[]⟩, .slice none 0 0, .slice none 0 0] 38)) := ⟨_, rfl⟩
  have sz1 : w1.heap.size = w.heap.size + 2 := by rw [hw1]; simp
  rw [← hw1] at A1 HB1 H1 ⊢
  clear hw1
  have HSS : Hid (∀ W, Below w1.heap.size w1 W → W.cell? ⟨w.heap.size, 0, none⟩ = some (.int .i64 6) ∧ W.cell? ⟨sb, 35, none⟩ = some (.func (.func 152) #[] #[.pointer (some ⟨b1, 0, none⟩), .pointer (some ⟨b2, 0, none⟩)]) ∧ W.cell? ⟨sb, 36, none⟩ = some (.int .i64 0) ∧ W.cell? ⟨sb, 37, none⟩ = some (.int .i64 0) ∧ W.cell? ⟨sb, 38, none⟩ = some (.bool false) ∧ W.cell? ⟨sb, 39, none⟩ = some (.bool false)) := hide (by
    intro W hb
    have ha := ((unhide A1).go hb).ak
    have hx := ((unhide H1).below hb).box
    exact ⟨by rw [cell_of_row W _ 0 _ _ _ ha]; rfl, by rw [← d0]; exact hx.cd _ (by omega) (by omega), by rw [← d1]; exact hx.cd _ (by omega) (by omega), by rw [← d2]; exact hx.cd _ (by omega) (by omega), by rw [← d3]; exact hx.cd _ (by omega) (by omega), by rw [← d4]; exact hx.cd _ (by omega) (by omega)⟩)
  clear d0 d1 d2 d3 d4
  refine wp_region_held_drew (S := fun W => W.cell? ⟨w.heap.size, 0, none⟩ = some (.int .i64 6) ∧ W.cell? ⟨sb, 35, none⟩ = some (.func (.func 152) #[] #[.pointer (some ⟨b1, 0, none⟩), .pointer (some ⟨b2, 0, none⟩)]) ∧ W.cell? ⟨sb, 36, none⟩ = some (.int .i64 0) ∧ W.cell? ⟨sb, 37, none⟩ = some (.int .i64 0) ∧ W.cell? ⟨sb, 38, none⟩ = some (.bool false) ∧ W.cell? ⟨sb, 39, none⟩ = some (.bool false)) (by kernel_rfl) (unhide HSS _ (Below.refl _ _).drew) (fun hHeld => ?_)
  refine takeAt 0 (some 18) (v := ?v0a) (by decide) rfl (by kernel_rfl) (by kernel_rfl) (by kernel_rfl) (fun _ _ _ h => h) (by rfl) ?hy0a hHeld ?r0a
  case hy0a => (intro wx hSw; obtain ⟨s0, s1, s2, s3, s4, s5⟩ := hSw; go_simp; with_reducible rfl)
  simp only [Act.put, List.setIfInBounds_toArray, List.set_cons_zero, List.set_cons_succ]
  refine takeAt 1 (some 19) (v := ?v1a) (by decide) rfl (by kernel_rfl) (by kernel_rfl) (by kernel_rfl) (fun _ _ _ h => h) (by rfl) ?hy1a hHeld ?r1a
  case hy1a => (intro wx hSw; obtain ⟨s0, s1, s2, s3, s4, s5⟩ := hSw; go_simp; with_reducible rfl)
  simp only [Act.put, List.setIfInBounds_toArray, List.set_cons_zero, List.set_cons_succ]
  refine takeAt 2 (some 20) (v := ?v2a) (by decide) rfl (by kernel_rfl) (by kernel_rfl) (by kernel_rfl) (fun _ _ _ h => h) (by rfl) ?hy2a hHeld ?r2a
  case hy2a => (intro wx hSw; obtain ⟨s0, s1, s2, s3, s4, s5⟩ := hSw; go_simp; with_reducible rfl)
  simp only [Act.put, List.setIfInBounds_toArray, List.set_cons_zero, List.set_cons_succ]
  refine takeAt 3 (some 21) (v := ?v3a) (by decide) rfl (by kernel_rfl) (by kernel_rfl) (by kernel_rfl) (fun _ _ _ h => h) (by rfl) ?hy3a hHeld ?r3a
  case hy3a => (intro wx hSw; obtain ⟨s0, s1, s2, s3, s4, s5⟩ := hSw; go_simp; with_reducible rfl)
  simp only [Act.put, List.setIfInBounds_toArray, List.set_cons_zero, List.set_cons_succ]
  refine takeAt 4 (some 22) (v := ?v4a) (by decide) rfl (by kernel_rfl) (by kernel_rfl) (by kernel_rfl) (fun _ _ _ h => h) (by rfl) ?hy4a hHeld ?r4a
  case hy4a => (intro wx hSw; obtain ⟨s0, s1, s2, s3, s4, s5⟩ := hSw; go_simp; with_reducible rfl)
  simp only [Act.put, List.setIfInBounds_toArray, List.set_cons_zero, List.set_cons_succ]
  refine takeAt 5 (some 23) (v := ?v5a) (by decide) rfl (by kernel_rfl) (by kernel_rfl) (by kernel_rfl) (fun _ _ _ h => h) (by rfl) ?hy5a hHeld ?r5a
  case hy5a => (intro wx hSw; obtain ⟨s0, s1, s2, s3, s4, s5⟩ := hSw; go_simp; with_reducible rfl)
  simp only [Act.put, List.setIfInBounds_toArray, List.set_cons_zero, List.set_cons_succ]
  refine takeAt 6 (some 24) (v := ?v6a) (by decide) rfl (by kernel_rfl) (by kernel_rfl) (by kernel_rfl) (fun _ _ _ h => h) (by rfl) ?hy6a hHeld ?r6a
  case hy6a => (intro wx hSw; obtain ⟨s0, s1, s2, s3, s4, s5⟩ := hSw; go_simp; with_reducible rfl)
  simp only [Act.put, List.setIfInBounds_toArray, List.set_cons_zero, List.set_cons_succ]
  refine wpAnyH_ready (rs := [7]) (by kernel_rfl) (by simp) ?_
  refine AllReadyH.cons rfl (fun KK hK => ?_) AllReadyH.nil
  go_simp
  have hba : Below w1.heap.size w1 (w1.alloc (.cells #[.nilFunc, .int .i64 0, .int .i64 0, .bool false, .bool false] 173)).drew := (below_new w1 _).drew
  refine hK.out _ _ (unhide HSS _ hba) (fun hHeld => ?_)
  clear hK KK hba
  try simp only [Act.put, List.setIfInBounds_toArray, List.getElem_toArray, List.getElem_cons_succ, List.getElem_cons_zero, List.set_cons_zero, List.set_cons_succ]
  refine wpAnyH_ready (rs := [8]) (by kernel_rfl) (by simp) ?_
  refine AllReadyH.cons rfl (fun KK hK => ?_) AllReadyH.nil
  go_simp
  have hb2 : Below w1.heap.size w1 (w1.alloc (.cells #[.func (.func 152) #[] #[.pointer (some ⟨b1, 0, none⟩), .pointer (some ⟨b2, 0, none⟩)], .int .i64 0, .int .i64 0, .bool false, .bool false] 173)).drew := (below_new w1 _).drew
  have HX2 : Hid ((w1.alloc (.cells #[.func (.func 152) #[] #[.pointer (some ⟨b1, 0, none⟩), .pointer (some ⟨b2, 0, none⟩)], .int .i64 0, .int .i64 0, .bool false, .bool false] 173)).drew.heap[w1.heap.size]? = some (.cells #[.func (.func 152) #[] #[.pointer (some ⟨b1, 0, none⟩), .pointer (some ⟨b2, 0, none⟩)], .int .i64 0, .int .i64 0, .bool false, .bool false] 173 (0, 0))) := hide (heap_alloc_new w1 _)
  rw [sz1] at HX2
  refine hK.out _ _ (unhide HSS _ hb2) (fun hHeld => ?_)
  clear hK KK hHeld
  try simp only [Act.put, List.setIfInBounds_toArray, List.getElem_toArray, List.getElem_cons_succ, List.getElem_cons_zero, List.set_cons_zero, List.set_cons_succ]
  refine wpAnyH_done (by kernel_rfl) ?_ _
  generalize hW2 : (w1.alloc (.cells #[.func (.func 152) #[] #[.pointer (some ⟨b1, 0, none⟩), .pointer (some ⟨b2, 0, none⟩)], .int .i64 0, .int .i64 0, .bool false, .bool false] 173)).drew = w2 at hb2 HX2 ⊢
  clear hW2
  have A2 := hide ((unhide A1).go hb2)
  have HL2 := hide ((unhide H1).below hb2)
  have HB2 := hide ((unhide HB1).trans (hb2.mono (unhide HB1).size))
  clear hb2 A1 H1 HSS
  have e0 : w2.cell? ⟨w.heap.size + 2, 0, none⟩ = some (.func (.func 152) #[] #[.pointer (some ⟨b1, 0, none⟩), .pointer (some ⟨b2, 0, none⟩)]) := by rw [cell_of_row w2 _ 0 _ _ _ (unhide HX2)]; rfl
  have e1 : w2.cell? ⟨w.heap.size + 2, 1, none⟩ = some (.int .i64 0) := by rw [cell_of_row w2 _ 1 _ _ _ (unhide HX2)]; rfl
  have e2 : w2.cell? ⟨w.heap.size + 2, 2, none⟩ = some (.int .i64 0) := by rw [cell_of_row w2 _ 2 _ _ _ (unhide HX2)]; rfl
  have e3 : w2.cell? ⟨w.heap.size + 2, 3, none⟩ = some (.bool false) := by rw [cell_of_row w2 _ 3 _ _ _ (unhide HX2)]; rfl
  have e4 : w2.cell? ⟨w.heap.size + 2, 4, none⟩ = some (.bool false) := by rw [cell_of_row w2 _ 4 _ _ _ (unhide HX2)]; rfl
  have a0 : w2.cell? ⟨w.heap.size, 0, none⟩ = some (.int .i64 6) := by rw [cell_of_row w2 _ 0 _ _ _ (unhide A2).ak]; rfl
  have a1 : w2.cell? ⟨w.heap.size, 1, none⟩ = some (.int .i64 nn) := (unhide A2).a1
  have a2 : w2.cell? ⟨w.heap.size, 2, none⟩ = some (.string name) := (unhide A2).a2
  have a3 : w2.cell? ⟨w.heap.size, 3, none⟩ = some (.int .i64 kd) := (unhide A2).a3
  have a4 : w2.cell? ⟨w.heap.size, 4, none⟩ = some (.int .i64 fn) := (unhide A2).a4
  have a5 : w2.cell? ⟨w.heap.size, 5, none⟩ = some (.int .i64 line) := (unhide A2).a5
  have a6 : w2.cell? ⟨w.heap.size, 6, none⟩ = some (.string sn) := (unhide A2).a6
  go_wp2_with fail
  refine (takes_any _ _ _ 6 nn name kd fn line sn _ (unhide HZ) (unhide HZS)).mono ?_
  rintro e w3 ⟨⟨b, rfl, hbT⟩, hb3⟩
  clear e0 e1 e2 e3 e4 a0 a1 a2 a3 a4 a5 a6
  have A3 := hide ((unhide A2).go hb3)
  have HL3 := hide ((unhide HL2).below hb3)
  have HX3 := hide ((hb3.block _ (heap_ltx (unhide HX2))).trans (unhide HX2))
  have HB3 := hide ((unhide HB2).trans (hb3.mono (unhide HB2).size))
  clear hb3 A2 HL2 HX2
  cases b with
  | false =>
    have hN : ¬ OkAsk (⟨6, nn, name, ⟨kd, fn, line, sn⟩⟩ : Ak) := fun hO => by
      refine absurd (hbT.2 ?_) (by decide)
      have h := (okAsk3 (by omega)).1 hO; exact ⟨Int.le_of_eq h.1.symm, Int.le_of_eq h.1, (by rw [if_neg (by simp)]; exact h.2.2), (by rw [if_neg (by simp)]; exact h.2.1)⟩
    have HN := hide hN
    clear hN hbT
    obtain ⟨⟨r0, r1, r2, r3, r4, r5⟩, x0, x1, x2, x3, x4, x5⟩ := (unhide A3).rc
    go_wp2
    refine bodyPost_ret (v := .tuple #[.agg #[.int .i64 0, .int .i64 0, .int .i64 0, .string ⟨#[]⟩, .slice none 0 0, .slice none 0 0], .iface 180 (.agg #[.int .i64 1])]) (by simp [results, Tryz.results115, go_sem, r0, r1, r2, r3, r4, r5]) rfl ?_
    exact dsay_end (AskIs.notOk (unhide HN)) (.inr ⟨rfl, by show (1 : Int) ≠ 0; omega, rfl⟩) (unhide HL3) (unhide A3) (frs_nil _ _) (VsAt.nil _ _) ((unhide HB3).mono hB) (Same.of_below (unhide HB3)) hB
  | true =>
    have hT := hbT.1 rfl
    have HO : Hid (OkAsk (⟨6, nn, name, ⟨kd, fn, line, sn⟩⟩ : Ak)) := hide ((okAsk3 (by omega)).2 ⟨(Int.le_antisymm hT.2.1 hT.1), (by have q := hT.2.2.2; rwa [if_neg (by simp)] at q), (by have q := hT.2.2.1; rwa [if_neg (by simp)] at q)⟩)
    clear hbT hT
    have e0 : w3.cell? ⟨w.heap.size + 2, 0, none⟩ = some (.func (.func 152) #[] #[.pointer (some ⟨b1, 0, none⟩), .pointer (some ⟨b2, 0, none⟩)]) := by rw [cell_of_row w3 _ 0 _ _ _ (unhide HX3)]; rfl
    have a0 : w3.cell? ⟨w.heap.size, 0, none⟩ = some (.int .i64 6) := by rw [cell_of_row w3 _ 0 _ _ _ (unhide A3).ak]; rfl
    have a1 : w3.cell? ⟨w.heap.size, 1, none⟩ = some (.int .i64 nn) := (unhide A3).a1
    have a2 : w3.cell? ⟨w.heap.size, 2, none⟩ = some (.string name) := (unhide A3).a2
    have a3 : w3.cell? ⟨w.heap.size, 3, none⟩ = some (.int .i64 kd) := (unhide A3).a3
    have a4 : w3.cell? ⟨w.heap.size, 4, none⟩ = some (.int .i64 fn) := (unhide A3).a4
    have a5 : w3.cell? ⟨w.heap.size, 5, none⟩ = some (.int .i64 line) := (unhide A3).a5
    have a6 : w3.cell? ⟨w.heap.size, 6, none⟩ = some (.string sn) := (unhide A3).a6
    go_wp2_with fail
    refine (stepOver_any B sb lo lp mv pv tv uv D nf fns n f s nn name kd fn line sn w3 (unhide HL3) (fun W hb => unhide H2 W (((unhide HB3).mono hB).trans hb)) (fun W hb => unhide HP W (((unhide HB3).mono hB).trans hb)) (unhide HS) (unhide HOK) (unhide HPL) (Nat.le_trans hB (unhide HB3).size) (unhide HO) b1 b2 ((Same.of_below (P := fun _ => True) (unhide HB3)) _ _ _ _ g1 trivial) ((Same.of_below (P := fun _ => True) (unhide HB3)) _ _ _ _ g2 trivial)).mono ?_
    rintro e w4 ⟨s', d, m, t, v5, v6, er, rfl, hI, hd, ⟨tv', uv', hL4⟩, h5, h6, hb4, hk4⟩
    clear e0 a0 a1 a2 a3 a4 a5 a6
    obtain ⟨va, vc, rfl⟩ := owns_slice h5
    obtain ⟨ua, uc, rfl⟩ := owns_slice h6.row
    generalize hx : d.fr.length = ln5 at h5
    generalize hy : d.vs.length = ln6 at h6
    clear hx hy
    have A4 := hide ((unhide A3).same hk4)
    have H5 : Hid (FrsAt w.heap.size w4 (.slice va ln5 vc) d.fr) := hide (owns_low h5 (unhide HB3).size)
    have H6 : Hid (VsAt w.heap.size w4 (.slice ua ln6 uc) d.vs) := hide (h6.low (unhide HB3).size)
    have HB4 : Hid (Below B w w4) := hide (((unhide HB3).mono hB).trans hb4)
    have HK4 : Hid (Same KindS w w4) := hide ((Same.of_below (unhide HB3)).trans hk4)
    have HL4 := hide hL4
    have HI := hide hI
    have HD := hide hd
    clear hL4 h5 h6 hb4 hk4 hI hd
    obtain ⟨⟨r0, r1, r2, r3, r4, r5⟩, x0, x1, x2, x3, x4, x5⟩ := (unhide A4).rc
    go_wp2
    refine bodyPost_ret (v := .tuple #[.agg #[.int .i64 0, .int .i64 0, .int .i64 m, .string t, .slice va ln5 vc, .slice ua ln6 uc], er]) (by simp [results, Tryz.results115, go_sem, r0, r1, r2, r3, r4, r5]) rfl ?_
    exact dsay_end (unhide HI) (unhide HD) (unhide HL4) (unhide A4) (unhide H5) (unhide H6) (unhide HB4) (unhide HK4) hB

set_option maxRecDepth 100000 in
set_option maxHeartbeats 4000000 in
theorem try7_any (B sb lo lp : Nat) (mv pv tv uv : Value) (D : Nat → Value) (nf : Nat) (fns : Nat → ByteArray) (n : Nat) (f : Nat → M) (s : LS) (nn : Int) (name : ByteArray) (kd fn line : Int) (sn : ByteArray) (w : World) (h : SS B w sb mv pv n f s tv uv D) (h2 : ∀ W, Below B w W → MomsAt lo W mv n f) (hp : ∀ W, Below B w W → PlacesAt lp W pv n f) (hs : Sound nf fns n f) (hok : LsOk n s) (hpl : s.past.length ≤ 10000) (hB : B ≤ w.heap.size) (hz : name.size ≤ maxLen) (hzs : sn.size ≤ maxLen) (b1 b2 : Nat) (g1 : w.heap[b1]? = some (.cells #[.pointer (some ⟨sb, 0, none⟩)] 87 (0, 0))) (g2 : w.heap[b2]? = some (.cells #[.int .i64 2] 3 (0, 0))) (d0 : D 40 = .func (.func 152) #[] #[.pointer (some ⟨b1, 0, none⟩), .pointer (some ⟨b2, 0, none⟩)]) (d1 : D 41 = .int .i64 0) (d2 : D 42 = .int .i64 0) (d3 : D 43 = .bool false) (d4 : D 44 = .bool false) :
    Calls Tryz.prog 115 #[.pointer (some ⟨sb, 0, none⟩), .agg #[.int .i64 7, .int .i64 nn, .string name, .int .i64 kd, .int .i64 fn, .int .i64 line, .string sn]] w fun e w' => DSay B sb mv pv n f D s (⟨7, nn, name, ⟨kd, fn, line, sn⟩⟩ : Ak) w e w' := by
  have H := hide h
  have H2 := hide h2
  have HP := hide hp
  have HS := hide hs
  have HOK := hide hok
  have HPL := hide hpl
  have HZ := hide hz
  have HZS := hide hzs
  have A1 := hide (DB.new w (⟨7, nn, name, ⟨kd, fn, line, sn⟩⟩ : Ak))
  have HB1 : Hid (Below w.heap.size w ((w.alloc (.cells #[.int .i64 7, .int .i64 nn, .string name, .int .i64 kd, .int .i64 fn, .int .i64 line, .string sn] 47)).alloc (.cells #[.int .i64 0, .int .i64 0, .int .i64 0, .string ⟨#[]⟩, .slice none 0 0, .slice none 0 0] 38))) := hide ((below_new w (.cells #[.int .i64 7, .int .i64 nn, .string name, .int .i64 kd, .int .i64 fn, .int .i64 line, .string sn] 47)).alloc (by simp) (.cells #[.int .i64 0, .int .i64 0, .int .i64 0, .string ⟨#[]⟩, .slice none 0 0, .slice none 0 0] 38))
  have H1 := hide ((unhide H).below (unhide HB1))
  have hlt := (unhide H).lt
  clear h h2 hp hs hok hpl hz hzs
  go_enter Tryz.func115, Tryz.ntmps115
  go_upto_region 3 with fail
  obtain ⟨w1, hw1⟩ : ∃ w1, w1 = ((w.alloc (.cells #[.int .i64 7, .int .i64 nn, .string name, .int .i64 kd, .int .i64 fn, .int .i64 line, .string sn] 47)).alloc (.cells #[.int .i64 0, .int .i64 0, .int .i64 0, .string ⟨#[]⟩, .slice none 0 0, .slice none 0 0] 38)) := ⟨_, rfl⟩
  have sz1 : w1.heap.size = w.heap.size + 2 := by rw [hw1]; simp
  rw [← hw1] at A1 HB1 H1 ⊢
  clear hw1
  have HSS : Hid (∀ W, Below w1.heap.size w1 W → W.cell? ⟨w.heap.size, 0, none⟩ = some (.int .i64 7) ∧ W.cell? ⟨sb, 40, none⟩ = some (.func (.func 152) #[] #[.pointer (some ⟨b1, 0, none⟩), .pointer (some ⟨b2, 0, none⟩)]) ∧ W.cell? ⟨sb, 41, none⟩ = some (.int .i64 0) ∧ W.cell? ⟨sb, 42, none⟩ = some (.int .i64 0) ∧ W.cell? ⟨sb, 43, none⟩ = some (.bool false) ∧ W.cell? ⟨sb, 44, none⟩ = some (.bool false)) := hide (by
    intro W hb
    have ha := ((unhide A1).go hb).ak
    have hx := ((unhide H1).below hb).box
    exact ⟨by rw [cell_of_row W _ 0 _ _ _ ha]; rfl, by rw [← d0]; exact hx.cd _ (by omega) (by omega), by rw [← d1]; exact hx.cd _ (by omega) (by omega), by rw [← d2]; exact hx.cd _ (by omega) (by omega), by rw [← d3]; exact hx.cd _ (by omega) (by omega), by rw [← d4]; exact hx.cd _ (by omega) (by omega)⟩)
  clear d0 d1 d2 d3 d4
  refine wp_region_held_drew (S := fun W => W.cell? ⟨w.heap.size, 0, none⟩ = some (.int .i64 7) ∧ W.cell? ⟨sb, 40, none⟩ = some (.func (.func 152) #[] #[.pointer (some ⟨b1, 0, none⟩), .pointer (some ⟨b2, 0, none⟩)]) ∧ W.cell? ⟨sb, 41, none⟩ = some (.int .i64 0) ∧ W.cell? ⟨sb, 42, none⟩ = some (.int .i64 0) ∧ W.cell? ⟨sb, 43, none⟩ = some (.bool false) ∧ W.cell? ⟨sb, 44, none⟩ = some (.bool false)) (by kernel_rfl) (unhide HSS _ (Below.refl _ _).drew) (fun hHeld => ?_)
  refine takeAt 0 (some 18) (v := ?v0a) (by decide) rfl (by kernel_rfl) (by kernel_rfl) (by kernel_rfl) (fun _ _ _ h => h) (by rfl) ?hy0a hHeld ?r0a
  case hy0a => (intro wx hSw; obtain ⟨s0, s1, s2, s3, s4, s5⟩ := hSw; go_simp; with_reducible rfl)
  simp only [Act.put, List.setIfInBounds_toArray, List.set_cons_zero, List.set_cons_succ]
  refine takeAt 1 (some 19) (v := ?v1a) (by decide) rfl (by kernel_rfl) (by kernel_rfl) (by kernel_rfl) (fun _ _ _ h => h) (by rfl) ?hy1a hHeld ?r1a
  case hy1a => (intro wx hSw; obtain ⟨s0, s1, s2, s3, s4, s5⟩ := hSw; go_simp; with_reducible rfl)
  simp only [Act.put, List.setIfInBounds_toArray, List.set_cons_zero, List.set_cons_succ]
  refine takeAt 2 (some 20) (v := ?v2a) (by decide) rfl (by kernel_rfl) (by kernel_rfl) (by kernel_rfl) (fun _ _ _ h => h) (by rfl) ?hy2a hHeld ?r2a
  case hy2a => (intro wx hSw; obtain ⟨s0, s1, s2, s3, s4, s5⟩ := hSw; go_simp; with_reducible rfl)
  simp only [Act.put, List.setIfInBounds_toArray, List.set_cons_zero, List.set_cons_succ]
  refine takeAt 3 (some 21) (v := ?v3a) (by decide) rfl (by kernel_rfl) (by kernel_rfl) (by kernel_rfl) (fun _ _ _ h => h) (by rfl) ?hy3a hHeld ?r3a
  case hy3a => (intro wx hSw; obtain ⟨s0, s1, s2, s3, s4, s5⟩ := hSw; go_simp; with_reducible rfl)
  simp only [Act.put, List.setIfInBounds_toArray, List.set_cons_zero, List.set_cons_succ]
  refine takeAt 4 (some 22) (v := ?v4a) (by decide) rfl (by kernel_rfl) (by kernel_rfl) (by kernel_rfl) (fun _ _ _ h => h) (by rfl) ?hy4a hHeld ?r4a
  case hy4a => (intro wx hSw; obtain ⟨s0, s1, s2, s3, s4, s5⟩ := hSw; go_simp; with_reducible rfl)
  simp only [Act.put, List.setIfInBounds_toArray, List.set_cons_zero, List.set_cons_succ]
  refine takeAt 5 (some 23) (v := ?v5a) (by decide) rfl (by kernel_rfl) (by kernel_rfl) (by kernel_rfl) (fun _ _ _ h => h) (by rfl) ?hy5a hHeld ?r5a
  case hy5a => (intro wx hSw; obtain ⟨s0, s1, s2, s3, s4, s5⟩ := hSw; go_simp; with_reducible rfl)
  simp only [Act.put, List.setIfInBounds_toArray, List.set_cons_zero, List.set_cons_succ]
  refine takeAt 6 (some 24) (v := ?v6a) (by decide) rfl (by kernel_rfl) (by kernel_rfl) (by kernel_rfl) (fun _ _ _ h => h) (by rfl) ?hy6a hHeld ?r6a
  case hy6a => (intro wx hSw; obtain ⟨s0, s1, s2, s3, s4, s5⟩ := hSw; go_simp; with_reducible rfl)
  simp only [Act.put, List.setIfInBounds_toArray, List.set_cons_zero, List.set_cons_succ]
  refine wpAnyH_ready (rs := [7]) (by kernel_rfl) (by simp) ?_
  refine AllReadyH.cons rfl (fun KK hK => ?_) AllReadyH.nil
  go_simp
  have hba : Below w1.heap.size w1 (w1.alloc (.cells #[.nilFunc, .int .i64 0, .int .i64 0, .bool false, .bool false] 173)).drew := (below_new w1 _).drew
  refine hK.out _ _ (unhide HSS _ hba) (fun hHeld => ?_)
  clear hK KK hba
  try simp only [Act.put, List.setIfInBounds_toArray, List.getElem_toArray, List.getElem_cons_succ, List.getElem_cons_zero, List.set_cons_zero, List.set_cons_succ]
  refine wpAnyH_ready (rs := [8]) (by kernel_rfl) (by simp) ?_
  refine AllReadyH.cons rfl (fun KK hK => ?_) AllReadyH.nil
  go_simp
  have hb2 : Below w1.heap.size w1 (w1.alloc (.cells #[.func (.func 152) #[] #[.pointer (some ⟨b1, 0, none⟩), .pointer (some ⟨b2, 0, none⟩)], .int .i64 0, .int .i64 0, .bool false, .bool false] 173)).drew := (below_new w1 _).drew
  have HX2 : Hid ((w1.alloc (.cells #[.func (.func 152) #[] #[.pointer (some ⟨b1, 0, none⟩), .pointer (some ⟨b2, 0, none⟩)], .int .i64 0, .int .i64 0, .bool false, .bool false] 173)).drew.heap[w1.heap.size]? = some (.cells #[.func (.func 152) #[] #[.pointer (some ⟨b1, 0, none⟩), .pointer (some ⟨b2, 0, none⟩)], .int .i64 0, .int .i64 0, .bool false, .bool false] 173 (0, 0))) := hide (heap_alloc_new w1 _)
  rw [sz1] at HX2
  refine hK.out _ _ (unhide HSS _ hb2) (fun hHeld => ?_)
  clear hK KK hHeld
  try simp only [Act.put, List.setIfInBounds_toArray, List.getElem_toArray, List.getElem_cons_succ, List.getElem_cons_zero, List.set_cons_zero, List.set_cons_succ]
  refine wpAnyH_done (by kernel_rfl) ?_ _
  generalize hW2 : (w1.alloc (.cells #[.func (.func 152) #[] #[.pointer (some ⟨b1, 0, none⟩), .pointer (some ⟨b2, 0, none⟩)], .int .i64 0, .int .i64 0, .bool false, .bool false] 173)).drew = w2 at hb2 HX2 ⊢
  clear hW2
  have A2 := hide ((unhide A1).go hb2)
  have HL2 := hide ((unhide H1).below hb2)
  have HB2 := hide ((unhide HB1).trans (hb2.mono (unhide HB1).size))
  clear hb2 A1 H1 HSS
  have e0 : w2.cell? ⟨w.heap.size + 2, 0, none⟩ = some (.func (.func 152) #[] #[.pointer (some ⟨b1, 0, none⟩), .pointer (some ⟨b2, 0, none⟩)]) := by rw [cell_of_row w2 _ 0 _ _ _ (unhide HX2)]; rfl
  have e1 : w2.cell? ⟨w.heap.size + 2, 1, none⟩ = some (.int .i64 0) := by rw [cell_of_row w2 _ 1 _ _ _ (unhide HX2)]; rfl
  have e2 : w2.cell? ⟨w.heap.size + 2, 2, none⟩ = some (.int .i64 0) := by rw [cell_of_row w2 _ 2 _ _ _ (unhide HX2)]; rfl
  have e3 : w2.cell? ⟨w.heap.size + 2, 3, none⟩ = some (.bool false) := by rw [cell_of_row w2 _ 3 _ _ _ (unhide HX2)]; rfl
  have e4 : w2.cell? ⟨w.heap.size + 2, 4, none⟩ = some (.bool false) := by rw [cell_of_row w2 _ 4 _ _ _ (unhide HX2)]; rfl
  have a0 : w2.cell? ⟨w.heap.size, 0, none⟩ = some (.int .i64 7) := by rw [cell_of_row w2 _ 0 _ _ _ (unhide A2).ak]; rfl
  have a1 : w2.cell? ⟨w.heap.size, 1, none⟩ = some (.int .i64 nn) := (unhide A2).a1
  have a2 : w2.cell? ⟨w.heap.size, 2, none⟩ = some (.string name) := (unhide A2).a2
  have a3 : w2.cell? ⟨w.heap.size, 3, none⟩ = some (.int .i64 kd) := (unhide A2).a3
  have a4 : w2.cell? ⟨w.heap.size, 4, none⟩ = some (.int .i64 fn) := (unhide A2).a4
  have a5 : w2.cell? ⟨w.heap.size, 5, none⟩ = some (.int .i64 line) := (unhide A2).a5
  have a6 : w2.cell? ⟨w.heap.size, 6, none⟩ = some (.string sn) := (unhide A2).a6
  go_wp2_with fail
  refine (takes_any _ _ _ 7 nn name kd fn line sn _ (unhide HZ) (unhide HZS)).mono ?_
  rintro e w3 ⟨⟨b, rfl, hbT⟩, hb3⟩
  clear e0 e1 e2 e3 e4 a0 a1 a2 a3 a4 a5 a6
  have A3 := hide ((unhide A2).go hb3)
  have HL3 := hide ((unhide HL2).below hb3)
  have HX3 := hide ((hb3.block _ (heap_ltx (unhide HX2))).trans (unhide HX2))
  have HB3 := hide ((unhide HB2).trans (hb3.mono (unhide HB2).size))
  clear hb3 A2 HL2 HX2
  cases b with
  | false =>
    have hN : ¬ OkAsk (⟨7, nn, name, ⟨kd, fn, line, sn⟩⟩ : Ak) := fun hO => by
      refine absurd (hbT.2 ?_) (by decide)
      have h := (okAsk3 (by omega)).1 hO; exact ⟨Int.le_of_eq h.1.symm, Int.le_of_eq h.1, (by rw [if_neg (by simp)]; exact h.2.2), (by rw [if_neg (by simp)]; exact h.2.1)⟩
    have HN := hide hN
    clear hN hbT
    obtain ⟨⟨r0, r1, r2, r3, r4, r5⟩, x0, x1, x2, x3, x4, x5⟩ := (unhide A3).rc
    go_wp2
    refine bodyPost_ret (v := .tuple #[.agg #[.int .i64 0, .int .i64 0, .int .i64 0, .string ⟨#[]⟩, .slice none 0 0, .slice none 0 0], .iface 180 (.agg #[.int .i64 1])]) (by simp [results, Tryz.results115, go_sem, r0, r1, r2, r3, r4, r5]) rfl ?_
    exact dsay_end (AskIs.notOk (unhide HN)) (.inr ⟨rfl, by show (1 : Int) ≠ 0; omega, rfl⟩) (unhide HL3) (unhide A3) (frs_nil _ _) (VsAt.nil _ _) ((unhide HB3).mono hB) (Same.of_below (unhide HB3)) hB
  | true =>
    have hT := hbT.1 rfl
    have HO : Hid (OkAsk (⟨7, nn, name, ⟨kd, fn, line, sn⟩⟩ : Ak)) := hide ((okAsk3 (by omega)).2 ⟨(Int.le_antisymm hT.2.1 hT.1), (by have q := hT.2.2.2; rwa [if_neg (by simp)] at q), (by have q := hT.2.2.1; rwa [if_neg (by simp)] at q)⟩)
    clear hbT hT
    have e0 : w3.cell? ⟨w.heap.size + 2, 0, none⟩ = some (.func (.func 152) #[] #[.pointer (some ⟨b1, 0, none⟩), .pointer (some ⟨b2, 0, none⟩)]) := by rw [cell_of_row w3 _ 0 _ _ _ (unhide HX3)]; rfl
    have a0 : w3.cell? ⟨w.heap.size, 0, none⟩ = some (.int .i64 7) := by rw [cell_of_row w3 _ 0 _ _ _ (unhide A3).ak]; rfl
    have a1 : w3.cell? ⟨w.heap.size, 1, none⟩ = some (.int .i64 nn) := (unhide A3).a1
    have a2 : w3.cell? ⟨w.heap.size, 2, none⟩ = some (.string name) := (unhide A3).a2
    have a3 : w3.cell? ⟨w.heap.size, 3, none⟩ = some (.int .i64 kd) := (unhide A3).a3
    have a4 : w3.cell? ⟨w.heap.size, 4, none⟩ = some (.int .i64 fn) := (unhide A3).a4
    have a5 : w3.cell? ⟨w.heap.size, 5, none⟩ = some (.int .i64 line) := (unhide A3).a5
    have a6 : w3.cell? ⟨w.heap.size, 6, none⟩ = some (.string sn) := (unhide A3).a6
    go_wp2_with fail
    refine (stepOut_any B sb lo lp mv pv tv uv D nf fns n f s nn name kd fn line sn w3 (unhide HL3) (fun W hb => unhide H2 W (((unhide HB3).mono hB).trans hb)) (fun W hb => unhide HP W (((unhide HB3).mono hB).trans hb)) (unhide HS) (unhide HOK) (unhide HPL) (Nat.le_trans hB (unhide HB3).size) (unhide HO) b1 b2 ((Same.of_below (P := fun _ => True) (unhide HB3)) _ _ _ _ g1 trivial) ((Same.of_below (P := fun _ => True) (unhide HB3)) _ _ _ _ g2 trivial)).mono ?_
    rintro e w4 ⟨s', d, m, t, v5, v6, er, rfl, hI, hd, ⟨tv', uv', hL4⟩, h5, h6, hb4, hk4⟩
    clear e0 a0 a1 a2 a3 a4 a5 a6
    obtain ⟨va, vc, rfl⟩ := owns_slice h5
    obtain ⟨ua, uc, rfl⟩ := owns_slice h6.row
    generalize hx : d.fr.length = ln5 at h5
    generalize hy : d.vs.length = ln6 at h6
    clear hx hy
    have A4 := hide ((unhide A3).same hk4)
    have H5 : Hid (FrsAt w.heap.size w4 (.slice va ln5 vc) d.fr) := hide (owns_low h5 (unhide HB3).size)
    have H6 : Hid (VsAt w.heap.size w4 (.slice ua ln6 uc) d.vs) := hide (h6.low (unhide HB3).size)
    have HB4 : Hid (Below B w w4) := hide (((unhide HB3).mono hB).trans hb4)
    have HK4 : Hid (Same KindS w w4) := hide ((Same.of_below (unhide HB3)).trans hk4)
    have HL4 := hide hL4
    have HI := hide hI
    have HD := hide hd
    clear hL4 h5 h6 hb4 hk4 hI hd
    obtain ⟨⟨r0, r1, r2, r3, r4, r5⟩, x0, x1, x2, x3, x4, x5⟩ := (unhide A4).rc
    go_wp2
    refine bodyPost_ret (v := .tuple #[.agg #[.int .i64 0, .int .i64 0, .int .i64 m, .string t, .slice va ln5 vc, .slice ua ln6 uc], er]) (by simp [results, Tryz.results115, go_sem, r0, r1, r2, r3, r4, r5]) rfl ?_
    exact dsay_end (unhide HI) (unhide HD) (unhide HL4) (unhide A4) (unhide H5) (unhide H6) (unhide HB4) (unhide HK4) hB

set_option maxRecDepth 100000 in
set_option maxHeartbeats 4000000 in
theorem try8_any (B sb lo lp : Nat) (mv pv tv uv : Value) (D : Nat → Value) (nf : Nat) (fns : Nat → ByteArray) (n : Nat) (f : Nat → M) (s : LS) (nn : Int) (name : ByteArray) (kd fn line : Int) (sn : ByteArray) (w : World) (h : SS B w sb mv pv n f s tv uv D) (h2 : ∀ W, Below B w W → MomsAt lo W mv n f) (hp : ∀ W, Below B w W → PlacesAt lp W pv n f) (hs : Sound nf fns n f) (hok : LsOk n s) (hpl : s.past.length ≤ 10000) (hB : B ≤ w.heap.size) (hz : name.size ≤ maxLen) (hzs : sn.size ≤ maxLen) (d0 : D 45 = .func (.func 109) #[.pointer (some ⟨sb, 0, none⟩)] #[]) (d1 : D 46 = .int .i64 0) (d2 : D 47 = .int .i64 0) (d3 : D 48 = .bool false) (d4 : D 49 = .bool false) :
    Calls Tryz.prog 115 #[.pointer (some ⟨sb, 0, none⟩), .agg #[.int .i64 8, .int .i64 nn, .string name, .int .i64 kd, .int .i64 fn, .int .i64 line, .string sn]] w fun e w' => DSay B sb mv pv n f D s (⟨8, nn, name, ⟨kd, fn, line, sn⟩⟩ : Ak) w e w' := by
  have H := hide h
  have H2 := hide h2
  have HP := hide hp
  have HS := hide hs
  have HOK := hide hok
  have HPL := hide hpl
  have HZ := hide hz
  have HZS := hide hzs
  have A1 := hide (DB.new w (⟨8, nn, name, ⟨kd, fn, line, sn⟩⟩ : Ak))
  have HB1 : Hid (Below w.heap.size w ((w.alloc (.cells #[.int .i64 8, .int .i64 nn, .string name, .int .i64 kd, .int .i64 fn, .int .i64 line, .string sn] 47)).alloc (.cells #[.int .i64 0, .int .i64 0, .int .i64 0, .string ⟨#[]⟩, .slice none 0 0, .slice none 0 0] 38))) := hide ((below_new w (.cells #[.int .i64 8, .int .i64 nn, .string name, .int .i64 kd, .int .i64 fn, .int .i64 line, .string sn] 47)).alloc (by simp) (.cells #[.int .i64 0, .int .i64 0, .int .i64 0, .string ⟨#[]⟩, .slice none 0 0, .slice none 0 0] 38))
  have H1 := hide ((unhide H).below (unhide HB1))
  have hlt := (unhide H).lt
  clear h h2 hp hs hok hpl hz hzs
  go_enter Tryz.func115, Tryz.ntmps115
  go_upto_region 3 with fail
  obtain ⟨w1, hw1⟩ : ∃ w1, w1 = ((w.alloc (.cells #[.int .i64 8, .int .i64 nn, .string name, .int .i64 kd, .int .i64 fn, .int .i64 line, .string sn] 47)).alloc (.cells #[.int .i64 0, .int .i64 0, .int .i64 0, .string ⟨#[]⟩, .slice none 0 0, .slice none 0 0] 38)) := ⟨_, rfl⟩
  have sz1 : w1.heap.size = w.heap.size + 2 := by rw [hw1]; simp
  rw [← hw1] at A1 HB1 H1 ⊢
  clear hw1
  have HSS : Hid (∀ W, Below w1.heap.size w1 W → W.cell? ⟨w.heap.size, 0, none⟩ = some (.int .i64 8) ∧ W.cell? ⟨sb, 45, none⟩ = some (.func (.func 109) #[.pointer (some ⟨sb, 0, none⟩)] #[]) ∧ W.cell? ⟨sb, 46, none⟩ = some (.int .i64 0) ∧ W.cell? ⟨sb, 47, none⟩ = some (.int .i64 0) ∧ W.cell? ⟨sb, 48, none⟩ = some (.bool false) ∧ W.cell? ⟨sb, 49, none⟩ = some (.bool false)) := hide (by
    intro W hb
    have ha := ((unhide A1).go hb).ak
    have hx := ((unhide H1).below hb).box
    exact ⟨by rw [cell_of_row W _ 0 _ _ _ ha]; rfl, by rw [← d0]; exact hx.cd _ (by omega) (by omega), by rw [← d1]; exact hx.cd _ (by omega) (by omega), by rw [← d2]; exact hx.cd _ (by omega) (by omega), by rw [← d3]; exact hx.cd _ (by omega) (by omega), by rw [← d4]; exact hx.cd _ (by omega) (by omega)⟩)
  clear d0 d1 d2 d3 d4
  refine wp_region_held_drew (S := fun W => W.cell? ⟨w.heap.size, 0, none⟩ = some (.int .i64 8) ∧ W.cell? ⟨sb, 45, none⟩ = some (.func (.func 109) #[.pointer (some ⟨sb, 0, none⟩)] #[]) ∧ W.cell? ⟨sb, 46, none⟩ = some (.int .i64 0) ∧ W.cell? ⟨sb, 47, none⟩ = some (.int .i64 0) ∧ W.cell? ⟨sb, 48, none⟩ = some (.bool false) ∧ W.cell? ⟨sb, 49, none⟩ = some (.bool false)) (by kernel_rfl) (unhide HSS _ (Below.refl _ _).drew) (fun hHeld => ?_)
  refine takeAt 0 (some 18) (v := ?v0a) (by decide) rfl (by kernel_rfl) (by kernel_rfl) (by kernel_rfl) (fun _ _ _ h => h) (by rfl) ?hy0a hHeld ?r0a
  case hy0a => (intro wx hSw; obtain ⟨s0, s1, s2, s3, s4, s5⟩ := hSw; go_simp; with_reducible rfl)
  simp only [Act.put, List.setIfInBounds_toArray, List.set_cons_zero, List.set_cons_succ]
  refine takeAt 1 (some 19) (v := ?v1a) (by decide) rfl (by kernel_rfl) (by kernel_rfl) (by kernel_rfl) (fun _ _ _ h => h) (by rfl) ?hy1a hHeld ?r1a
  case hy1a => (intro wx hSw; obtain ⟨s0, s1, s2, s3, s4, s5⟩ := hSw; go_simp; with_reducible rfl)
  simp only [Act.put, List.setIfInBounds_toArray, List.set_cons_zero, List.set_cons_succ]
  refine takeAt 2 (some 20) (v := ?v2a) (by decide) rfl (by kernel_rfl) (by kernel_rfl) (by kernel_rfl) (fun _ _ _ h => h) (by rfl) ?hy2a hHeld ?r2a
  case hy2a => (intro wx hSw; obtain ⟨s0, s1, s2, s3, s4, s5⟩ := hSw; go_simp; with_reducible rfl)
  simp only [Act.put, List.setIfInBounds_toArray, List.set_cons_zero, List.set_cons_succ]
  refine takeAt 3 (some 21) (v := ?v3a) (by decide) rfl (by kernel_rfl) (by kernel_rfl) (by kernel_rfl) (fun _ _ _ h => h) (by rfl) ?hy3a hHeld ?r3a
  case hy3a => (intro wx hSw; obtain ⟨s0, s1, s2, s3, s4, s5⟩ := hSw; go_simp; with_reducible rfl)
  simp only [Act.put, List.setIfInBounds_toArray, List.set_cons_zero, List.set_cons_succ]
  refine takeAt 4 (some 22) (v := ?v4a) (by decide) rfl (by kernel_rfl) (by kernel_rfl) (by kernel_rfl) (fun _ _ _ h => h) (by rfl) ?hy4a hHeld ?r4a
  case hy4a => (intro wx hSw; obtain ⟨s0, s1, s2, s3, s4, s5⟩ := hSw; go_simp; with_reducible rfl)
  simp only [Act.put, List.setIfInBounds_toArray, List.set_cons_zero, List.set_cons_succ]
  refine takeAt 5 (some 23) (v := ?v5a) (by decide) rfl (by kernel_rfl) (by kernel_rfl) (by kernel_rfl) (fun _ _ _ h => h) (by rfl) ?hy5a hHeld ?r5a
  case hy5a => (intro wx hSw; obtain ⟨s0, s1, s2, s3, s4, s5⟩ := hSw; go_simp; with_reducible rfl)
  simp only [Act.put, List.setIfInBounds_toArray, List.set_cons_zero, List.set_cons_succ]
  refine takeAt 6 (some 24) (v := ?v6a) (by decide) rfl (by kernel_rfl) (by kernel_rfl) (by kernel_rfl) (fun _ _ _ h => h) (by rfl) ?hy6a hHeld ?r6a
  case hy6a => (intro wx hSw; obtain ⟨s0, s1, s2, s3, s4, s5⟩ := hSw; go_simp; with_reducible rfl)
  simp only [Act.put, List.setIfInBounds_toArray, List.set_cons_zero, List.set_cons_succ]
  refine wpAnyH_ready (rs := [7]) (by kernel_rfl) (by simp) ?_
  refine AllReadyH.cons rfl (fun KK hK => ?_) AllReadyH.nil
  go_simp
  have hba : Below w1.heap.size w1 (w1.alloc (.cells #[.nilFunc, .int .i64 0, .int .i64 0, .bool false, .bool false] 173)).drew := (below_new w1 _).drew
  refine hK.out _ _ (unhide HSS _ hba) (fun hHeld => ?_)
  clear hK KK hba
  try simp only [Act.put, List.setIfInBounds_toArray, List.getElem_toArray, List.getElem_cons_succ, List.getElem_cons_zero, List.set_cons_zero, List.set_cons_succ]
  refine wpAnyH_ready (rs := [8]) (by kernel_rfl) (by simp) ?_
  refine AllReadyH.cons rfl (fun KK hK => ?_) AllReadyH.nil
  go_simp
  have hb2 : Below w1.heap.size w1 (w1.alloc (.cells #[.func (.func 109) #[.pointer (some ⟨sb, 0, none⟩)] #[], .int .i64 0, .int .i64 0, .bool false, .bool false] 173)).drew := (below_new w1 _).drew
  have HX2 : Hid ((w1.alloc (.cells #[.func (.func 109) #[.pointer (some ⟨sb, 0, none⟩)] #[], .int .i64 0, .int .i64 0, .bool false, .bool false] 173)).drew.heap[w1.heap.size]? = some (.cells #[.func (.func 109) #[.pointer (some ⟨sb, 0, none⟩)] #[], .int .i64 0, .int .i64 0, .bool false, .bool false] 173 (0, 0))) := hide (heap_alloc_new w1 _)
  rw [sz1] at HX2
  refine hK.out _ _ (unhide HSS _ hb2) (fun hHeld => ?_)
  clear hK KK hHeld
  try simp only [Act.put, List.setIfInBounds_toArray, List.getElem_toArray, List.getElem_cons_succ, List.getElem_cons_zero, List.set_cons_zero, List.set_cons_succ]
  refine wpAnyH_done (by kernel_rfl) ?_ _
  generalize hW2 : (w1.alloc (.cells #[.func (.func 109) #[.pointer (some ⟨sb, 0, none⟩)] #[], .int .i64 0, .int .i64 0, .bool false, .bool false] 173)).drew = w2 at hb2 HX2 ⊢
  clear hW2
  have A2 := hide ((unhide A1).go hb2)
  have HL2 := hide ((unhide H1).below hb2)
  have HB2 := hide ((unhide HB1).trans (hb2.mono (unhide HB1).size))
  clear hb2 A1 H1 HSS
  have e0 : w2.cell? ⟨w.heap.size + 2, 0, none⟩ = some (.func (.func 109) #[.pointer (some ⟨sb, 0, none⟩)] #[]) := by rw [cell_of_row w2 _ 0 _ _ _ (unhide HX2)]; rfl
  have e1 : w2.cell? ⟨w.heap.size + 2, 1, none⟩ = some (.int .i64 0) := by rw [cell_of_row w2 _ 1 _ _ _ (unhide HX2)]; rfl
  have e2 : w2.cell? ⟨w.heap.size + 2, 2, none⟩ = some (.int .i64 0) := by rw [cell_of_row w2 _ 2 _ _ _ (unhide HX2)]; rfl
  have e3 : w2.cell? ⟨w.heap.size + 2, 3, none⟩ = some (.bool false) := by rw [cell_of_row w2 _ 3 _ _ _ (unhide HX2)]; rfl
  have e4 : w2.cell? ⟨w.heap.size + 2, 4, none⟩ = some (.bool false) := by rw [cell_of_row w2 _ 4 _ _ _ (unhide HX2)]; rfl
  have a0 : w2.cell? ⟨w.heap.size, 0, none⟩ = some (.int .i64 8) := by rw [cell_of_row w2 _ 0 _ _ _ (unhide A2).ak]; rfl
  have a1 : w2.cell? ⟨w.heap.size, 1, none⟩ = some (.int .i64 nn) := (unhide A2).a1
  have a2 : w2.cell? ⟨w.heap.size, 2, none⟩ = some (.string name) := (unhide A2).a2
  have a3 : w2.cell? ⟨w.heap.size, 3, none⟩ = some (.int .i64 kd) := (unhide A2).a3
  have a4 : w2.cell? ⟨w.heap.size, 4, none⟩ = some (.int .i64 fn) := (unhide A2).a4
  have a5 : w2.cell? ⟨w.heap.size, 5, none⟩ = some (.int .i64 line) := (unhide A2).a5
  have a6 : w2.cell? ⟨w.heap.size, 6, none⟩ = some (.string sn) := (unhide A2).a6
  go_wp2_with fail
  refine (takes_any _ _ _ 8 nn name kd fn line sn _ (unhide HZ) (unhide HZS)).mono ?_
  rintro e w3 ⟨⟨b, rfl, hbT⟩, hb3⟩
  clear e0 e1 e2 e3 e4 a0 a1 a2 a3 a4 a5 a6
  have A3 := hide ((unhide A2).go hb3)
  have HL3 := hide ((unhide HL2).below hb3)
  have HX3 := hide ((hb3.block _ (heap_ltx (unhide HX2))).trans (unhide HX2))
  have HB3 := hide ((unhide HB2).trans (hb3.mono (unhide HB2).size))
  clear hb3 A2 HL2 HX2
  cases b with
  | false =>
    have hN : ¬ OkAsk (⟨8, nn, name, ⟨kd, fn, line, sn⟩⟩ : Ak) := fun hO => by
      refine absurd (hbT.2 ?_) (by decide)
      have h := (okAsk3 (by omega)).1 hO; exact ⟨Int.le_of_eq h.1.symm, Int.le_of_eq h.1, (by rw [if_neg (by simp)]; exact h.2.2), (by rw [if_neg (by simp)]; exact h.2.1)⟩
    have HN := hide hN
    clear hN hbT
    obtain ⟨⟨r0, r1, r2, r3, r4, r5⟩, x0, x1, x2, x3, x4, x5⟩ := (unhide A3).rc
    go_wp2
    refine bodyPost_ret (v := .tuple #[.agg #[.int .i64 0, .int .i64 0, .int .i64 0, .string ⟨#[]⟩, .slice none 0 0, .slice none 0 0], .iface 180 (.agg #[.int .i64 1])]) (by simp [results, Tryz.results115, go_sem, r0, r1, r2, r3, r4, r5]) rfl ?_
    exact dsay_end (AskIs.notOk (unhide HN)) (.inr ⟨rfl, by show (1 : Int) ≠ 0; omega, rfl⟩) (unhide HL3) (unhide A3) (frs_nil _ _) (VsAt.nil _ _) ((unhide HB3).mono hB) (Same.of_below (unhide HB3)) hB
  | true =>
    have hT := hbT.1 rfl
    have HO : Hid (OkAsk (⟨8, nn, name, ⟨kd, fn, line, sn⟩⟩ : Ak)) := hide ((okAsk3 (by omega)).2 ⟨(Int.le_antisymm hT.2.1 hT.1), (by have q := hT.2.2.2; rwa [if_neg (by simp)] at q), (by have q := hT.2.2.1; rwa [if_neg (by simp)] at q)⟩)
    clear hbT hT
    have e0 : w3.cell? ⟨w.heap.size + 2, 0, none⟩ = some (.func (.func 109) #[.pointer (some ⟨sb, 0, none⟩)] #[]) := by rw [cell_of_row w3 _ 0 _ _ _ (unhide HX3)]; rfl
    have a0 : w3.cell? ⟨w.heap.size, 0, none⟩ = some (.int .i64 8) := by rw [cell_of_row w3 _ 0 _ _ _ (unhide A3).ak]; rfl
    have a1 : w3.cell? ⟨w.heap.size, 1, none⟩ = some (.int .i64 nn) := (unhide A3).a1
    have a2 : w3.cell? ⟨w.heap.size, 2, none⟩ = some (.string name) := (unhide A3).a2
    have a3 : w3.cell? ⟨w.heap.size, 3, none⟩ = some (.int .i64 kd) := (unhide A3).a3
    have a4 : w3.cell? ⟨w.heap.size, 4, none⟩ = some (.int .i64 fn) := (unhide A3).a4
    have a5 : w3.cell? ⟨w.heap.size, 5, none⟩ = some (.int .i64 line) := (unhide A3).a5
    have a6 : w3.cell? ⟨w.heap.size, 6, none⟩ = some (.string sn) := (unhide A3).a6
    go_wp2_with fail
    refine (undo_any B sb lo lp mv pv tv uv D nf fns n f s nn name kd fn line sn w3 (unhide HL3) (fun W hb => unhide H2 W (((unhide HB3).mono hB).trans hb)) (fun W hb => unhide HP W (((unhide HB3).mono hB).trans hb)) (unhide HS) (unhide HOK) (unhide HPL) (Nat.le_trans hB (unhide HB3).size) (unhide HO)).mono ?_
    rintro e w4 ⟨s', d, m, t, v5, v6, er, rfl, hI, hd, ⟨tv', uv', hL4⟩, h5, h6, hb4, hk4⟩
    clear e0 a0 a1 a2 a3 a4 a5 a6
    obtain ⟨va, vc, rfl⟩ := owns_slice h5
    obtain ⟨ua, uc, rfl⟩ := owns_slice h6.row
    generalize hx : d.fr.length = ln5 at h5
    generalize hy : d.vs.length = ln6 at h6
    clear hx hy
    have A4 := hide ((unhide A3).same hk4)
    have H5 : Hid (FrsAt w.heap.size w4 (.slice va ln5 vc) d.fr) := hide (owns_low h5 (unhide HB3).size)
    have H6 : Hid (VsAt w.heap.size w4 (.slice ua ln6 uc) d.vs) := hide (h6.low (unhide HB3).size)
    have HB4 : Hid (Below B w w4) := hide (((unhide HB3).mono hB).trans hb4)
    have HK4 : Hid (Same KindS w w4) := hide ((Same.of_below (unhide HB3)).trans hk4)
    have HL4 := hide hL4
    have HI := hide hI
    have HD := hide hd
    clear hL4 h5 h6 hb4 hk4 hI hd
    obtain ⟨⟨r0, r1, r2, r3, r4, r5⟩, x0, x1, x2, x3, x4, x5⟩ := (unhide A4).rc
    go_wp2
    refine bodyPost_ret (v := .tuple #[.agg #[.int .i64 0, .int .i64 0, .int .i64 m, .string t, .slice va ln5 vc, .slice ua ln6 uc], er]) (by simp [results, Tryz.results115, go_sem, r0, r1, r2, r3, r4, r5]) rfl ?_
    exact dsay_end (unhide HI) (unhide HD) (unhide HL4) (unhide A4) (unhide H5) (unhide H6) (unhide HB4) (unhide HK4) hB

set_option maxRecDepth 100000 in
set_option maxHeartbeats 4000000 in
theorem try9_any (B sb lo lp : Nat) (mv pv tv uv : Value) (D : Nat → Value) (nf : Nat) (fns : Nat → ByteArray) (n : Nat) (f : Nat → M) (s : LS) (nn : Int) (name : ByteArray) (kd fn line : Int) (sn : ByteArray) (w : World) (h : SS B w sb mv pv n f s tv uv D) (h2 : ∀ W, Below B w W → MomsAt lo W mv n f) (hp : ∀ W, Below B w W → PlacesAt lp W pv n f) (hs : Sound nf fns n f) (hok : LsOk n s) (hpl : s.past.length ≤ 10000) (hB : B ≤ w.heap.size) (hz : name.size ≤ maxLen) (hzs : sn.size ≤ maxLen) (d0 : D 50 = .func (.func 110) #[.pointer (some ⟨sb, 0, none⟩)] #[]) (d1 : D 51 = .int .i64 (-1)) (d2 : D 52 = .int .i64 3000) (d3 : D 53 = .bool false) (d4 : D 54 = .bool false) :
    Calls Tryz.prog 115 #[.pointer (some ⟨sb, 0, none⟩), .agg #[.int .i64 9, .int .i64 nn, .string name, .int .i64 kd, .int .i64 fn, .int .i64 line, .string sn]] w fun e w' => DSay B sb mv pv n f D s (⟨9, nn, name, ⟨kd, fn, line, sn⟩⟩ : Ak) w e w' := by
  have H := hide h
  have H2 := hide h2
  have HP := hide hp
  have HS := hide hs
  have HOK := hide hok
  have HPL := hide hpl
  have HZ := hide hz
  have HZS := hide hzs
  have A1 := hide (DB.new w (⟨9, nn, name, ⟨kd, fn, line, sn⟩⟩ : Ak))
  have HB1 : Hid (Below w.heap.size w ((w.alloc (.cells #[.int .i64 9, .int .i64 nn, .string name, .int .i64 kd, .int .i64 fn, .int .i64 line, .string sn] 47)).alloc (.cells #[.int .i64 0, .int .i64 0, .int .i64 0, .string ⟨#[]⟩, .slice none 0 0, .slice none 0 0] 38))) := hide ((below_new w (.cells #[.int .i64 9, .int .i64 nn, .string name, .int .i64 kd, .int .i64 fn, .int .i64 line, .string sn] 47)).alloc (by simp) (.cells #[.int .i64 0, .int .i64 0, .int .i64 0, .string ⟨#[]⟩, .slice none 0 0, .slice none 0 0] 38))
  have H1 := hide ((unhide H).below (unhide HB1))
  have hlt := (unhide H).lt
  clear h h2 hp hs hok hpl hz hzs
  go_enter Tryz.func115, Tryz.ntmps115
  go_upto_region 3 with fail
  obtain ⟨w1, hw1⟩ : ∃ w1, w1 = ((w.alloc (.cells #[.int .i64 9, .int .i64 nn, .string name, .int .i64 kd, .int .i64 fn, .int .i64 line, .string sn] 47)).alloc (.cells #[.int .i64 0, .int .i64 0, .int .i64 0, .string ⟨#[]⟩, .slice none 0 0, .slice none 0 0] 38)) := ⟨_, rfl⟩
  have sz1 : w1.heap.size = w.heap.size + 2 := by rw [hw1]; simp
  rw [← hw1] at A1 HB1 H1 ⊢
  clear hw1
  have HSS : Hid (∀ W, Below w1.heap.size w1 W → W.cell? ⟨w.heap.size, 0, none⟩ = some (.int .i64 9) ∧ W.cell? ⟨sb, 50, none⟩ = some (.func (.func 110) #[.pointer (some ⟨sb, 0, none⟩)] #[]) ∧ W.cell? ⟨sb, 51, none⟩ = some (.int .i64 (-1)) ∧ W.cell? ⟨sb, 52, none⟩ = some (.int .i64 3000) ∧ W.cell? ⟨sb, 53, none⟩ = some (.bool false) ∧ W.cell? ⟨sb, 54, none⟩ = some (.bool false)) := hide (by
    intro W hb
    have ha := ((unhide A1).go hb).ak
    have hx := ((unhide H1).below hb).box
    exact ⟨by rw [cell_of_row W _ 0 _ _ _ ha]; rfl, by rw [← d0]; exact hx.cd _ (by omega) (by omega), by rw [← d1]; exact hx.cd _ (by omega) (by omega), by rw [← d2]; exact hx.cd _ (by omega) (by omega), by rw [← d3]; exact hx.cd _ (by omega) (by omega), by rw [← d4]; exact hx.cd _ (by omega) (by omega)⟩)
  clear d0 d1 d2 d3 d4
  refine wp_region_held_drew (S := fun W => W.cell? ⟨w.heap.size, 0, none⟩ = some (.int .i64 9) ∧ W.cell? ⟨sb, 50, none⟩ = some (.func (.func 110) #[.pointer (some ⟨sb, 0, none⟩)] #[]) ∧ W.cell? ⟨sb, 51, none⟩ = some (.int .i64 (-1)) ∧ W.cell? ⟨sb, 52, none⟩ = some (.int .i64 3000) ∧ W.cell? ⟨sb, 53, none⟩ = some (.bool false) ∧ W.cell? ⟨sb, 54, none⟩ = some (.bool false)) (by kernel_rfl) (unhide HSS _ (Below.refl _ _).drew) (fun hHeld => ?_)
  refine takeAt 0 (some 18) (v := ?v0a) (by decide) rfl (by kernel_rfl) (by kernel_rfl) (by kernel_rfl) (fun _ _ _ h => h) (by rfl) ?hy0a hHeld ?r0a
  case hy0a => (intro wx hSw; obtain ⟨s0, s1, s2, s3, s4, s5⟩ := hSw; go_simp; with_reducible rfl)
  simp only [Act.put, List.setIfInBounds_toArray, List.set_cons_zero, List.set_cons_succ]
  refine takeAt 1 (some 19) (v := ?v1a) (by decide) rfl (by kernel_rfl) (by kernel_rfl) (by kernel_rfl) (fun _ _ _ h => h) (by rfl) ?hy1a hHeld ?r1a
  case hy1a => (intro wx hSw; obtain ⟨s0, s1, s2, s3, s4, s5⟩ := hSw; go_simp; with_reducible rfl)
  simp only [Act.put, List.setIfInBounds_toArray, List.set_cons_zero, List.set_cons_succ]
  refine takeAt 2 (some 20) (v := ?v2a) (by decide) rfl (by kernel_rfl) (by kernel_rfl) (by kernel_rfl) (fun _ _ _ h => h) (by rfl) ?hy2a hHeld ?r2a
  case hy2a => (intro wx hSw; obtain ⟨s0, s1, s2, s3, s4, s5⟩ := hSw; go_simp; with_reducible rfl)
  simp only [Act.put, List.setIfInBounds_toArray, List.set_cons_zero, List.set_cons_succ]
  refine takeAt 3 (some 21) (v := ?v3a) (by decide) rfl (by kernel_rfl) (by kernel_rfl) (by kernel_rfl) (fun _ _ _ h => h) (by rfl) ?hy3a hHeld ?r3a
  case hy3a => (intro wx hSw; obtain ⟨s0, s1, s2, s3, s4, s5⟩ := hSw; go_simp; with_reducible rfl)
  simp only [Act.put, List.setIfInBounds_toArray, List.set_cons_zero, List.set_cons_succ]
  refine takeAt 4 (some 22) (v := ?v4a) (by decide) rfl (by kernel_rfl) (by kernel_rfl) (by kernel_rfl) (fun _ _ _ h => h) (by rfl) ?hy4a hHeld ?r4a
  case hy4a => (intro wx hSw; obtain ⟨s0, s1, s2, s3, s4, s5⟩ := hSw; go_simp; with_reducible rfl)
  simp only [Act.put, List.setIfInBounds_toArray, List.set_cons_zero, List.set_cons_succ]
  refine takeAt 5 (some 23) (v := ?v5a) (by decide) rfl (by kernel_rfl) (by kernel_rfl) (by kernel_rfl) (fun _ _ _ h => h) (by rfl) ?hy5a hHeld ?r5a
  case hy5a => (intro wx hSw; obtain ⟨s0, s1, s2, s3, s4, s5⟩ := hSw; go_simp; with_reducible rfl)
  simp only [Act.put, List.setIfInBounds_toArray, List.set_cons_zero, List.set_cons_succ]
  refine takeAt 6 (some 24) (v := ?v6a) (by decide) rfl (by kernel_rfl) (by kernel_rfl) (by kernel_rfl) (fun _ _ _ h => h) (by rfl) ?hy6a hHeld ?r6a
  case hy6a => (intro wx hSw; obtain ⟨s0, s1, s2, s3, s4, s5⟩ := hSw; go_simp; with_reducible rfl)
  simp only [Act.put, List.setIfInBounds_toArray, List.set_cons_zero, List.set_cons_succ]
  refine wpAnyH_ready (rs := [7]) (by kernel_rfl) (by simp) ?_
  refine AllReadyH.cons rfl (fun KK hK => ?_) AllReadyH.nil
  go_simp
  have hba : Below w1.heap.size w1 (w1.alloc (.cells #[.nilFunc, .int .i64 0, .int .i64 0, .bool false, .bool false] 173)).drew := (below_new w1 _).drew
  refine hK.out _ _ (unhide HSS _ hba) (fun hHeld => ?_)
  clear hK KK hba
  try simp only [Act.put, List.setIfInBounds_toArray, List.getElem_toArray, List.getElem_cons_succ, List.getElem_cons_zero, List.set_cons_zero, List.set_cons_succ]
  refine wpAnyH_ready (rs := [8]) (by kernel_rfl) (by simp) ?_
  refine AllReadyH.cons rfl (fun KK hK => ?_) AllReadyH.nil
  go_simp
  have hb2 : Below w1.heap.size w1 (w1.alloc (.cells #[.func (.func 110) #[.pointer (some ⟨sb, 0, none⟩)] #[], .int .i64 (-1), .int .i64 3000, .bool false, .bool false] 173)).drew := (below_new w1 _).drew
  have HX2 : Hid ((w1.alloc (.cells #[.func (.func 110) #[.pointer (some ⟨sb, 0, none⟩)] #[], .int .i64 (-1), .int .i64 3000, .bool false, .bool false] 173)).drew.heap[w1.heap.size]? = some (.cells #[.func (.func 110) #[.pointer (some ⟨sb, 0, none⟩)] #[], .int .i64 (-1), .int .i64 3000, .bool false, .bool false] 173 (0, 0))) := hide (heap_alloc_new w1 _)
  rw [sz1] at HX2
  refine hK.out _ _ (unhide HSS _ hb2) (fun hHeld => ?_)
  clear hK KK hHeld
  try simp only [Act.put, List.setIfInBounds_toArray, List.getElem_toArray, List.getElem_cons_succ, List.getElem_cons_zero, List.set_cons_zero, List.set_cons_succ]
  refine wpAnyH_done (by kernel_rfl) ?_ _
  generalize hW2 : (w1.alloc (.cells #[.func (.func 110) #[.pointer (some ⟨sb, 0, none⟩)] #[], .int .i64 (-1), .int .i64 3000, .bool false, .bool false] 173)).drew = w2 at hb2 HX2 ⊢
  clear hW2
  have A2 := hide ((unhide A1).go hb2)
  have HL2 := hide ((unhide H1).below hb2)
  have HB2 := hide ((unhide HB1).trans (hb2.mono (unhide HB1).size))
  clear hb2 A1 H1 HSS
  have e0 : w2.cell? ⟨w.heap.size + 2, 0, none⟩ = some (.func (.func 110) #[.pointer (some ⟨sb, 0, none⟩)] #[]) := by rw [cell_of_row w2 _ 0 _ _ _ (unhide HX2)]; rfl
  have e1 : w2.cell? ⟨w.heap.size + 2, 1, none⟩ = some (.int .i64 (-1)) := by rw [cell_of_row w2 _ 1 _ _ _ (unhide HX2)]; rfl
  have e2 : w2.cell? ⟨w.heap.size + 2, 2, none⟩ = some (.int .i64 3000) := by rw [cell_of_row w2 _ 2 _ _ _ (unhide HX2)]; rfl
  have e3 : w2.cell? ⟨w.heap.size + 2, 3, none⟩ = some (.bool false) := by rw [cell_of_row w2 _ 3 _ _ _ (unhide HX2)]; rfl
  have e4 : w2.cell? ⟨w.heap.size + 2, 4, none⟩ = some (.bool false) := by rw [cell_of_row w2 _ 4 _ _ _ (unhide HX2)]; rfl
  have a0 : w2.cell? ⟨w.heap.size, 0, none⟩ = some (.int .i64 9) := by rw [cell_of_row w2 _ 0 _ _ _ (unhide A2).ak]; rfl
  have a1 : w2.cell? ⟨w.heap.size, 1, none⟩ = some (.int .i64 nn) := (unhide A2).a1
  have a2 : w2.cell? ⟨w.heap.size, 2, none⟩ = some (.string name) := (unhide A2).a2
  have a3 : w2.cell? ⟨w.heap.size, 3, none⟩ = some (.int .i64 kd) := (unhide A2).a3
  have a4 : w2.cell? ⟨w.heap.size, 4, none⟩ = some (.int .i64 fn) := (unhide A2).a4
  have a5 : w2.cell? ⟨w.heap.size, 5, none⟩ = some (.int .i64 line) := (unhide A2).a5
  have a6 : w2.cell? ⟨w.heap.size, 6, none⟩ = some (.string sn) := (unhide A2).a6
  go_wp2_with fail
  refine (takes_any _ _ _ 9 nn name kd fn line sn _ (unhide HZ) (unhide HZS)).mono ?_
  rintro e w3 ⟨⟨b, rfl, hbT⟩, hb3⟩
  clear e0 e1 e2 e3 e4 a0 a1 a2 a3 a4 a5 a6
  have A3 := hide ((unhide A2).go hb3)
  have HL3 := hide ((unhide HL2).below hb3)
  have HX3 := hide ((hb3.block _ (heap_ltx (unhide HX2))).trans (unhide HX2))
  have HB3 := hide ((unhide HB2).trans (hb3.mono (unhide HB2).size))
  clear hb3 A2 HL2 HX2
  cases b with
  | false =>
    have hN : ¬ OkAsk (⟨9, nn, name, ⟨kd, fn, line, sn⟩⟩ : Ak) := fun hO => by
      refine absurd (hbT.2 ?_) (by decide)
      have h := okAsk9.1 hO; exact ⟨h.1.1, h.1.2, (by rw [if_neg (by simp)]; exact h.2.2), (by rw [if_neg (by simp)]; exact h.2.1)⟩
    have HN := hide hN
    clear hN hbT
    obtain ⟨⟨r0, r1, r2, r3, r4, r5⟩, x0, x1, x2, x3, x4, x5⟩ := (unhide A3).rc
    go_wp2
    refine bodyPost_ret (v := .tuple #[.agg #[.int .i64 0, .int .i64 0, .int .i64 0, .string ⟨#[]⟩, .slice none 0 0, .slice none 0 0], .iface 180 (.agg #[.int .i64 1])]) (by simp [results, Tryz.results115, go_sem, r0, r1, r2, r3, r4, r5]) rfl ?_
    exact dsay_end (AskIs.notOk (unhide HN)) (.inr ⟨rfl, by show (1 : Int) ≠ 0; omega, rfl⟩) (unhide HL3) (unhide A3) (frs_nil _ _) (VsAt.nil _ _) ((unhide HB3).mono hB) (Same.of_below (unhide HB3)) hB
  | true =>
    have hT := hbT.1 rfl
    have HO : Hid (OkAsk (⟨9, nn, name, ⟨kd, fn, line, sn⟩⟩ : Ak)) := hide (okAsk9.2 ⟨⟨hT.1, hT.2.1⟩, (by have q := hT.2.2.2; rwa [if_neg (by simp)] at q), (by have q := hT.2.2.1; rwa [if_neg (by simp)] at q)⟩)
    clear hbT hT
    have e0 : w3.cell? ⟨w.heap.size + 2, 0, none⟩ = some (.func (.func 110) #[.pointer (some ⟨sb, 0, none⟩)] #[]) := by rw [cell_of_row w3 _ 0 _ _ _ (unhide HX3)]; rfl
    have a0 : w3.cell? ⟨w.heap.size, 0, none⟩ = some (.int .i64 9) := by rw [cell_of_row w3 _ 0 _ _ _ (unhide A3).ak]; rfl
    have a1 : w3.cell? ⟨w.heap.size, 1, none⟩ = some (.int .i64 nn) := (unhide A3).a1
    have a2 : w3.cell? ⟨w.heap.size, 2, none⟩ = some (.string name) := (unhide A3).a2
    have a3 : w3.cell? ⟨w.heap.size, 3, none⟩ = some (.int .i64 kd) := (unhide A3).a3
    have a4 : w3.cell? ⟨w.heap.size, 4, none⟩ = some (.int .i64 fn) := (unhide A3).a4
    have a5 : w3.cell? ⟨w.heap.size, 5, none⟩ = some (.int .i64 line) := (unhide A3).a5
    have a6 : w3.cell? ⟨w.heap.size, 6, none⟩ = some (.string sn) := (unhide A3).a6
    go_wp2_with fail
    refine (goTo_any B sb lo lp mv pv tv uv D nf fns n f s nn name kd fn line sn w3 (unhide HL3) (fun W hb => unhide H2 W (((unhide HB3).mono hB).trans hb)) (fun W hb => unhide HP W (((unhide HB3).mono hB).trans hb)) (unhide HS) (unhide HOK) (unhide HPL) (Nat.le_trans hB (unhide HB3).size) (unhide HO)).mono ?_
    rintro e w4 ⟨s', d, m, t, v5, v6, er, rfl, hI, hd, ⟨tv', uv', hL4⟩, h5, h6, hb4, hk4⟩
    clear e0 a0 a1 a2 a3 a4 a5 a6
    obtain ⟨va, vc, rfl⟩ := owns_slice h5
    obtain ⟨ua, uc, rfl⟩ := owns_slice h6.row
    generalize hx : d.fr.length = ln5 at h5
    generalize hy : d.vs.length = ln6 at h6
    clear hx hy
    have A4 := hide ((unhide A3).same hk4)
    have H5 : Hid (FrsAt w.heap.size w4 (.slice va ln5 vc) d.fr) := hide (owns_low h5 (unhide HB3).size)
    have H6 : Hid (VsAt w.heap.size w4 (.slice ua ln6 uc) d.vs) := hide (h6.low (unhide HB3).size)
    have HB4 : Hid (Below B w w4) := hide (((unhide HB3).mono hB).trans hb4)
    have HK4 : Hid (Same KindS w w4) := hide ((Same.of_below (unhide HB3)).trans hk4)
    have HL4 := hide hL4
    have HI := hide hI
    have HD := hide hd
    clear hL4 h5 h6 hb4 hk4 hI hd
    obtain ⟨⟨r0, r1, r2, r3, r4, r5⟩, x0, x1, x2, x3, x4, x5⟩ := (unhide A4).rc
    go_wp2
    refine bodyPost_ret (v := .tuple #[.agg #[.int .i64 0, .int .i64 0, .int .i64 m, .string t, .slice va ln5 vc, .slice ua ln6 uc], er]) (by simp [results, Tryz.results115, go_sem, r0, r1, r2, r3, r4, r5]) rfl ?_
    exact dsay_end (unhide HI) (unhide HD) (unhide HL4) (unhide A4) (unhide H5) (unhide H6) (unhide HB4) (unhide HK4) hB
end Go.Proofs.YtmnmeaeicjhkhaaGreatDoor

/-
  The program's try, op by op.
-/
namespace Go.Proofs.YtmnmeaeicjhkhaaGreatDoor
open Go.RowKit Go.Shelf

attribute [local go_sem] Oper.semAt_some

theorem tellCounts_any (B sb lo lp : Nat) (mv pv tv uv : Value) (D : Nat → Value) (nf : Nat) (fns : Nat → ByteArray) (n : Nat) (f : Nat → M) (s : LS) (nn : Int) (name : ByteArray) (kd fn line : Int) (sn : ByteArray) (w : World) (h : SS B w sb mv pv n f s tv uv D) (h2 : ∀ W, Below B w W → MomsAt lo W mv n f) (hp : ∀ W, Below B w W → PlacesAt lp W pv n f) (hs : Sound nf fns n f) (hok : LsOk n s) (hpl : s.past.length ≤ 10000) (hB : B ≤ w.heap.size) (ho : OkAsk (⟨13, nn, name, ⟨kd, fn, line, sn⟩⟩ : Ak)) :
    Calls Tryz.prog 114 #[.pointer (some ⟨sb, 0, none⟩), .agg #[.int .i64 13, .int .i64 nn, .string name, .int .i64 kd, .int .i64 fn, .int .i64 line, .string sn]] w fun e w' => DSay B sb mv pv n f D s (⟨13, nn, name, ⟨kd, fn, line, sn⟩⟩ : Ak) w e w' := by
  by_cases hge : (s.stops.length : Int) ≤ nn
  · exact tellCount2_any B sb lo lp mv pv tv uv D nf fns n f s nn name kd fn line sn w h h2 hp hs hok hpl hB ho hge
  · exact tellCount_any B sb lo lp mv pv tv uv D nf fns n f s nn name kd fn line sn w h h2 hp hs hok hpl hB ho hge

set_option maxRecDepth 100000 in
set_option maxHeartbeats 4000000 in
theorem try10_any (B sb lo lp : Nat) (mv pv tv uv : Value) (D : Nat → Value) (nf : Nat) (fns : Nat → ByteArray) (n : Nat) (f : Nat → M) (s : LS) (nn : Int) (name : ByteArray) (kd fn line : Int) (sn : ByteArray) (w : World) (h : SS B w sb mv pv n f s tv uv D) (h2 : ∀ W, Below B w W → MomsAt lo W mv n f) (hp : ∀ W, Below B w W → PlacesAt lp W pv n f) (hs : Sound nf fns n f) (hok : LsOk n s) (hpl : s.past.length ≤ 10000) (hB : B ≤ w.heap.size) (hz : name.size ≤ maxLen) (hzs : sn.size ≤ maxLen) (d0 : D 55 = .func (.func 111) #[.pointer (some ⟨sb, 0, none⟩)] #[]) (d1 : D 56 = .int .i64 0) (d2 : D 57 = .int .i64 100) (d3 : D 58 = .bool false) (d4 : D 59 = .bool false) :
    Calls Tryz.prog 115 #[.pointer (some ⟨sb, 0, none⟩), .agg #[.int .i64 10, .int .i64 nn, .string name, .int .i64 kd, .int .i64 fn, .int .i64 line, .string sn]] w fun e w' => DSay B sb mv pv n f D s (⟨10, nn, name, ⟨kd, fn, line, sn⟩⟩ : Ak) w e w' := by
  have H := hide h
  have H2 := hide h2
  have HP := hide hp
  have HS := hide hs
  have HOK := hide hok
  have HPL := hide hpl
  have HZ := hide hz
  have HZS := hide hzs
  have A1 := hide (DB.new w (⟨10, nn, name, ⟨kd, fn, line, sn⟩⟩ : Ak))
  have HB1 : Hid (Below w.heap.size w ((w.alloc (.cells #[.int .i64 10, .int .i64 nn, .string name, .int .i64 kd, .int .i64 fn, .int .i64 line, .string sn] 47)).alloc (.cells #[.int .i64 0, .int .i64 0, .int .i64 0, .string ⟨#[]⟩, .slice none 0 0, .slice none 0 0] 38))) := hide ((below_new w (.cells #[.int .i64 10, .int .i64 nn, .string name, .int .i64 kd, .int .i64 fn, .int .i64 line, .string sn] 47)).alloc (by simp) (.cells #[.int .i64 0, .int .i64 0, .int .i64 0, .string ⟨#[]⟩, .slice none 0 0, .slice none 0 0] 38))
  have H1 := hide ((unhide H).below (unhide HB1))
  have hlt := (unhide H).lt
  clear h h2 hp hs hok hpl hz hzs
  go_enter Tryz.func115, Tryz.ntmps115
  go_upto_region 3 with fail
  obtain ⟨w1, hw1⟩ : ∃ w1, w1 = ((w.alloc (.cells #[.int .i64 10, .int .i64 nn, .string name, .int .i64 kd, .int .i64 fn, .int .i64 line, .string sn] 47)).alloc (.cells #[.int .i64 0, .int .i64 0, .int .i64 0, .string ⟨#[]⟩, .slice none 0 0, .slice none 0 0] 38)) := ⟨_, rfl⟩
  have sz1 : w1.heap.size = w.heap.size + 2 := by rw [hw1]; simp
  rw [← hw1] at A1 HB1 H1 ⊢
  clear hw1
  have HSS : Hid (∀ W, Below w1.heap.size w1 W → W.cell? ⟨w.heap.size, 0, none⟩ = some (.int .i64 10) ∧ W.cell? ⟨sb, 55, none⟩ = some (.func (.func 111) #[.pointer (some ⟨sb, 0, none⟩)] #[]) ∧ W.cell? ⟨sb, 56, none⟩ = some (.int .i64 0) ∧ W.cell? ⟨sb, 57, none⟩ = some (.int .i64 100) ∧ W.cell? ⟨sb, 58, none⟩ = some (.bool false) ∧ W.cell? ⟨sb, 59, none⟩ = some (.bool false)) := hide (by
    intro W hb
    have ha := ((unhide A1).go hb).ak
    have hx := ((unhide H1).below hb).box
    exact ⟨by rw [cell_of_row W _ 0 _ _ _ ha]; rfl, by rw [← d0]; exact hx.cd _ (by omega) (by omega), by rw [← d1]; exact hx.cd _ (by omega) (by omega), by rw [← d2]; exact hx.cd _ (by omega) (by omega), by rw [← d3]; exact hx.cd _ (by omega) (by omega), by rw [← d4]; exact hx.cd _ (by omega) (by omega)⟩)
  clear d0 d1 d2 d3 d4
  refine wp_region_held_drew (S := fun W => W.cell? ⟨w.heap.size, 0, none⟩ = some (.int .i64 10) ∧ W.cell? ⟨sb, 55, none⟩ = some (.func (.func 111) #[.pointer (some ⟨sb, 0, none⟩)] #[]) ∧ W.cell? ⟨sb, 56, none⟩ = some (.int .i64 0) ∧ W.cell? ⟨sb, 57, none⟩ = some (.int .i64 100) ∧ W.cell? ⟨sb, 58, none⟩ = some (.bool false) ∧ W.cell? ⟨sb, 59, none⟩ = some (.bool false)) (by kernel_rfl) (unhide HSS _ (Below.refl _ _).drew) (fun hHeld => ?_)
  refine takeAt 0 (some 18) (v := ?v0a) (by decide) rfl (by kernel_rfl) (by kernel_rfl) (by kernel_rfl) (fun _ _ _ h => h) (by rfl) ?hy0a hHeld ?r0a
  case hy0a => (intro wx hSw; obtain ⟨s0, s1, s2, s3, s4, s5⟩ := hSw; go_simp; with_reducible rfl)
  simp only [Act.put, List.setIfInBounds_toArray, List.set_cons_zero, List.set_cons_succ]
  refine takeAt 1 (some 19) (v := ?v1a) (by decide) rfl (by kernel_rfl) (by kernel_rfl) (by kernel_rfl) (fun _ _ _ h => h) (by rfl) ?hy1a hHeld ?r1a
  case hy1a => (intro wx hSw; obtain ⟨s0, s1, s2, s3, s4, s5⟩ := hSw; go_simp; with_reducible rfl)
  simp only [Act.put, List.setIfInBounds_toArray, List.set_cons_zero, List.set_cons_succ]
  refine takeAt 2 (some 20) (v := ?v2a) (by decide) rfl (by kernel_rfl) (by kernel_rfl) (by kernel_rfl) (fun _ _ _ h => h) (by rfl) ?hy2a hHeld ?r2a
  case hy2a => (intro wx hSw; obtain ⟨s0, s1, s2, s3, s4, s5⟩ := hSw; go_simp; with_reducible rfl)
  simp only [Act.put, List.setIfInBounds_toArray, List.set_cons_zero, List.set_cons_succ]
  refine takeAt 3 (some 21) (v := ?v3a) (by decide) rfl (by kernel_rfl) (by kernel_rfl) (by kernel_rfl) (fun _ _ _ h => h) (by rfl) ?hy3a hHeld ?r3a
  case hy3a => (intro wx hSw; obtain ⟨s0, s1, s2, s3, s4, s5⟩ := hSw; go_simp; with_reducible rfl)
  simp only [Act.put, List.setIfInBounds_toArray, List.set_cons_zero, List.set_cons_succ]
  refine takeAt 4 (some 22) (v := ?v4a) (by decide) rfl (by kernel_rfl) (by kernel_rfl) (by kernel_rfl) (fun _ _ _ h => h) (by rfl) ?hy4a hHeld ?r4a
  case hy4a => (intro wx hSw; obtain ⟨s0, s1, s2, s3, s4, s5⟩ := hSw; go_simp; with_reducible rfl)
  simp only [Act.put, List.setIfInBounds_toArray, List.set_cons_zero, List.set_cons_succ]
  refine takeAt 5 (some 23) (v := ?v5a) (by decide) rfl (by kernel_rfl) (by kernel_rfl) (by kernel_rfl) (fun _ _ _ h => h) (by rfl) ?hy5a hHeld ?r5a
  case hy5a => (intro wx hSw; obtain ⟨s0, s1, s2, s3, s4, s5⟩ := hSw; go_simp; with_reducible rfl)
  simp only [Act.put, List.setIfInBounds_toArray, List.set_cons_zero, List.set_cons_succ]
  refine takeAt 6 (some 24) (v := ?v6a) (by decide) rfl (by kernel_rfl) (by kernel_rfl) (by kernel_rfl) (fun _ _ _ h => h) (by rfl) ?hy6a hHeld ?r6a
  case hy6a => (intro wx hSw; obtain ⟨s0, s1, s2, s3, s4, s5⟩ := hSw; go_simp; with_reducible rfl)
  simp only [Act.put, List.setIfInBounds_toArray, List.set_cons_zero, List.set_cons_succ]
  refine wpAnyH_ready (rs := [7]) (by kernel_rfl) (by simp) ?_
  refine AllReadyH.cons rfl (fun KK hK => ?_) AllReadyH.nil
  go_simp
  have hba : Below w1.heap.size w1 (w1.alloc (.cells #[.nilFunc, .int .i64 0, .int .i64 0, .bool false, .bool false] 173)).drew := (below_new w1 _).drew
  refine hK.out _ _ (unhide HSS _ hba) (fun hHeld => ?_)
  clear hK KK hba
  try simp only [Act.put, List.setIfInBounds_toArray, List.getElem_toArray, List.getElem_cons_succ, List.getElem_cons_zero, List.set_cons_zero, List.set_cons_succ]
  refine wpAnyH_ready (rs := [8]) (by kernel_rfl) (by simp) ?_
  refine AllReadyH.cons rfl (fun KK hK => ?_) AllReadyH.nil
  go_simp
  have hb2 : Below w1.heap.size w1 (w1.alloc (.cells #[.func (.func 111) #[.pointer (some ⟨sb, 0, none⟩)] #[], .int .i64 0, .int .i64 100, .bool false, .bool false] 173)).drew := (below_new w1 _).drew
  have HX2 : Hid ((w1.alloc (.cells #[.func (.func 111) #[.pointer (some ⟨sb, 0, none⟩)] #[], .int .i64 0, .int .i64 100, .bool false, .bool false] 173)).drew.heap[w1.heap.size]? = some (.cells #[.func (.func 111) #[.pointer (some ⟨sb, 0, none⟩)] #[], .int .i64 0, .int .i64 100, .bool false, .bool false] 173 (0, 0))) := hide (heap_alloc_new w1 _)
  rw [sz1] at HX2
  refine hK.out _ _ (unhide HSS _ hb2) (fun hHeld => ?_)
  clear hK KK hHeld
  try simp only [Act.put, List.setIfInBounds_toArray, List.getElem_toArray, List.getElem_cons_succ, List.getElem_cons_zero, List.set_cons_zero, List.set_cons_succ]
  refine wpAnyH_done (by kernel_rfl) ?_ _
  generalize hW2 : (w1.alloc (.cells #[.func (.func 111) #[.pointer (some ⟨sb, 0, none⟩)] #[], .int .i64 0, .int .i64 100, .bool false, .bool false] 173)).drew = w2 at hb2 HX2 ⊢
  clear hW2
  have A2 := hide ((unhide A1).go hb2)
  have HL2 := hide ((unhide H1).below hb2)
  have HB2 := hide ((unhide HB1).trans (hb2.mono (unhide HB1).size))
  clear hb2 A1 H1 HSS
  have e0 : w2.cell? ⟨w.heap.size + 2, 0, none⟩ = some (.func (.func 111) #[.pointer (some ⟨sb, 0, none⟩)] #[]) := by rw [cell_of_row w2 _ 0 _ _ _ (unhide HX2)]; rfl
  have e1 : w2.cell? ⟨w.heap.size + 2, 1, none⟩ = some (.int .i64 0) := by rw [cell_of_row w2 _ 1 _ _ _ (unhide HX2)]; rfl
  have e2 : w2.cell? ⟨w.heap.size + 2, 2, none⟩ = some (.int .i64 100) := by rw [cell_of_row w2 _ 2 _ _ _ (unhide HX2)]; rfl
  have e3 : w2.cell? ⟨w.heap.size + 2, 3, none⟩ = some (.bool false) := by rw [cell_of_row w2 _ 3 _ _ _ (unhide HX2)]; rfl
  have e4 : w2.cell? ⟨w.heap.size + 2, 4, none⟩ = some (.bool false) := by rw [cell_of_row w2 _ 4 _ _ _ (unhide HX2)]; rfl
  have a0 : w2.cell? ⟨w.heap.size, 0, none⟩ = some (.int .i64 10) := by rw [cell_of_row w2 _ 0 _ _ _ (unhide A2).ak]; rfl
  have a1 : w2.cell? ⟨w.heap.size, 1, none⟩ = some (.int .i64 nn) := (unhide A2).a1
  have a2 : w2.cell? ⟨w.heap.size, 2, none⟩ = some (.string name) := (unhide A2).a2
  have a3 : w2.cell? ⟨w.heap.size, 3, none⟩ = some (.int .i64 kd) := (unhide A2).a3
  have a4 : w2.cell? ⟨w.heap.size, 4, none⟩ = some (.int .i64 fn) := (unhide A2).a4
  have a5 : w2.cell? ⟨w.heap.size, 5, none⟩ = some (.int .i64 line) := (unhide A2).a5
  have a6 : w2.cell? ⟨w.heap.size, 6, none⟩ = some (.string sn) := (unhide A2).a6
  go_wp2_with fail
  refine (takes_any _ _ _ 10 nn name kd fn line sn _ (unhide HZ) (unhide HZS)).mono ?_
  rintro e w3 ⟨⟨b, rfl, hbT⟩, hb3⟩
  clear e0 e1 e2 e3 e4 a0 a1 a2 a3 a4 a5 a6
  have A3 := hide ((unhide A2).go hb3)
  have HL3 := hide ((unhide HL2).below hb3)
  have HX3 := hide ((hb3.block _ (heap_ltx (unhide HX2))).trans (unhide HX2))
  have HB3 := hide ((unhide HB2).trans (hb3.mono (unhide HB2).size))
  clear hb3 A2 HL2 HX2
  cases b with
  | false =>
    have hN : ¬ OkAsk (⟨10, nn, name, ⟨kd, fn, line, sn⟩⟩ : Ak) := fun hO => by
      refine absurd (hbT.2 ?_) (by decide)
      have h := okAsk10.1 hO; exact ⟨h.1.1, h.1.2, (by rw [if_neg (by simp)]; exact h.2.2), (by rw [if_neg (by simp)]; exact h.2.1)⟩
    have HN := hide hN
    clear hN hbT
    obtain ⟨⟨r0, r1, r2, r3, r4, r5⟩, x0, x1, x2, x3, x4, x5⟩ := (unhide A3).rc
    go_wp2
    refine bodyPost_ret (v := .tuple #[.agg #[.int .i64 0, .int .i64 0, .int .i64 0, .string ⟨#[]⟩, .slice none 0 0, .slice none 0 0], .iface 180 (.agg #[.int .i64 1])]) (by simp [results, Tryz.results115, go_sem, r0, r1, r2, r3, r4, r5]) rfl ?_
    exact dsay_end (AskIs.notOk (unhide HN)) (.inr ⟨rfl, by show (1 : Int) ≠ 0; omega, rfl⟩) (unhide HL3) (unhide A3) (frs_nil _ _) (VsAt.nil _ _) ((unhide HB3).mono hB) (Same.of_below (unhide HB3)) hB
  | true =>
    have hT := hbT.1 rfl
    have HO : Hid (OkAsk (⟨10, nn, name, ⟨kd, fn, line, sn⟩⟩ : Ak)) := hide (okAsk10.2 ⟨⟨hT.1, hT.2.1⟩, (by have q := hT.2.2.2; rwa [if_neg (by simp)] at q), (by have q := hT.2.2.1; rwa [if_neg (by simp)] at q)⟩)
    clear hbT hT
    have e0 : w3.cell? ⟨w.heap.size + 2, 0, none⟩ = some (.func (.func 111) #[.pointer (some ⟨sb, 0, none⟩)] #[]) := by rw [cell_of_row w3 _ 0 _ _ _ (unhide HX3)]; rfl
    have a0 : w3.cell? ⟨w.heap.size, 0, none⟩ = some (.int .i64 10) := by rw [cell_of_row w3 _ 0 _ _ _ (unhide A3).ak]; rfl
    have a1 : w3.cell? ⟨w.heap.size, 1, none⟩ = some (.int .i64 nn) := (unhide A3).a1
    have a2 : w3.cell? ⟨w.heap.size, 2, none⟩ = some (.string name) := (unhide A3).a2
    have a3 : w3.cell? ⟨w.heap.size, 3, none⟩ = some (.int .i64 kd) := (unhide A3).a3
    have a4 : w3.cell? ⟨w.heap.size, 4, none⟩ = some (.int .i64 fn) := (unhide A3).a4
    have a5 : w3.cell? ⟨w.heap.size, 5, none⟩ = some (.int .i64 line) := (unhide A3).a5
    have a6 : w3.cell? ⟨w.heap.size, 6, none⟩ = some (.string sn) := (unhide A3).a6
    go_wp2_with fail
    refine (where_any B sb lo lp mv pv tv uv D nf fns n f s nn name kd fn line sn w3 (unhide HL3) (fun W hb => unhide H2 W (((unhide HB3).mono hB).trans hb)) (fun W hb => unhide HP W (((unhide HB3).mono hB).trans hb)) (unhide HS) (unhide HOK) (unhide HPL) (Nat.le_trans hB (unhide HB3).size) (unhide HO)).mono ?_
    rintro e w4 ⟨s', d, m, t, v5, v6, er, rfl, hI, hd, ⟨tv', uv', hL4⟩, h5, h6, hb4, hk4⟩
    clear e0 a0 a1 a2 a3 a4 a5 a6
    obtain ⟨va, vc, rfl⟩ := owns_slice h5
    obtain ⟨ua, uc, rfl⟩ := owns_slice h6.row
    generalize hx : d.fr.length = ln5 at h5
    generalize hy : d.vs.length = ln6 at h6
    clear hx hy
    have A4 := hide ((unhide A3).same hk4)
    have H5 : Hid (FrsAt w.heap.size w4 (.slice va ln5 vc) d.fr) := hide (owns_low h5 (unhide HB3).size)
    have H6 : Hid (VsAt w.heap.size w4 (.slice ua ln6 uc) d.vs) := hide (h6.low (unhide HB3).size)
    have HB4 : Hid (Below B w w4) := hide (((unhide HB3).mono hB).trans hb4)
    have HK4 : Hid (Same KindS w w4) := hide ((Same.of_below (unhide HB3)).trans hk4)
    have HL4 := hide hL4
    have HI := hide hI
    have HD := hide hd
    clear hL4 h5 h6 hb4 hk4 hI hd
    obtain ⟨⟨r0, r1, r2, r3, r4, r5⟩, x0, x1, x2, x3, x4, x5⟩ := (unhide A4).rc
    go_wp2
    refine bodyPost_ret (v := .tuple #[.agg #[.int .i64 0, .int .i64 0, .int .i64 m, .string t, .slice va ln5 vc, .slice ua ln6 uc], er]) (by simp [results, Tryz.results115, go_sem, r0, r1, r2, r3, r4, r5]) rfl ?_
    exact dsay_end (unhide HI) (unhide HD) (unhide HL4) (unhide A4) (unhide H5) (unhide H6) (unhide HB4) (unhide HK4) hB

set_option maxRecDepth 100000 in
set_option maxHeartbeats 4000000 in
theorem try11_any (B sb lo lp : Nat) (mv pv tv uv : Value) (D : Nat → Value) (nf : Nat) (fns : Nat → ByteArray) (n : Nat) (f : Nat → M) (s : LS) (nn : Int) (name : ByteArray) (kd fn line : Int) (sn : ByteArray) (w : World) (h : SS B w sb mv pv n f s tv uv D) (h2 : ∀ W, Below B w W → MomsAt lo W mv n f) (hp : ∀ W, Below B w W → PlacesAt lp W pv n f) (hs : Sound nf fns n f) (hok : LsOk n s) (hpl : s.past.length ≤ 10000) (hB : B ≤ w.heap.size) (hz : name.size ≤ maxLen) (hzs : sn.size ≤ maxLen) (d0 : D 60 = .func (.func 112) #[.pointer (some ⟨sb, 0, none⟩)] #[]) (d1 : D 61 = .int .i64 0) (d2 : D 62 = .int .i64 0) (d3 : D 63 = .bool false) (d4 : D 64 = .bool false) :
    Calls Tryz.prog 115 #[.pointer (some ⟨sb, 0, none⟩), .agg #[.int .i64 11, .int .i64 nn, .string name, .int .i64 kd, .int .i64 fn, .int .i64 line, .string sn]] w fun e w' => DSay B sb mv pv n f D s (⟨11, nn, name, ⟨kd, fn, line, sn⟩⟩ : Ak) w e w' := by
  have H := hide h
  have H2 := hide h2
  have HP := hide hp
  have HS := hide hs
  have HOK := hide hok
  have HPL := hide hpl
  have HZ := hide hz
  have HZS := hide hzs
  have A1 := hide (DB.new w (⟨11, nn, name, ⟨kd, fn, line, sn⟩⟩ : Ak))
  have HB1 : Hid (Below w.heap.size w ((w.alloc (.cells #[.int .i64 11, .int .i64 nn, .string name, .int .i64 kd, .int .i64 fn, .int .i64 line, .string sn] 47)).alloc (.cells #[.int .i64 0, .int .i64 0, .int .i64 0, .string ⟨#[]⟩, .slice none 0 0, .slice none 0 0] 38))) := hide ((below_new w (.cells #[.int .i64 11, .int .i64 nn, .string name, .int .i64 kd, .int .i64 fn, .int .i64 line, .string sn] 47)).alloc (by simp) (.cells #[.int .i64 0, .int .i64 0, .int .i64 0, .string ⟨#[]⟩, .slice none 0 0, .slice none 0 0] 38))
  have H1 := hide ((unhide H).below (unhide HB1))
  have hlt := (unhide H).lt
  clear h h2 hp hs hok hpl hz hzs
  go_enter Tryz.func115, Tryz.ntmps115
  go_upto_region 3 with fail
  obtain ⟨w1, hw1⟩ : ∃ w1, w1 = ((w.alloc (.cells #[.int .i64 11, .int .i64 nn, .string name, .int .i64 kd, .int .i64 fn, .int .i64 line, .string sn] 47)).alloc (.cells #[.int .i64 0, .int .i64 0, .int .i64 0, .string ⟨#[]⟩, .slice none 0 0, .slice none 0 0] 38)) := ⟨_, rfl⟩
  have sz1 : w1.heap.size = w.heap.size + 2 := by rw [hw1]; simp
  rw [← hw1] at A1 HB1 H1 ⊢
  clear hw1
  have HSS : Hid (∀ W, Below w1.heap.size w1 W → W.cell? ⟨w.heap.size, 0, none⟩ = some (.int .i64 11) ∧ W.cell? ⟨sb, 60, none⟩ = some (.func (.func 112) #[.pointer (some ⟨sb, 0, none⟩)] #[]) ∧ W.cell? ⟨sb, 61, none⟩ = some (.int .i64 0) ∧ W.cell? ⟨sb, 62, none⟩ = some (.int .i64 0) ∧ W.cell? ⟨sb, 63, none⟩ = some (.bool false) ∧ W.cell? ⟨sb, 64, none⟩ = some (.bool false)) := hide (by
    intro W hb
    have ha := ((unhide A1).go hb).ak
    have hx := ((unhide H1).below hb).box
    exact ⟨by rw [cell_of_row W _ 0 _ _ _ ha]; rfl, by rw [← d0]; exact hx.cd _ (by omega) (by omega), by rw [← d1]; exact hx.cd _ (by omega) (by omega), by rw [← d2]; exact hx.cd _ (by omega) (by omega), by rw [← d3]; exact hx.cd _ (by omega) (by omega), by rw [← d4]; exact hx.cd _ (by omega) (by omega)⟩)
  clear d0 d1 d2 d3 d4
  refine wp_region_held_drew (S := fun W => W.cell? ⟨w.heap.size, 0, none⟩ = some (.int .i64 11) ∧ W.cell? ⟨sb, 60, none⟩ = some (.func (.func 112) #[.pointer (some ⟨sb, 0, none⟩)] #[]) ∧ W.cell? ⟨sb, 61, none⟩ = some (.int .i64 0) ∧ W.cell? ⟨sb, 62, none⟩ = some (.int .i64 0) ∧ W.cell? ⟨sb, 63, none⟩ = some (.bool false) ∧ W.cell? ⟨sb, 64, none⟩ = some (.bool false)) (by kernel_rfl) (unhide HSS _ (Below.refl _ _).drew) (fun hHeld => ?_)
  refine takeAt 0 (some 18) (v := ?v0a) (by decide) rfl (by kernel_rfl) (by kernel_rfl) (by kernel_rfl) (fun _ _ _ h => h) (by rfl) ?hy0a hHeld ?r0a
  case hy0a => (intro wx hSw; obtain ⟨s0, s1, s2, s3, s4, s5⟩ := hSw; go_simp; with_reducible rfl)
  simp only [Act.put, List.setIfInBounds_toArray, List.set_cons_zero, List.set_cons_succ]
  refine takeAt 1 (some 19) (v := ?v1a) (by decide) rfl (by kernel_rfl) (by kernel_rfl) (by kernel_rfl) (fun _ _ _ h => h) (by rfl) ?hy1a hHeld ?r1a
  case hy1a => (intro wx hSw; obtain ⟨s0, s1, s2, s3, s4, s5⟩ := hSw; go_simp; with_reducible rfl)
  simp only [Act.put, List.setIfInBounds_toArray, List.set_cons_zero, List.set_cons_succ]
  refine takeAt 2 (some 20) (v := ?v2a) (by decide) rfl (by kernel_rfl) (by kernel_rfl) (by kernel_rfl) (fun _ _ _ h => h) (by rfl) ?hy2a hHeld ?r2a
  case hy2a => (intro wx hSw; obtain ⟨s0, s1, s2, s3, s4, s5⟩ := hSw; go_simp; with_reducible rfl)
  simp only [Act.put, List.setIfInBounds_toArray, List.set_cons_zero, List.set_cons_succ]
  refine takeAt 3 (some 21) (v := ?v3a) (by decide) rfl (by kernel_rfl) (by kernel_rfl) (by kernel_rfl) (fun _ _ _ h => h) (by rfl) ?hy3a hHeld ?r3a
  case hy3a => (intro wx hSw; obtain ⟨s0, s1, s2, s3, s4, s5⟩ := hSw; go_simp; with_reducible rfl)
  simp only [Act.put, List.setIfInBounds_toArray, List.set_cons_zero, List.set_cons_succ]
  refine takeAt 4 (some 22) (v := ?v4a) (by decide) rfl (by kernel_rfl) (by kernel_rfl) (by kernel_rfl) (fun _ _ _ h => h) (by rfl) ?hy4a hHeld ?r4a
  case hy4a => (intro wx hSw; obtain ⟨s0, s1, s2, s3, s4, s5⟩ := hSw; go_simp; with_reducible rfl)
  simp only [Act.put, List.setIfInBounds_toArray, List.set_cons_zero, List.set_cons_succ]
  refine takeAt 5 (some 23) (v := ?v5a) (by decide) rfl (by kernel_rfl) (by kernel_rfl) (by kernel_rfl) (fun _ _ _ h => h) (by rfl) ?hy5a hHeld ?r5a
  case hy5a => (intro wx hSw; obtain ⟨s0, s1, s2, s3, s4, s5⟩ := hSw; go_simp; with_reducible rfl)
  simp only [Act.put, List.setIfInBounds_toArray, List.set_cons_zero, List.set_cons_succ]
  refine takeAt 6 (some 24) (v := ?v6a) (by decide) rfl (by kernel_rfl) (by kernel_rfl) (by kernel_rfl) (fun _ _ _ h => h) (by rfl) ?hy6a hHeld ?r6a
  case hy6a => (intro wx hSw; obtain ⟨s0, s1, s2, s3, s4, s5⟩ := hSw; go_simp; with_reducible rfl)
  simp only [Act.put, List.setIfInBounds_toArray, List.set_cons_zero, List.set_cons_succ]
  refine wpAnyH_ready (rs := [7]) (by kernel_rfl) (by simp) ?_
  refine AllReadyH.cons rfl (fun KK hK => ?_) AllReadyH.nil
  go_simp
  have hba : Below w1.heap.size w1 (w1.alloc (.cells #[.nilFunc, .int .i64 0, .int .i64 0, .bool false, .bool false] 173)).drew := (below_new w1 _).drew
  refine hK.out _ _ (unhide HSS _ hba) (fun hHeld => ?_)
  clear hK KK hba
  try simp only [Act.put, List.setIfInBounds_toArray, List.getElem_toArray, List.getElem_cons_succ, List.getElem_cons_zero, List.set_cons_zero, List.set_cons_succ]
  refine wpAnyH_ready (rs := [8]) (by kernel_rfl) (by simp) ?_
  refine AllReadyH.cons rfl (fun KK hK => ?_) AllReadyH.nil
  go_simp
  have hb2 : Below w1.heap.size w1 (w1.alloc (.cells #[.func (.func 112) #[.pointer (some ⟨sb, 0, none⟩)] #[], .int .i64 0, .int .i64 0, .bool false, .bool false] 173)).drew := (below_new w1 _).drew
  have HX2 : Hid ((w1.alloc (.cells #[.func (.func 112) #[.pointer (some ⟨sb, 0, none⟩)] #[], .int .i64 0, .int .i64 0, .bool false, .bool false] 173)).drew.heap[w1.heap.size]? = some (.cells #[.func (.func 112) #[.pointer (some ⟨sb, 0, none⟩)] #[], .int .i64 0, .int .i64 0, .bool false, .bool false] 173 (0, 0))) := hide (heap_alloc_new w1 _)
  rw [sz1] at HX2
  refine hK.out _ _ (unhide HSS _ hb2) (fun hHeld => ?_)
  clear hK KK hHeld
  try simp only [Act.put, List.setIfInBounds_toArray, List.getElem_toArray, List.getElem_cons_succ, List.getElem_cons_zero, List.set_cons_zero, List.set_cons_succ]
  refine wpAnyH_done (by kernel_rfl) ?_ _
  generalize hW2 : (w1.alloc (.cells #[.func (.func 112) #[.pointer (some ⟨sb, 0, none⟩)] #[], .int .i64 0, .int .i64 0, .bool false, .bool false] 173)).drew = w2 at hb2 HX2 ⊢
  clear hW2
  have A2 := hide ((unhide A1).go hb2)
  have HL2 := hide ((unhide H1).below hb2)
  have HB2 := hide ((unhide HB1).trans (hb2.mono (unhide HB1).size))
  clear hb2 A1 H1 HSS
  have e0 : w2.cell? ⟨w.heap.size + 2, 0, none⟩ = some (.func (.func 112) #[.pointer (some ⟨sb, 0, none⟩)] #[]) := by rw [cell_of_row w2 _ 0 _ _ _ (unhide HX2)]; rfl
  have e1 : w2.cell? ⟨w.heap.size + 2, 1, none⟩ = some (.int .i64 0) := by rw [cell_of_row w2 _ 1 _ _ _ (unhide HX2)]; rfl
  have e2 : w2.cell? ⟨w.heap.size + 2, 2, none⟩ = some (.int .i64 0) := by rw [cell_of_row w2 _ 2 _ _ _ (unhide HX2)]; rfl
  have e3 : w2.cell? ⟨w.heap.size + 2, 3, none⟩ = some (.bool false) := by rw [cell_of_row w2 _ 3 _ _ _ (unhide HX2)]; rfl
  have e4 : w2.cell? ⟨w.heap.size + 2, 4, none⟩ = some (.bool false) := by rw [cell_of_row w2 _ 4 _ _ _ (unhide HX2)]; rfl
  have a0 : w2.cell? ⟨w.heap.size, 0, none⟩ = some (.int .i64 11) := by rw [cell_of_row w2 _ 0 _ _ _ (unhide A2).ak]; rfl
  have a1 : w2.cell? ⟨w.heap.size, 1, none⟩ = some (.int .i64 nn) := (unhide A2).a1
  have a2 : w2.cell? ⟨w.heap.size, 2, none⟩ = some (.string name) := (unhide A2).a2
  have a3 : w2.cell? ⟨w.heap.size, 3, none⟩ = some (.int .i64 kd) := (unhide A2).a3
  have a4 : w2.cell? ⟨w.heap.size, 4, none⟩ = some (.int .i64 fn) := (unhide A2).a4
  have a5 : w2.cell? ⟨w.heap.size, 5, none⟩ = some (.int .i64 line) := (unhide A2).a5
  have a6 : w2.cell? ⟨w.heap.size, 6, none⟩ = some (.string sn) := (unhide A2).a6
  go_wp2_with fail
  refine (takes_any _ _ _ 11 nn name kd fn line sn _ (unhide HZ) (unhide HZS)).mono ?_
  rintro e w3 ⟨⟨b, rfl, hbT⟩, hb3⟩
  clear e0 e1 e2 e3 e4 a0 a1 a2 a3 a4 a5 a6
  have A3 := hide ((unhide A2).go hb3)
  have HL3 := hide ((unhide HL2).below hb3)
  have HX3 := hide ((hb3.block _ (heap_ltx (unhide HX2))).trans (unhide HX2))
  have HB3 := hide ((unhide HB2).trans (hb3.mono (unhide HB2).size))
  clear hb3 A2 HL2 HX2
  cases b with
  | false =>
    have hN : ¬ OkAsk (⟨11, nn, name, ⟨kd, fn, line, sn⟩⟩ : Ak) := fun hO => by
      refine absurd (hbT.2 ?_) (by decide)
      have h := (okAsk3 (by omega)).1 hO; exact ⟨Int.le_of_eq h.1.symm, Int.le_of_eq h.1, (by rw [if_neg (by simp)]; exact h.2.2), (by rw [if_neg (by simp)]; exact h.2.1)⟩
    have HN := hide hN
    clear hN hbT
    obtain ⟨⟨r0, r1, r2, r3, r4, r5⟩, x0, x1, x2, x3, x4, x5⟩ := (unhide A3).rc
    go_wp2
    refine bodyPost_ret (v := .tuple #[.agg #[.int .i64 0, .int .i64 0, .int .i64 0, .string ⟨#[]⟩, .slice none 0 0, .slice none 0 0], .iface 180 (.agg #[.int .i64 1])]) (by simp [results, Tryz.results115, go_sem, r0, r1, r2, r3, r4, r5]) rfl ?_
    exact dsay_end (AskIs.notOk (unhide HN)) (.inr ⟨rfl, by show (1 : Int) ≠ 0; omega, rfl⟩) (unhide HL3) (unhide A3) (frs_nil _ _) (VsAt.nil _ _) ((unhide HB3).mono hB) (Same.of_below (unhide HB3)) hB
  | true =>
    have hT := hbT.1 rfl
    have HO : Hid (OkAsk (⟨11, nn, name, ⟨kd, fn, line, sn⟩⟩ : Ak)) := hide ((okAsk3 (by omega)).2 ⟨(Int.le_antisymm hT.2.1 hT.1), (by have q := hT.2.2.2; rwa [if_neg (by simp)] at q), (by have q := hT.2.2.1; rwa [if_neg (by simp)] at q)⟩)
    clear hbT hT
    have e0 : w3.cell? ⟨w.heap.size + 2, 0, none⟩ = some (.func (.func 112) #[.pointer (some ⟨sb, 0, none⟩)] #[]) := by rw [cell_of_row w3 _ 0 _ _ _ (unhide HX3)]; rfl
    have a0 : w3.cell? ⟨w.heap.size, 0, none⟩ = some (.int .i64 11) := by rw [cell_of_row w3 _ 0 _ _ _ (unhide A3).ak]; rfl
    have a1 : w3.cell? ⟨w.heap.size, 1, none⟩ = some (.int .i64 nn) := (unhide A3).a1
    have a2 : w3.cell? ⟨w.heap.size, 2, none⟩ = some (.string name) := (unhide A3).a2
    have a3 : w3.cell? ⟨w.heap.size, 3, none⟩ = some (.int .i64 kd) := (unhide A3).a3
    have a4 : w3.cell? ⟨w.heap.size, 4, none⟩ = some (.int .i64 fn) := (unhide A3).a4
    have a5 : w3.cell? ⟨w.heap.size, 5, none⟩ = some (.int .i64 line) := (unhide A3).a5
    have a6 : w3.cell? ⟨w.heap.size, 6, none⟩ = some (.string sn) := (unhide A3).a6
    go_wp2_with fail
    refine (tellVars_any B sb lo lp mv pv tv uv D nf fns n f s nn name kd fn line sn w3 (unhide HL3) (fun W hb => unhide H2 W (((unhide HB3).mono hB).trans hb)) (fun W hb => unhide HP W (((unhide HB3).mono hB).trans hb)) (unhide HS) (unhide HOK) (unhide HPL) (Nat.le_trans hB (unhide HB3).size) (unhide HO)).mono ?_
    rintro e w4 ⟨s', d, m, t, v5, v6, er, rfl, hI, hd, ⟨tv', uv', hL4⟩, h5, h6, hb4, hk4⟩
    clear e0 a0 a1 a2 a3 a4 a5 a6
    obtain ⟨va, vc, rfl⟩ := owns_slice h5
    obtain ⟨ua, uc, rfl⟩ := owns_slice h6.row
    generalize hx : d.fr.length = ln5 at h5
    generalize hy : d.vs.length = ln6 at h6
    clear hx hy
    have A4 := hide ((unhide A3).same hk4)
    have H5 : Hid (FrsAt w.heap.size w4 (.slice va ln5 vc) d.fr) := hide (owns_low h5 (unhide HB3).size)
    have H6 : Hid (VsAt w.heap.size w4 (.slice ua ln6 uc) d.vs) := hide (h6.low (unhide HB3).size)
    have HB4 : Hid (Below B w w4) := hide (((unhide HB3).mono hB).trans hb4)
    have HK4 : Hid (Same KindS w w4) := hide ((Same.of_below (unhide HB3)).trans hk4)
    have HL4 := hide hL4
    have HI := hide hI
    have HD := hide hd
    clear hL4 h5 h6 hb4 hk4 hI hd
    obtain ⟨⟨r0, r1, r2, r3, r4, r5⟩, x0, x1, x2, x3, x4, x5⟩ := (unhide A4).rc
    go_wp2
    refine bodyPost_ret (v := .tuple #[.agg #[.int .i64 0, .int .i64 0, .int .i64 m, .string t, .slice va ln5 vc, .slice ua ln6 uc], er]) (by simp [results, Tryz.results115, go_sem, r0, r1, r2, r3, r4, r5]) rfl ?_
    exact dsay_end (unhide HI) (unhide HD) (unhide HL4) (unhide A4) (unhide H5) (unhide H6) (unhide HB4) (unhide HK4) hB

set_option maxRecDepth 100000 in
set_option maxHeartbeats 4000000 in
theorem try12_any (B sb lo lp : Nat) (mv pv tv uv : Value) (D : Nat → Value) (nf : Nat) (fns : Nat → ByteArray) (n : Nat) (f : Nat → M) (s : LS) (nn : Int) (name : ByteArray) (kd fn line : Int) (sn : ByteArray) (w : World) (h : SS B w sb mv pv n f s tv uv D) (h2 : ∀ W, Below B w W → MomsAt lo W mv n f) (hp : ∀ W, Below B w W → PlacesAt lp W pv n f) (hs : Sound nf fns n f) (hok : LsOk n s) (hpl : s.past.length ≤ 10000) (hB : B ≤ w.heap.size) (hz : name.size ≤ maxLen) (hzs : sn.size ≤ maxLen) (d0 : D 65 = .func (.func 113) #[.pointer (some ⟨sb, 0, none⟩)] #[]) (d1 : D 66 = .int .i64 0) (d2 : D 67 = .int .i64 0) (d3 : D 68 = .bool true) (d4 : D 69 = .bool false) :
    Calls Tryz.prog 115 #[.pointer (some ⟨sb, 0, none⟩), .agg #[.int .i64 12, .int .i64 nn, .string name, .int .i64 kd, .int .i64 fn, .int .i64 line, .string sn]] w fun e w' => DSay B sb mv pv n f D s (⟨12, nn, name, ⟨kd, fn, line, sn⟩⟩ : Ak) w e w' := by
  have H := hide h
  have H2 := hide h2
  have HP := hide hp
  have HS := hide hs
  have HOK := hide hok
  have HPL := hide hpl
  have HZ := hide hz
  have HZS := hide hzs
  have A1 := hide (DB.new w (⟨12, nn, name, ⟨kd, fn, line, sn⟩⟩ : Ak))
  have HB1 : Hid (Below w.heap.size w ((w.alloc (.cells #[.int .i64 12, .int .i64 nn, .string name, .int .i64 kd, .int .i64 fn, .int .i64 line, .string sn] 47)).alloc (.cells #[.int .i64 0, .int .i64 0, .int .i64 0, .string ⟨#[]⟩, .slice none 0 0, .slice none 0 0] 38))) := hide ((below_new w (.cells #[.int .i64 12, .int .i64 nn, .string name, .int .i64 kd, .int .i64 fn, .int .i64 line, .string sn] 47)).alloc (by simp) (.cells #[.int .i64 0, .int .i64 0, .int .i64 0, .string ⟨#[]⟩, .slice none 0 0, .slice none 0 0] 38))
  have H1 := hide ((unhide H).below (unhide HB1))
  have hlt := (unhide H).lt
  clear h h2 hp hs hok hpl hz hzs
  go_enter Tryz.func115, Tryz.ntmps115
  go_upto_region 3 with fail
  obtain ⟨w1, hw1⟩ : ∃ w1, w1 = ((w.alloc (.cells #[.int .i64 12, .int .i64 nn, .string name, .int .i64 kd, .int .i64 fn, .int .i64 line, .string sn] 47)).alloc (.cells #[.int .i64 0, .int .i64 0, .int .i64 0, .string ⟨#[]⟩, .slice none 0 0, .slice none 0 0] 38)) := ⟨_, rfl⟩
  have sz1 : w1.heap.size = w.heap.size + 2 := by rw [hw1]; simp
  rw [← hw1] at A1 HB1 H1 ⊢
  clear hw1
  have HSS : Hid (∀ W, Below w1.heap.size w1 W → W.cell? ⟨w.heap.size, 0, none⟩ = some (.int .i64 12) ∧ W.cell? ⟨sb, 65, none⟩ = some (.func (.func 113) #[.pointer (some ⟨sb, 0, none⟩)] #[]) ∧ W.cell? ⟨sb, 66, none⟩ = some (.int .i64 0) ∧ W.cell? ⟨sb, 67, none⟩ = some (.int .i64 0) ∧ W.cell? ⟨sb, 68, none⟩ = some (.bool true) ∧ W.cell? ⟨sb, 69, none⟩ = some (.bool false)) := hide (by
    intro W hb
    have ha := ((unhide A1).go hb).ak
    have hx := ((unhide H1).below hb).box
    exact ⟨by rw [cell_of_row W _ 0 _ _ _ ha]; rfl, by rw [← d0]; exact hx.cd _ (by omega) (by omega), by rw [← d1]; exact hx.cd _ (by omega) (by omega), by rw [← d2]; exact hx.cd _ (by omega) (by omega), by rw [← d3]; exact hx.cd _ (by omega) (by omega), by rw [← d4]; exact hx.cd _ (by omega) (by omega)⟩)
  clear d0 d1 d2 d3 d4
  refine wp_region_held_drew (S := fun W => W.cell? ⟨w.heap.size, 0, none⟩ = some (.int .i64 12) ∧ W.cell? ⟨sb, 65, none⟩ = some (.func (.func 113) #[.pointer (some ⟨sb, 0, none⟩)] #[]) ∧ W.cell? ⟨sb, 66, none⟩ = some (.int .i64 0) ∧ W.cell? ⟨sb, 67, none⟩ = some (.int .i64 0) ∧ W.cell? ⟨sb, 68, none⟩ = some (.bool true) ∧ W.cell? ⟨sb, 69, none⟩ = some (.bool false)) (by kernel_rfl) (unhide HSS _ (Below.refl _ _).drew) (fun hHeld => ?_)
  refine takeAt 0 (some 18) (v := ?v0a) (by decide) rfl (by kernel_rfl) (by kernel_rfl) (by kernel_rfl) (fun _ _ _ h => h) (by rfl) ?hy0a hHeld ?r0a
  case hy0a => (intro wx hSw; obtain ⟨s0, s1, s2, s3, s4, s5⟩ := hSw; go_simp; with_reducible rfl)
  simp only [Act.put, List.setIfInBounds_toArray, List.set_cons_zero, List.set_cons_succ]
  refine takeAt 1 (some 19) (v := ?v1a) (by decide) rfl (by kernel_rfl) (by kernel_rfl) (by kernel_rfl) (fun _ _ _ h => h) (by rfl) ?hy1a hHeld ?r1a
  case hy1a => (intro wx hSw; obtain ⟨s0, s1, s2, s3, s4, s5⟩ := hSw; go_simp; with_reducible rfl)
  simp only [Act.put, List.setIfInBounds_toArray, List.set_cons_zero, List.set_cons_succ]
  refine takeAt 2 (some 20) (v := ?v2a) (by decide) rfl (by kernel_rfl) (by kernel_rfl) (by kernel_rfl) (fun _ _ _ h => h) (by rfl) ?hy2a hHeld ?r2a
  case hy2a => (intro wx hSw; obtain ⟨s0, s1, s2, s3, s4, s5⟩ := hSw; go_simp; with_reducible rfl)
  simp only [Act.put, List.setIfInBounds_toArray, List.set_cons_zero, List.set_cons_succ]
  refine takeAt 3 (some 21) (v := ?v3a) (by decide) rfl (by kernel_rfl) (by kernel_rfl) (by kernel_rfl) (fun _ _ _ h => h) (by rfl) ?hy3a hHeld ?r3a
  case hy3a => (intro wx hSw; obtain ⟨s0, s1, s2, s3, s4, s5⟩ := hSw; go_simp; with_reducible rfl)
  simp only [Act.put, List.setIfInBounds_toArray, List.set_cons_zero, List.set_cons_succ]
  refine takeAt 4 (some 22) (v := ?v4a) (by decide) rfl (by kernel_rfl) (by kernel_rfl) (by kernel_rfl) (fun _ _ _ h => h) (by rfl) ?hy4a hHeld ?r4a
  case hy4a => (intro wx hSw; obtain ⟨s0, s1, s2, s3, s4, s5⟩ := hSw; go_simp; with_reducible rfl)
  simp only [Act.put, List.setIfInBounds_toArray, List.set_cons_zero, List.set_cons_succ]
  refine takeAt 5 (some 23) (v := ?v5a) (by decide) rfl (by kernel_rfl) (by kernel_rfl) (by kernel_rfl) (fun _ _ _ h => h) (by rfl) ?hy5a hHeld ?r5a
  case hy5a => (intro wx hSw; obtain ⟨s0, s1, s2, s3, s4, s5⟩ := hSw; go_simp; with_reducible rfl)
  simp only [Act.put, List.setIfInBounds_toArray, List.set_cons_zero, List.set_cons_succ]
  refine takeAt 6 (some 24) (v := ?v6a) (by decide) rfl (by kernel_rfl) (by kernel_rfl) (by kernel_rfl) (fun _ _ _ h => h) (by rfl) ?hy6a hHeld ?r6a
  case hy6a => (intro wx hSw; obtain ⟨s0, s1, s2, s3, s4, s5⟩ := hSw; go_simp; with_reducible rfl)
  simp only [Act.put, List.setIfInBounds_toArray, List.set_cons_zero, List.set_cons_succ]
  refine wpAnyH_ready (rs := [7]) (by kernel_rfl) (by simp) ?_
  refine AllReadyH.cons rfl (fun KK hK => ?_) AllReadyH.nil
  go_simp
  have hba : Below w1.heap.size w1 (w1.alloc (.cells #[.nilFunc, .int .i64 0, .int .i64 0, .bool false, .bool false] 173)).drew := (below_new w1 _).drew
  refine hK.out _ _ (unhide HSS _ hba) (fun hHeld => ?_)
  clear hK KK hba
  try simp only [Act.put, List.setIfInBounds_toArray, List.getElem_toArray, List.getElem_cons_succ, List.getElem_cons_zero, List.set_cons_zero, List.set_cons_succ]
  refine wpAnyH_ready (rs := [8]) (by kernel_rfl) (by simp) ?_
  refine AllReadyH.cons rfl (fun KK hK => ?_) AllReadyH.nil
  go_simp
  have hb2 : Below w1.heap.size w1 (w1.alloc (.cells #[.func (.func 113) #[.pointer (some ⟨sb, 0, none⟩)] #[], .int .i64 0, .int .i64 0, .bool true, .bool false] 173)).drew := (below_new w1 _).drew
  have HX2 : Hid ((w1.alloc (.cells #[.func (.func 113) #[.pointer (some ⟨sb, 0, none⟩)] #[], .int .i64 0, .int .i64 0, .bool true, .bool false] 173)).drew.heap[w1.heap.size]? = some (.cells #[.func (.func 113) #[.pointer (some ⟨sb, 0, none⟩)] #[], .int .i64 0, .int .i64 0, .bool true, .bool false] 173 (0, 0))) := hide (heap_alloc_new w1 _)
  rw [sz1] at HX2
  refine hK.out _ _ (unhide HSS _ hb2) (fun hHeld => ?_)
  clear hK KK hHeld
  try simp only [Act.put, List.setIfInBounds_toArray, List.getElem_toArray, List.getElem_cons_succ, List.getElem_cons_zero, List.set_cons_zero, List.set_cons_succ]
  refine wpAnyH_done (by kernel_rfl) ?_ _
  generalize hW2 : (w1.alloc (.cells #[.func (.func 113) #[.pointer (some ⟨sb, 0, none⟩)] #[], .int .i64 0, .int .i64 0, .bool true, .bool false] 173)).drew = w2 at hb2 HX2 ⊢
  clear hW2
  have A2 := hide ((unhide A1).go hb2)
  have HL2 := hide ((unhide H1).below hb2)
  have HB2 := hide ((unhide HB1).trans (hb2.mono (unhide HB1).size))
  clear hb2 A1 H1 HSS
  have e0 : w2.cell? ⟨w.heap.size + 2, 0, none⟩ = some (.func (.func 113) #[.pointer (some ⟨sb, 0, none⟩)] #[]) := by rw [cell_of_row w2 _ 0 _ _ _ (unhide HX2)]; rfl
  have e1 : w2.cell? ⟨w.heap.size + 2, 1, none⟩ = some (.int .i64 0) := by rw [cell_of_row w2 _ 1 _ _ _ (unhide HX2)]; rfl
  have e2 : w2.cell? ⟨w.heap.size + 2, 2, none⟩ = some (.int .i64 0) := by rw [cell_of_row w2 _ 2 _ _ _ (unhide HX2)]; rfl
  have e3 : w2.cell? ⟨w.heap.size + 2, 3, none⟩ = some (.bool true) := by rw [cell_of_row w2 _ 3 _ _ _ (unhide HX2)]; rfl
  have e4 : w2.cell? ⟨w.heap.size + 2, 4, none⟩ = some (.bool false) := by rw [cell_of_row w2 _ 4 _ _ _ (unhide HX2)]; rfl
  have a0 : w2.cell? ⟨w.heap.size, 0, none⟩ = some (.int .i64 12) := by rw [cell_of_row w2 _ 0 _ _ _ (unhide A2).ak]; rfl
  have a1 : w2.cell? ⟨w.heap.size, 1, none⟩ = some (.int .i64 nn) := (unhide A2).a1
  have a2 : w2.cell? ⟨w.heap.size, 2, none⟩ = some (.string name) := (unhide A2).a2
  have a3 : w2.cell? ⟨w.heap.size, 3, none⟩ = some (.int .i64 kd) := (unhide A2).a3
  have a4 : w2.cell? ⟨w.heap.size, 4, none⟩ = some (.int .i64 fn) := (unhide A2).a4
  have a5 : w2.cell? ⟨w.heap.size, 5, none⟩ = some (.int .i64 line) := (unhide A2).a5
  have a6 : w2.cell? ⟨w.heap.size, 6, none⟩ = some (.string sn) := (unhide A2).a6
  go_wp2_with fail
  refine (takesN_any _ _ _ 12 nn name kd fn line sn _ (unhide HZ) (unhide HZS)).mono ?_
  rintro e w3 ⟨⟨b, rfl, hbT⟩, hb3⟩
  clear e0 e1 e2 e3 e4 a0 a1 a2 a3 a4 a5 a6
  have A3 := hide ((unhide A2).go hb3)
  have HL3 := hide ((unhide HL2).below hb3)
  have HX3 := hide ((hb3.block _ (heap_ltx (unhide HX2))).trans (unhide HX2))
  have HB3 := hide ((unhide HB2).trans (hb3.mono (unhide HB2).size))
  clear hb3 A2 HL2 HX2
  cases b with
  | false =>
    have hN : ¬ OkAsk (⟨12, nn, name, ⟨kd, fn, line, sn⟩⟩ : Ak) := fun hO => by
      refine absurd (hbT.2 ?_) (by decide)
      have h := okAsk12.1 hO; exact ⟨Int.le_of_eq h.1.symm, Int.le_of_eq h.1, (by rw [if_neg (by simp)]; exact h.2.2), (by rw [if_pos rfl]; exact h.2.1)⟩
    have HN := hide hN
    clear hN hbT
    obtain ⟨⟨r0, r1, r2, r3, r4, r5⟩, x0, x1, x2, x3, x4, x5⟩ := (unhide A3).rc
    go_wp2
    refine bodyPost_ret (v := .tuple #[.agg #[.int .i64 0, .int .i64 0, .int .i64 0, .string ⟨#[]⟩, .slice none 0 0, .slice none 0 0], .iface 180 (.agg #[.int .i64 1])]) (by simp [results, Tryz.results115, go_sem, r0, r1, r2, r3, r4, r5]) rfl ?_
    exact dsay_end (AskIs.notOk (unhide HN)) (.inr ⟨rfl, by show (1 : Int) ≠ 0; omega, rfl⟩) (unhide HL3) (unhide A3) (frs_nil _ _) (VsAt.nil _ _) ((unhide HB3).mono hB) (Same.of_below (unhide HB3)) hB
  | true =>
    have hT := hbT.1 rfl
    have HO : Hid (OkAsk (⟨12, nn, name, ⟨kd, fn, line, sn⟩⟩ : Ak)) := hide (okAsk12.2 ⟨(Int.le_antisymm hT.2.1 hT.1), (by have q := hT.2.2.2; rwa [if_pos rfl] at q), (by have q := hT.2.2.1; rwa [if_neg (by simp)] at q)⟩)
    clear hbT hT
    have e0 : w3.cell? ⟨w.heap.size + 2, 0, none⟩ = some (.func (.func 113) #[.pointer (some ⟨sb, 0, none⟩)] #[]) := by rw [cell_of_row w3 _ 0 _ _ _ (unhide HX3)]; rfl
    have a0 : w3.cell? ⟨w.heap.size, 0, none⟩ = some (.int .i64 12) := by rw [cell_of_row w3 _ 0 _ _ _ (unhide A3).ak]; rfl
    have a1 : w3.cell? ⟨w.heap.size, 1, none⟩ = some (.int .i64 nn) := (unhide A3).a1
    have a2 : w3.cell? ⟨w.heap.size, 2, none⟩ = some (.string name) := (unhide A3).a2
    have a3 : w3.cell? ⟨w.heap.size, 3, none⟩ = some (.int .i64 kd) := (unhide A3).a3
    have a4 : w3.cell? ⟨w.heap.size, 4, none⟩ = some (.int .i64 fn) := (unhide A3).a4
    have a5 : w3.cell? ⟨w.heap.size, 5, none⟩ = some (.int .i64 line) := (unhide A3).a5
    have a6 : w3.cell? ⟨w.heap.size, 6, none⟩ = some (.string sn) := (unhide A3).a6
    go_wp2_with fail
    refine (value_any B sb lo lp mv pv tv uv D nf fns n f s nn name kd fn line sn w3 (unhide HL3) (fun W hb => unhide H2 W (((unhide HB3).mono hB).trans hb)) (fun W hb => unhide HP W (((unhide HB3).mono hB).trans hb)) (unhide HS) (unhide HOK) (unhide HPL) (Nat.le_trans hB (unhide HB3).size) (unhide HO)).mono ?_
    rintro e w4 ⟨s', d, m, t, v5, v6, er, rfl, hI, hd, ⟨tv', uv', hL4⟩, h5, h6, hb4, hk4⟩
    clear e0 a0 a1 a2 a3 a4 a5 a6
    obtain ⟨va, vc, rfl⟩ := owns_slice h5
    obtain ⟨ua, uc, rfl⟩ := owns_slice h6.row
    generalize hx : d.fr.length = ln5 at h5
    generalize hy : d.vs.length = ln6 at h6
    clear hx hy
    have A4 := hide ((unhide A3).same hk4)
    have H5 : Hid (FrsAt w.heap.size w4 (.slice va ln5 vc) d.fr) := hide (owns_low h5 (unhide HB3).size)
    have H6 : Hid (VsAt w.heap.size w4 (.slice ua ln6 uc) d.vs) := hide (h6.low (unhide HB3).size)
    have HB4 : Hid (Below B w w4) := hide (((unhide HB3).mono hB).trans hb4)
    have HK4 : Hid (Same KindS w w4) := hide ((Same.of_below (unhide HB3)).trans hk4)
    have HL4 := hide hL4
    have HI := hide hI
    have HD := hide hd
    clear hL4 h5 h6 hb4 hk4 hI hd
    obtain ⟨⟨r0, r1, r2, r3, r4, r5⟩, x0, x1, x2, x3, x4, x5⟩ := (unhide A4).rc
    go_wp2
    refine bodyPost_ret (v := .tuple #[.agg #[.int .i64 0, .int .i64 0, .int .i64 m, .string t, .slice va ln5 vc, .slice ua ln6 uc], er]) (by simp [results, Tryz.results115, go_sem, r0, r1, r2, r3, r4, r5]) rfl ?_
    exact dsay_end (unhide HI) (unhide HD) (unhide HL4) (unhide A4) (unhide H5) (unhide H6) (unhide HB4) (unhide HK4) hB

set_option maxRecDepth 100000 in
set_option maxHeartbeats 4000000 in
theorem try13_any (B sb lo lp : Nat) (mv pv tv uv : Value) (D : Nat → Value) (nf : Nat) (fns : Nat → ByteArray) (n : Nat) (f : Nat → M) (s : LS) (nn : Int) (name : ByteArray) (kd fn line : Int) (sn : ByteArray) (w : World) (h : SS B w sb mv pv n f s tv uv D) (h2 : ∀ W, Below B w W → MomsAt lo W mv n f) (hp : ∀ W, Below B w W → PlacesAt lp W pv n f) (hs : Sound nf fns n f) (hok : LsOk n s) (hpl : s.past.length ≤ 10000) (hB : B ≤ w.heap.size) (hz : name.size ≤ maxLen) (hzs : sn.size ≤ maxLen) (d0 : D 70 = .func (.func 114) #[.pointer (some ⟨sb, 0, none⟩)] #[]) (d1 : D 71 = .int .i64 0) (d2 : D 72 = .int .i64 49) (d3 : D 73 = .bool false) (d4 : D 74 = .bool false) :
    Calls Tryz.prog 115 #[.pointer (some ⟨sb, 0, none⟩), .agg #[.int .i64 13, .int .i64 nn, .string name, .int .i64 kd, .int .i64 fn, .int .i64 line, .string sn]] w fun e w' => DSay B sb mv pv n f D s (⟨13, nn, name, ⟨kd, fn, line, sn⟩⟩ : Ak) w e w' := by
  have H := hide h
  have H2 := hide h2
  have HP := hide hp
  have HS := hide hs
  have HOK := hide hok
  have HPL := hide hpl
  have HZ := hide hz
  have HZS := hide hzs
  have A1 := hide (DB.new w (⟨13, nn, name, ⟨kd, fn, line, sn⟩⟩ : Ak))
  have HB1 : Hid (Below w.heap.size w ((w.alloc (.cells #[.int .i64 13, .int .i64 nn, .string name, .int .i64 kd, .int .i64 fn, .int .i64 line, .string sn] 47)).alloc (.cells #[.int .i64 0, .int .i64 0, .int .i64 0, .string ⟨#[]⟩, .slice none 0 0, .slice none 0 0] 38))) := hide ((below_new w (.cells #[.int .i64 13, .int .i64 nn, .string name, .int .i64 kd, .int .i64 fn, .int .i64 line, .string sn] 47)).alloc (by simp) (.cells #[.int .i64 0, .int .i64 0, .int .i64 0, .string ⟨#[]⟩, .slice none 0 0, .slice none 0 0] 38))
  have H1 := hide ((unhide H).below (unhide HB1))
  have hlt := (unhide H).lt
  clear h h2 hp hs hok hpl hz hzs
  go_enter Tryz.func115, Tryz.ntmps115
  go_upto_region 3 with fail
  obtain ⟨w1, hw1⟩ : ∃ w1, w1 = ((w.alloc (.cells #[.int .i64 13, .int .i64 nn, .string name, .int .i64 kd, .int .i64 fn, .int .i64 line, .string sn] 47)).alloc (.cells #[.int .i64 0, .int .i64 0, .int .i64 0, .string ⟨#[]⟩, .slice none 0 0, .slice none 0 0] 38)) := ⟨_, rfl⟩
  have sz1 : w1.heap.size = w.heap.size + 2 := by rw [hw1]; simp
  rw [← hw1] at A1 HB1 H1 ⊢
  clear hw1
  have HSS : Hid (∀ W, Below w1.heap.size w1 W → W.cell? ⟨w.heap.size, 0, none⟩ = some (.int .i64 13) ∧ W.cell? ⟨sb, 70, none⟩ = some (.func (.func 114) #[.pointer (some ⟨sb, 0, none⟩)] #[]) ∧ W.cell? ⟨sb, 71, none⟩ = some (.int .i64 0) ∧ W.cell? ⟨sb, 72, none⟩ = some (.int .i64 49) ∧ W.cell? ⟨sb, 73, none⟩ = some (.bool false) ∧ W.cell? ⟨sb, 74, none⟩ = some (.bool false)) := hide (by
    intro W hb
    have ha := ((unhide A1).go hb).ak
    have hx := ((unhide H1).below hb).box
    exact ⟨by rw [cell_of_row W _ 0 _ _ _ ha]; rfl, by rw [← d0]; exact hx.cd _ (by omega) (by omega), by rw [← d1]; exact hx.cd _ (by omega) (by omega), by rw [← d2]; exact hx.cd _ (by omega) (by omega), by rw [← d3]; exact hx.cd _ (by omega) (by omega), by rw [← d4]; exact hx.cd _ (by omega) (by omega)⟩)
  clear d0 d1 d2 d3 d4
  refine wp_region_held_drew (S := fun W => W.cell? ⟨w.heap.size, 0, none⟩ = some (.int .i64 13) ∧ W.cell? ⟨sb, 70, none⟩ = some (.func (.func 114) #[.pointer (some ⟨sb, 0, none⟩)] #[]) ∧ W.cell? ⟨sb, 71, none⟩ = some (.int .i64 0) ∧ W.cell? ⟨sb, 72, none⟩ = some (.int .i64 49) ∧ W.cell? ⟨sb, 73, none⟩ = some (.bool false) ∧ W.cell? ⟨sb, 74, none⟩ = some (.bool false)) (by kernel_rfl) (unhide HSS _ (Below.refl _ _).drew) (fun hHeld => ?_)
  refine takeAt 0 (some 18) (v := ?v0a) (by decide) rfl (by kernel_rfl) (by kernel_rfl) (by kernel_rfl) (fun _ _ _ h => h) (by rfl) ?hy0a hHeld ?r0a
  case hy0a => (intro wx hSw; obtain ⟨s0, s1, s2, s3, s4, s5⟩ := hSw; go_simp; with_reducible rfl)
  simp only [Act.put, List.setIfInBounds_toArray, List.set_cons_zero, List.set_cons_succ]
  refine takeAt 1 (some 19) (v := ?v1a) (by decide) rfl (by kernel_rfl) (by kernel_rfl) (by kernel_rfl) (fun _ _ _ h => h) (by rfl) ?hy1a hHeld ?r1a
  case hy1a => (intro wx hSw; obtain ⟨s0, s1, s2, s3, s4, s5⟩ := hSw; go_simp; with_reducible rfl)
  simp only [Act.put, List.setIfInBounds_toArray, List.set_cons_zero, List.set_cons_succ]
  refine takeAt 2 (some 20) (v := ?v2a) (by decide) rfl (by kernel_rfl) (by kernel_rfl) (by kernel_rfl) (fun _ _ _ h => h) (by rfl) ?hy2a hHeld ?r2a
  case hy2a => (intro wx hSw; obtain ⟨s0, s1, s2, s3, s4, s5⟩ := hSw; go_simp; with_reducible rfl)
  simp only [Act.put, List.setIfInBounds_toArray, List.set_cons_zero, List.set_cons_succ]
  refine takeAt 3 (some 21) (v := ?v3a) (by decide) rfl (by kernel_rfl) (by kernel_rfl) (by kernel_rfl) (fun _ _ _ h => h) (by rfl) ?hy3a hHeld ?r3a
  case hy3a => (intro wx hSw; obtain ⟨s0, s1, s2, s3, s4, s5⟩ := hSw; go_simp; with_reducible rfl)
  simp only [Act.put, List.setIfInBounds_toArray, List.set_cons_zero, List.set_cons_succ]
  refine takeAt 4 (some 22) (v := ?v4a) (by decide) rfl (by kernel_rfl) (by kernel_rfl) (by kernel_rfl) (fun _ _ _ h => h) (by rfl) ?hy4a hHeld ?r4a
  case hy4a => (intro wx hSw; obtain ⟨s0, s1, s2, s3, s4, s5⟩ := hSw; go_simp; with_reducible rfl)
  simp only [Act.put, List.setIfInBounds_toArray, List.set_cons_zero, List.set_cons_succ]
  refine takeAt 5 (some 23) (v := ?v5a) (by decide) rfl (by kernel_rfl) (by kernel_rfl) (by kernel_rfl) (fun _ _ _ h => h) (by rfl) ?hy5a hHeld ?r5a
  case hy5a => (intro wx hSw; obtain ⟨s0, s1, s2, s3, s4, s5⟩ := hSw; go_simp; with_reducible rfl)
  simp only [Act.put, List.setIfInBounds_toArray, List.set_cons_zero, List.set_cons_succ]
  refine takeAt 6 (some 24) (v := ?v6a) (by decide) rfl (by kernel_rfl) (by kernel_rfl) (by kernel_rfl) (fun _ _ _ h => h) (by rfl) ?hy6a hHeld ?r6a
  case hy6a => (intro wx hSw; obtain ⟨s0, s1, s2, s3, s4, s5⟩ := hSw; go_simp; with_reducible rfl)
  simp only [Act.put, List.setIfInBounds_toArray, List.set_cons_zero, List.set_cons_succ]
  refine wpAnyH_ready (rs := [7]) (by kernel_rfl) (by simp) ?_
  refine AllReadyH.cons rfl (fun KK hK => ?_) AllReadyH.nil
  go_simp
  have hba : Below w1.heap.size w1 (w1.alloc (.cells #[.nilFunc, .int .i64 0, .int .i64 0, .bool false, .bool false] 173)).drew := (below_new w1 _).drew
  refine hK.out _ _ (unhide HSS _ hba) (fun hHeld => ?_)
  clear hK KK hba
  try simp only [Act.put, List.setIfInBounds_toArray, List.getElem_toArray, List.getElem_cons_succ, List.getElem_cons_zero, List.set_cons_zero, List.set_cons_succ]
  refine wpAnyH_ready (rs := [8]) (by kernel_rfl) (by simp) ?_
  refine AllReadyH.cons rfl (fun KK hK => ?_) AllReadyH.nil
  go_simp
  have hb2 : Below w1.heap.size w1 (w1.alloc (.cells #[.func (.func 114) #[.pointer (some ⟨sb, 0, none⟩)] #[], .int .i64 0, .int .i64 49, .bool false, .bool false] 173)).drew := (below_new w1 _).drew
  have HX2 : Hid ((w1.alloc (.cells #[.func (.func 114) #[.pointer (some ⟨sb, 0, none⟩)] #[], .int .i64 0, .int .i64 49, .bool false, .bool false] 173)).drew.heap[w1.heap.size]? = some (.cells #[.func (.func 114) #[.pointer (some ⟨sb, 0, none⟩)] #[], .int .i64 0, .int .i64 49, .bool false, .bool false] 173 (0, 0))) := hide (heap_alloc_new w1 _)
  rw [sz1] at HX2
  refine hK.out _ _ (unhide HSS _ hb2) (fun hHeld => ?_)
  clear hK KK hHeld
  try simp only [Act.put, List.setIfInBounds_toArray, List.getElem_toArray, List.getElem_cons_succ, List.getElem_cons_zero, List.set_cons_zero, List.set_cons_succ]
  refine wpAnyH_done (by kernel_rfl) ?_ _
  generalize hW2 : (w1.alloc (.cells #[.func (.func 114) #[.pointer (some ⟨sb, 0, none⟩)] #[], .int .i64 0, .int .i64 49, .bool false, .bool false] 173)).drew = w2 at hb2 HX2 ⊢
  clear hW2
  have A2 := hide ((unhide A1).go hb2)
  have HL2 := hide ((unhide H1).below hb2)
  have HB2 := hide ((unhide HB1).trans (hb2.mono (unhide HB1).size))
  clear hb2 A1 H1 HSS
  have e0 : w2.cell? ⟨w.heap.size + 2, 0, none⟩ = some (.func (.func 114) #[.pointer (some ⟨sb, 0, none⟩)] #[]) := by rw [cell_of_row w2 _ 0 _ _ _ (unhide HX2)]; rfl
  have e1 : w2.cell? ⟨w.heap.size + 2, 1, none⟩ = some (.int .i64 0) := by rw [cell_of_row w2 _ 1 _ _ _ (unhide HX2)]; rfl
  have e2 : w2.cell? ⟨w.heap.size + 2, 2, none⟩ = some (.int .i64 49) := by rw [cell_of_row w2 _ 2 _ _ _ (unhide HX2)]; rfl
  have e3 : w2.cell? ⟨w.heap.size + 2, 3, none⟩ = some (.bool false) := by rw [cell_of_row w2 _ 3 _ _ _ (unhide HX2)]; rfl
  have e4 : w2.cell? ⟨w.heap.size + 2, 4, none⟩ = some (.bool false) := by rw [cell_of_row w2 _ 4 _ _ _ (unhide HX2)]; rfl
  have a0 : w2.cell? ⟨w.heap.size, 0, none⟩ = some (.int .i64 13) := by rw [cell_of_row w2 _ 0 _ _ _ (unhide A2).ak]; rfl
  have a1 : w2.cell? ⟨w.heap.size, 1, none⟩ = some (.int .i64 nn) := (unhide A2).a1
  have a2 : w2.cell? ⟨w.heap.size, 2, none⟩ = some (.string name) := (unhide A2).a2
  have a3 : w2.cell? ⟨w.heap.size, 3, none⟩ = some (.int .i64 kd) := (unhide A2).a3
  have a4 : w2.cell? ⟨w.heap.size, 4, none⟩ = some (.int .i64 fn) := (unhide A2).a4
  have a5 : w2.cell? ⟨w.heap.size, 5, none⟩ = some (.int .i64 line) := (unhide A2).a5
  have a6 : w2.cell? ⟨w.heap.size, 6, none⟩ = some (.string sn) := (unhide A2).a6
  go_wp2_with fail
  refine (takes_any _ _ _ 13 nn name kd fn line sn _ (unhide HZ) (unhide HZS)).mono ?_
  rintro e w3 ⟨⟨b, rfl, hbT⟩, hb3⟩
  clear e0 e1 e2 e3 e4 a0 a1 a2 a3 a4 a5 a6
  have A3 := hide ((unhide A2).go hb3)
  have HL3 := hide ((unhide HL2).below hb3)
  have HX3 := hide ((hb3.block _ (heap_ltx (unhide HX2))).trans (unhide HX2))
  have HB3 := hide ((unhide HB2).trans (hb3.mono (unhide HB2).size))
  clear hb3 A2 HL2 HX2
  cases b with
  | false =>
    have hN : ¬ OkAsk (⟨13, nn, name, ⟨kd, fn, line, sn⟩⟩ : Ak) := fun hO => by
      refine absurd (hbT.2 ?_) (by decide)
      have h := (okAsk2 (by omega)).1 hO; exact ⟨h.1.1, h.1.2, (by rw [if_neg (by simp)]; exact h.2.2), (by rw [if_neg (by simp)]; exact h.2.1)⟩
    have HN := hide hN
    clear hN hbT
    obtain ⟨⟨r0, r1, r2, r3, r4, r5⟩, x0, x1, x2, x3, x4, x5⟩ := (unhide A3).rc
    go_wp2
    refine bodyPost_ret (v := .tuple #[.agg #[.int .i64 0, .int .i64 0, .int .i64 0, .string ⟨#[]⟩, .slice none 0 0, .slice none 0 0], .iface 180 (.agg #[.int .i64 1])]) (by simp [results, Tryz.results115, go_sem, r0, r1, r2, r3, r4, r5]) rfl ?_
    exact dsay_end (AskIs.notOk (unhide HN)) (.inr ⟨rfl, by show (1 : Int) ≠ 0; omega, rfl⟩) (unhide HL3) (unhide A3) (frs_nil _ _) (VsAt.nil _ _) ((unhide HB3).mono hB) (Same.of_below (unhide HB3)) hB
  | true =>
    have hT := hbT.1 rfl
    have HO : Hid (OkAsk (⟨13, nn, name, ⟨kd, fn, line, sn⟩⟩ : Ak)) := hide ((okAsk2 (by omega)).2 ⟨⟨hT.1, hT.2.1⟩, (by have q := hT.2.2.2; rwa [if_neg (by simp)] at q), (by have q := hT.2.2.1; rwa [if_neg (by simp)] at q)⟩)
    clear hbT hT
    have e0 : w3.cell? ⟨w.heap.size + 2, 0, none⟩ = some (.func (.func 114) #[.pointer (some ⟨sb, 0, none⟩)] #[]) := by rw [cell_of_row w3 _ 0 _ _ _ (unhide HX3)]; rfl
    have a0 : w3.cell? ⟨w.heap.size, 0, none⟩ = some (.int .i64 13) := by rw [cell_of_row w3 _ 0 _ _ _ (unhide A3).ak]; rfl
    have a1 : w3.cell? ⟨w.heap.size, 1, none⟩ = some (.int .i64 nn) := (unhide A3).a1
    have a2 : w3.cell? ⟨w.heap.size, 2, none⟩ = some (.string name) := (unhide A3).a2
    have a3 : w3.cell? ⟨w.heap.size, 3, none⟩ = some (.int .i64 kd) := (unhide A3).a3
    have a4 : w3.cell? ⟨w.heap.size, 4, none⟩ = some (.int .i64 fn) := (unhide A3).a4
    have a5 : w3.cell? ⟨w.heap.size, 5, none⟩ = some (.int .i64 line) := (unhide A3).a5
    have a6 : w3.cell? ⟨w.heap.size, 6, none⟩ = some (.string sn) := (unhide A3).a6
    go_wp2_with fail
    refine (tellCounts_any B sb lo lp mv pv tv uv D nf fns n f s nn name kd fn line sn w3 (unhide HL3) (fun W hb => unhide H2 W (((unhide HB3).mono hB).trans hb)) (fun W hb => unhide HP W (((unhide HB3).mono hB).trans hb)) (unhide HS) (unhide HOK) (unhide HPL) (Nat.le_trans hB (unhide HB3).size) (unhide HO)).mono ?_
    rintro e w4 ⟨s', d, m, t, v5, v6, er, rfl, hI, hd, ⟨tv', uv', hL4⟩, h5, h6, hb4, hk4⟩
    clear e0 a0 a1 a2 a3 a4 a5 a6
    obtain ⟨va, vc, rfl⟩ := owns_slice h5
    obtain ⟨ua, uc, rfl⟩ := owns_slice h6.row
    generalize hx : d.fr.length = ln5 at h5
    generalize hy : d.vs.length = ln6 at h6
    clear hx hy
    have A4 := hide ((unhide A3).same hk4)
    have H5 : Hid (FrsAt w.heap.size w4 (.slice va ln5 vc) d.fr) := hide (owns_low h5 (unhide HB3).size)
    have H6 : Hid (VsAt w.heap.size w4 (.slice ua ln6 uc) d.vs) := hide (h6.low (unhide HB3).size)
    have HB4 : Hid (Below B w w4) := hide (((unhide HB3).mono hB).trans hb4)
    have HK4 : Hid (Same KindS w w4) := hide ((Same.of_below (unhide HB3)).trans hk4)
    have HL4 := hide hL4
    have HI := hide hI
    have HD := hide hd
    clear hL4 h5 h6 hb4 hk4 hI hd
    obtain ⟨⟨r0, r1, r2, r3, r4, r5⟩, x0, x1, x2, x3, x4, x5⟩ := (unhide A4).rc
    go_wp2
    refine bodyPost_ret (v := .tuple #[.agg #[.int .i64 0, .int .i64 0, .int .i64 m, .string t, .slice va ln5 vc, .slice ua ln6 uc], er]) (by simp [results, Tryz.results115, go_sem, r0, r1, r2, r3, r4, r5]) rfl ?_
    exact dsay_end (unhide HI) (unhide HD) (unhide HL4) (unhide A4) (unhide H5) (unhide H6) (unhide HB4) (unhide HK4) hB
end Go.Proofs.YtmnmeaeicjhkhaaGreatDoor
