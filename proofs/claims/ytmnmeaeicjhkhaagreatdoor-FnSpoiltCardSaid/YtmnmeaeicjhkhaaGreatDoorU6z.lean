import Derived.Test.YtmnmeaeicjhkhaaGreatDoorU2z
import Derived.Test.YtmnmeaeicjhkhaaGreatDoorU5z
import Derived.Lib.AppendIntMem
import Derived.Lib.SmallJoins
import Derived.WalkSmall
/-
  strconv.Itoa, impl.fnText, and strings.Builder with its row named.
-/
namespace Go.Proofs.YtmnmeaeicjhkhaaGreatDoor
open Go.RowKit Go.Lib

/-- The table that strconv reads. -/
def Tab (w : World) : Prop := Lib.TabIs Tryz.prog w "internal/strconv.uint64pow10" .u64 Lib.pow10Tab

theorem tab_lt {w : World} (h : Tab w) : ∃ g, Tryz.prog.globalNamed "internal/strconv.uint64pow10" = some g ∧ g < w.heap.size := by
  unfold Tab Lib.TabIs World.var? at h
  cases e : Tryz.prog.globalNamed "internal/strconv.uint64pow10" with
  | none => rw [e] at h; simp at h
  | some g =>
    rw [e] at h
    refine ⟨g, rfl, ?_⟩
    rcases Nat.lt_or_ge g w.heap.size with x | x
    · exact x
    · simp [Array.getElem?_eq_none x] at h

theorem tab_go {w w' : World} (h : Tab w) (hb : Below w.heap.size w w') : Tab w' := by
  obtain ⟨g, hg, hl⟩ := tab_lt h
  exact var?_below hb hg hl h

theorem itoa_any (u : Nat) (w : World) (hu : u ≤ 1000000) (h : Tab w) :
    Calls Tryz.prog 47 #[.int .i64 (u : Int)] w fun e w' => e = .returned (.string (decS u)) ∧ Below w.heap.size w w' := by
  refine (Tryz.strconv_Itoa (u : Int) (by omega) (by omega) w h).mono ?_
  rintro e w' ⟨rfl, k, os, rfl⟩
  refine ⟨?_, Lib.below_grow _ w (Nat.le_refl _) k os⟩
  unfold Lib.itoa decS
  rw [if_neg (by omega)]
  rfl

set_option maxRecDepth 100000 in
set_option maxHeartbeats 4000000 in
theorem fnText_any (k c s t : Nat) (name : ByteArray) (w : World) (hk : k ≤ 100000) (hc : c ≤ 100000) (hs : s ≤ 100000) (ht : t ≤ 100000) (hn : name.size ≤ 40) (htab : Tab w) :
    Calls Tryz.prog 46 #[.agg #[.int .i64 (k : Int), .int .i64 (c : Int), .int .i64 (s : Int), .int .i64 (t : Int)], .string name] w fun e w' => e = .returned (.string (fnLineT k name c s t)) ∧ Below w.heap.size w w' := by
  have HTAB0 := hide htab
  clear htab
  go_enter Tryz.func46, Tryz.ntmps46
  go_upto_region 1 with fail
  have HX1 := hide (heap_alloc_new w (.cells #[.int .i64 (k : Int), .int .i64 (c : Int), .int .i64 (s : Int), .int .i64 (t : Int)] 97))
  have HBA := hide (below_new w (.cells #[.int .i64 (k : Int), .int .i64 (c : Int), .int .i64 (s : Int), .int .i64 (t : Int)] 97))
  generalize w.alloc (.cells #[.int .i64 (k : Int), .int .i64 (c : Int), .int .i64 (s : Int), .int .i64 (t : Int)] 97) = W1 at HX1 HBA ⊢
  have HTAB := hide (tab_go (unhide HTAB0) (unhide HBA))
  have HSS : Hid (∀ W, Below W1.heap.size W1 W → W.cell? ⟨w.heap.size, 0, none⟩ = some (.int .i64 (k : Int)) ∧ W.cell? ⟨w.heap.size, 1, none⟩ = some (.int .i64 (c : Int)) ∧ W.cell? ⟨w.heap.size, 2, none⟩ = some (.int .i64 (s : Int)) ∧ W.cell? ⟨w.heap.size, 3, none⟩ = some (.int .i64 (t : Int))) := hide (fun W hb => ⟨cell_below hb (by rw [cell_of_row _ _ 0 _ _ _ (unhide HX1)]; rfl), cell_below hb (by rw [cell_of_row _ _ 1 _ _ _ (unhide HX1)]; rfl), cell_below hb (by rw [cell_of_row _ _ 2 _ _ _ (unhide HX1)]; rfl), cell_below hb (by rw [cell_of_row _ _ 3 _ _ _ (unhide HX1)]; rfl)⟩)
  refine wp_region_held_drew (S := fun W => W.cell? ⟨w.heap.size, 0, none⟩ = some (.int .i64 (k : Int)) ∧ W.cell? ⟨w.heap.size, 1, none⟩ = some (.int .i64 (c : Int)) ∧ W.cell? ⟨w.heap.size, 2, none⟩ = some (.int .i64 (s : Int)) ∧ W.cell? ⟨w.heap.size, 3, none⟩ = some (.int .i64 (t : Int))) (by kernel_rfl) (unhide HSS _ (Below.refl _ _).drew) (fun hHeld => ?_)
  refine takeAt 0 (some 5) (v := ?v0a) (by decide) rfl (by kernel_rfl) (by kernel_rfl) (by kernel_rfl) (fun _ _ _ h => h) (by rfl) ?hy0a hHeld ?r0a
  case hy0a => (intro wx hSw; obtain ⟨s0, s1, s2, s3⟩ := hSw; go_simp; with_reducible rfl)
  simp only [Act.put, List.setIfInBounds_toArray, List.set_cons_zero, List.set_cons_succ]
  refine takeAt 1 (some 6) (v := ?v1a) (by decide) rfl (by kernel_rfl) (by kernel_rfl) (by kernel_rfl) (fun _ _ _ h => h) (by rfl) ?hy1a hHeld ?r1a
  case hy1a => (intro wx hSw; obtain ⟨s0, s1, s2, s3⟩ := hSw; go_simp; with_reducible rfl)
  simp only [Act.put, List.setIfInBounds_toArray, List.set_cons_zero, List.set_cons_succ]
  refine takeAt 4 (some 9) (v := ?v4a) (by decide) rfl (by kernel_rfl) (by kernel_rfl) (by kernel_rfl) (fun _ _ _ h => h) (by rfl) ?hy4a hHeld ?r4a
  case hy4a => (intro wx hSw; obtain ⟨s0, s1, s2, s3⟩ := hSw; go_simp; with_reducible rfl)
  simp only [Act.put, List.setIfInBounds_toArray, List.set_cons_zero, List.set_cons_succ]
  refine takeAt 7 (some 12) (v := ?v7a) (by decide) rfl (by kernel_rfl) (by kernel_rfl) (by kernel_rfl) (fun _ _ _ h => h) (by rfl) ?hy7a hHeld ?r7a
  case hy7a => (intro wx hSw; obtain ⟨s0, s1, s2, s3⟩ := hSw; go_simp; with_reducible rfl)
  simp only [Act.put, List.setIfInBounds_toArray, List.set_cons_zero, List.set_cons_succ]
  refine takeAt 8 (some 13) (v := ?v8a) (by decide) rfl (by kernel_rfl) (by kernel_rfl) (by kernel_rfl) (fun _ _ _ h => h) (by rfl) ?hy8a hHeld ?r8a
  case hy8a => (intro wx hSw; obtain ⟨s0, s1, s2, s3⟩ := hSw; go_simp; with_reducible rfl)
  simp only [Act.put, List.setIfInBounds_toArray, List.set_cons_zero, List.set_cons_succ]
  refine takeAt 12 (some 17) (v := ?v12a) (by decide) rfl (by kernel_rfl) (by kernel_rfl) (by kernel_rfl) (fun _ _ _ h => h) (by rfl) ?hy12a hHeld ?r12a
  case hy12a => (intro wx hSw; obtain ⟨s0, s1, s2, s3⟩ := hSw; go_simp; with_reducible rfl)
  simp only [Act.put, List.setIfInBounds_toArray, List.set_cons_zero, List.set_cons_succ]
  refine takeAt 13 (some 18) (v := ?v13a) (by decide) rfl (by kernel_rfl) (by kernel_rfl) (by kernel_rfl) (fun _ _ _ h => h) (by rfl) ?hy13a hHeld ?r13a
  case hy13a => (intro wx hSw; obtain ⟨s0, s1, s2, s3⟩ := hSw; go_simp; with_reducible rfl)
  simp only [Act.put, List.setIfInBounds_toArray, List.set_cons_zero, List.set_cons_succ]
  refine takeAt 17 (some 22) (v := ?v17a) (by decide) rfl (by kernel_rfl) (by kernel_rfl) (by kernel_rfl) (fun _ _ _ h => h) (by rfl) ?hy17a hHeld ?r17a
  case hy17a => (intro wx hSw; obtain ⟨s0, s1, s2, s3⟩ := hSw; go_simp; with_reducible rfl)
  simp only [Act.put, List.setIfInBounds_toArray, List.set_cons_zero, List.set_cons_succ]
  refine takeAt 18 (some 23) (v := ?v18a) (by decide) rfl (by kernel_rfl) (by kernel_rfl) (by kernel_rfl) (fun _ _ _ h => h) (by rfl) ?hy18a hHeld ?r18a
  case hy18a => (intro wx hSw; obtain ⟨s0, s1, s2, s3⟩ := hSw; go_simp; with_reducible rfl)
  simp only [Act.put, List.setIfInBounds_toArray, List.set_cons_zero, List.set_cons_succ]
  refine wpAnyH_ready (rs := [2]) (by kernel_rfl) (by simp) ?_
  refine AllReadyH.cons rfl (fun KK hK => ?_) AllReadyH.nil
  go_simp
  refine (itoa_any k _ (by omega) (tab_go (unhide HTAB) (Below.refl _ _).drew)).mono ?_
  rintro e wa ⟨rfl, hb⟩
  have HBwa : Hid (Below W1.heap.size W1 wa) := hide ((Below.refl _ _).drew.trans hb)
  clear hb
  have zdwa := decS_size (u := k) (by omega)
  refine hK.out _ _ (unhide HSS _ (unhide HBwa)) (fun hHeld => ?_)
  clear hK KK
  try simp only [Act.put, List.setIfInBounds_toArray, List.getElem_toArray, List.getElem_cons_succ, List.getElem_cons_zero, List.set_cons_zero, List.set_cons_succ]
  obtain ⟨x1, hx1⟩ : ∃ x, x = (decS k) ++ (⟨#[32]⟩ : ByteArray) := ⟨_, rfl⟩
  have qx1 : (decS k).size + (⟨#[32]⟩ : ByteArray).size ≤ 140000000000000 := by have hy : ((⟨#[32]⟩ : ByteArray) : ByteArray).size ≤ 100001 := (by show _ ≤ _; decide); skip; omega
  have zx1 : x1.size ≤ 300000 := by have hy : ((⟨#[32]⟩ : ByteArray) : ByteArray).size ≤ 100001 := (by show _ ≤ _; decide); skip; rw [hx1, ByteArray.size_append]; omega
  refine takeAt 3 (some 8) (v := .string x1) (by decide) rfl (by kernel_rfl) (by kernel_rfl) (by kernel_rfl) (fun _ _ _ h => h) (by rfl) ?hy3a hHeld ?r3a
  case hy3a => (intro wx hSw; rw [hx1]; exact exec_add 9 9 _ _ rfl (decS k) (⟨#[32]⟩ : ByteArray) (by rfl) (by rfl) qx1 wx)
  simp only [Act.put, List.setIfInBounds_toArray, List.set_cons_zero, List.set_cons_succ]
  have Hx1 := hide hx1
  clear hx1 qx1
  obtain ⟨x2, hx2⟩ : ∃ x, x = x1 ++ name := ⟨_, rfl⟩
  have qx2 : x1.size + name.size ≤ 140000000000000 := by have hy : (name : ByteArray).size ≤ 100001 := (by omega); skip; omega
  have zx2 : x2.size ≤ 500000 := by have hy : (name : ByteArray).size ≤ 100001 := (by omega); skip; rw [hx2, ByteArray.size_append]; omega
  refine takeAt 5 (some 10) (v := .string x2) (by decide) rfl (by kernel_rfl) (by kernel_rfl) (by kernel_rfl) (fun _ _ _ h => h) (by rfl) ?hy5a hHeld ?r5a
  case hy5a => (intro wx hSw; rw [hx2]; exact exec_add 9 9 _ _ rfl x1 name (by rfl) (by rfl) qx2 wx)
  simp only [Act.put, List.setIfInBounds_toArray, List.set_cons_zero, List.set_cons_succ]
  have Hx2 := hide hx2
  clear hx2 qx2
  obtain ⟨x3, hx3⟩ : ∃ x, x = x2 ++ (⟨#[32, 99, 97, 108, 108, 115, 32]⟩ : ByteArray) := ⟨_, rfl⟩
  have qx3 : x2.size + (⟨#[32, 99, 97, 108, 108, 115, 32]⟩ : ByteArray).size ≤ 140000000000000 := by have hy : ((⟨#[32, 99, 97, 108, 108, 115, 32]⟩ : ByteArray) : ByteArray).size ≤ 100001 := (by show _ ≤ _; decide); skip; omega
  have zx3 : x3.size ≤ 700000 := by have hy : ((⟨#[32, 99, 97, 108, 108, 115, 32]⟩ : ByteArray) : ByteArray).size ≤ 100001 := (by show _ ≤ _; decide); skip; rw [hx3, ByteArray.size_append]; omega
  refine takeAt 6 (some 11) (v := .string x3) (by decide) rfl (by kernel_rfl) (by kernel_rfl) (by kernel_rfl) (fun _ _ _ h => h) (by rfl) ?hy6a hHeld ?r6a
  case hy6a => (intro wx hSw; rw [hx3]; exact exec_add 9 9 _ _ rfl x2 (⟨#[32, 99, 97, 108, 108, 115, 32]⟩ : ByteArray) (by rfl) (by rfl) qx3 wx)
  simp only [Act.put, List.setIfInBounds_toArray, List.set_cons_zero, List.set_cons_succ]
  have Hx3 := hide hx3
  clear hx3 qx3
  refine wpAnyH_ready (rs := [9]) (by kernel_rfl) (by simp) ?_
  refine AllReadyH.cons rfl (fun KK hK => ?_) AllReadyH.nil
  go_simp
  refine (itoa_any c _ (by omega) (tab_go (unhide HTAB) (unhide HBwa))).mono ?_
  rintro e wb ⟨rfl, hb⟩
  have HBwb : Hid (Below W1.heap.size W1 wb) := hide ((unhide HBwa).trans (hb.mono (unhide HBwa).size))
  clear hb
  have zdwb := decS_size (u := c) (by omega)
  refine hK.out _ _ (unhide HSS _ (unhide HBwb)) (fun hHeld => ?_)
  clear hK KK
  try simp only [Act.put, List.setIfInBounds_toArray, List.getElem_toArray, List.getElem_cons_succ, List.getElem_cons_zero, List.set_cons_zero, List.set_cons_succ]
  obtain ⟨x4, hx4⟩ : ∃ x, x = x3 ++ (decS c) := ⟨_, rfl⟩
  have qx4 : x3.size + (decS c).size ≤ 140000000000000 := by have hy : ((decS c) : ByteArray).size ≤ 100001 := (by omega); skip; omega
  have zx4 : x4.size ≤ 900000 := by have hy : ((decS c) : ByteArray).size ≤ 100001 := (by omega); skip; rw [hx4, ByteArray.size_append]; omega
  refine takeAt 10 (some 15) (v := .string x4) (by decide) rfl (by kernel_rfl) (by kernel_rfl) (by kernel_rfl) (fun _ _ _ h => h) (by rfl) ?hy10a hHeld ?r10a
  case hy10a => (intro wx hSw; rw [hx4]; exact exec_add 9 9 _ _ rfl x3 (decS c) (by rfl) (by rfl) qx4 wx)
  simp only [Act.put, List.setIfInBounds_toArray, List.set_cons_zero, List.set_cons_succ]
  have Hx4 := hide hx4
  clear hx4 qx4
  obtain ⟨x5, hx5⟩ : ∃ x, x = x4 ++ (⟨#[32, 115, 101, 108, 102, 32]⟩ : ByteArray) := ⟨_, rfl⟩
  have qx5 : x4.size + (⟨#[32, 115, 101, 108, 102, 32]⟩ : ByteArray).size ≤ 140000000000000 := by have hy : ((⟨#[32, 115, 101, 108, 102, 32]⟩ : ByteArray) : ByteArray).size ≤ 100001 := (by show _ ≤ _; decide); skip; omega
  have zx5 : x5.size ≤ 1100000 := by have hy : ((⟨#[32, 115, 101, 108, 102, 32]⟩ : ByteArray) : ByteArray).size ≤ 100001 := (by show _ ≤ _; decide); skip; rw [hx5, ByteArray.size_append]; omega
  refine takeAt 11 (some 16) (v := .string x5) (by decide) rfl (by kernel_rfl) (by kernel_rfl) (by kernel_rfl) (fun _ _ _ h => h) (by rfl) ?hy11a hHeld ?r11a
  case hy11a => (intro wx hSw; rw [hx5]; exact exec_add 9 9 _ _ rfl x4 (⟨#[32, 115, 101, 108, 102, 32]⟩ : ByteArray) (by rfl) (by rfl) qx5 wx)
  simp only [Act.put, List.setIfInBounds_toArray, List.set_cons_zero, List.set_cons_succ]
  have Hx5 := hide hx5
  clear hx5 qx5
  refine wpAnyH_ready (rs := [14]) (by kernel_rfl) (by simp) ?_
  refine AllReadyH.cons rfl (fun KK hK => ?_) AllReadyH.nil
  go_simp
  refine (itoa_any s _ (by omega) (tab_go (unhide HTAB) (unhide HBwb))).mono ?_
  rintro e wc ⟨rfl, hb⟩
  have HBwc : Hid (Below W1.heap.size W1 wc) := hide ((unhide HBwb).trans (hb.mono (unhide HBwb).size))
  clear hb
  have zdwc := decS_size (u := s) (by omega)
  refine hK.out _ _ (unhide HSS _ (unhide HBwc)) (fun hHeld => ?_)
  clear hK KK
  try simp only [Act.put, List.setIfInBounds_toArray, List.getElem_toArray, List.getElem_cons_succ, List.getElem_cons_zero, List.set_cons_zero, List.set_cons_succ]
  obtain ⟨x6, hx6⟩ : ∃ x, x = x5 ++ (decS s) := ⟨_, rfl⟩
  have qx6 : x5.size + (decS s).size ≤ 140000000000000 := by have hy : ((decS s) : ByteArray).size ≤ 100001 := (by omega); skip; omega
  have zx6 : x6.size ≤ 1300000 := by have hy : ((decS s) : ByteArray).size ≤ 100001 := (by omega); skip; rw [hx6, ByteArray.size_append]; omega
  refine takeAt 15 (some 20) (v := .string x6) (by decide) rfl (by kernel_rfl) (by kernel_rfl) (by kernel_rfl) (fun _ _ _ h => h) (by rfl) ?hy15a hHeld ?r15a
  case hy15a => (intro wx hSw; rw [hx6]; exact exec_add 9 9 _ _ rfl x5 (decS s) (by rfl) (by rfl) qx6 wx)
  simp only [Act.put, List.setIfInBounds_toArray, List.set_cons_zero, List.set_cons_succ]
  have Hx6 := hide hx6
  clear hx6 qx6
  obtain ⟨x7, hx7⟩ : ∃ x, x = x6 ++ (⟨#[32, 116, 111, 116, 97, 108, 32]⟩ : ByteArray) := ⟨_, rfl⟩
  have qx7 : x6.size + (⟨#[32, 116, 111, 116, 97, 108, 32]⟩ : ByteArray).size ≤ 140000000000000 := by have hy : ((⟨#[32, 116, 111, 116, 97, 108, 32]⟩ : ByteArray) : ByteArray).size ≤ 100001 := (by show _ ≤ _; decide); skip; omega
  have zx7 : x7.size ≤ 1500000 := by have hy : ((⟨#[32, 116, 111, 116, 97, 108, 32]⟩ : ByteArray) : ByteArray).size ≤ 100001 := (by show _ ≤ _; decide); skip; rw [hx7, ByteArray.size_append]; omega
  refine takeAt 16 (some 21) (v := .string x7) (by decide) rfl (by kernel_rfl) (by kernel_rfl) (by kernel_rfl) (fun _ _ _ h => h) (by rfl) ?hy16a hHeld ?r16a
  case hy16a => (intro wx hSw; rw [hx7]; exact exec_add 9 9 _ _ rfl x6 (⟨#[32, 116, 111, 116, 97, 108, 32]⟩ : ByteArray) (by rfl) (by rfl) qx7 wx)
  simp only [Act.put, List.setIfInBounds_toArray, List.set_cons_zero, List.set_cons_succ]
  have Hx7 := hide hx7
  clear hx7 qx7
  refine wpAnyH_ready (rs := [19]) (by kernel_rfl) (by simp) ?_
  refine AllReadyH.cons rfl (fun KK hK => ?_) AllReadyH.nil
  go_simp
  refine (itoa_any t _ (by omega) (tab_go (unhide HTAB) (unhide HBwc))).mono ?_
  rintro e wd ⟨rfl, hb⟩
  have HBwd : Hid (Below W1.heap.size W1 wd) := hide ((unhide HBwc).trans (hb.mono (unhide HBwc).size))
  clear hb
  have zdwd := decS_size (u := t) (by omega)
  refine hK.out _ _ (unhide HSS _ (unhide HBwd)) (fun hHeld => ?_)
  clear hK KK
  try simp only [Act.put, List.setIfInBounds_toArray, List.getElem_toArray, List.getElem_cons_succ, List.getElem_cons_zero, List.set_cons_zero, List.set_cons_succ]
  obtain ⟨x8, hx8⟩ : ∃ x, x = x7 ++ (decS t) := ⟨_, rfl⟩
  have qx8 : x7.size + (decS t).size ≤ 140000000000000 := by have hy : ((decS t) : ByteArray).size ≤ 100001 := (by omega); skip; omega
  have zx8 : x8.size ≤ 1700000 := by have hy : ((decS t) : ByteArray).size ≤ 100001 := (by omega); skip; rw [hx8, ByteArray.size_append]; omega
  refine takeAt 20 (some 25) (v := .string x8) (by decide) rfl (by kernel_rfl) (by kernel_rfl) (by kernel_rfl) (fun _ _ _ h => h) (by rfl) ?hy20a hHeld ?r20a
  case hy20a => (intro wx hSw; rw [hx8]; exact exec_add 9 9 _ _ rfl x7 (decS t) (by rfl) (by rfl) qx8 wx)
  simp only [Act.put, List.setIfInBounds_toArray, List.set_cons_zero, List.set_cons_succ]
  have Hx8 := hide hx8
  clear hx8 qx8
  obtain ⟨x9, hx9⟩ : ∃ x, x = x8 ++ (⟨#[10]⟩ : ByteArray) := ⟨_, rfl⟩
  have qx9 : x8.size + (⟨#[10]⟩ : ByteArray).size ≤ 140000000000000 := by have hy : ((⟨#[10]⟩ : ByteArray) : ByteArray).size ≤ 100001 := (by show _ ≤ _; decide); skip; omega
  have zx9 : x9.size ≤ 1900000 := by have hy : ((⟨#[10]⟩ : ByteArray) : ByteArray).size ≤ 100001 := (by show _ ≤ _; decide); skip; rw [hx9, ByteArray.size_append]; omega
  refine takeAt 21 (some 26) (v := .string x9) (by decide) rfl (by kernel_rfl) (by kernel_rfl) (by kernel_rfl) (fun _ _ _ h => h) (by rfl) ?hy21a hHeld ?r21a
  case hy21a => (intro wx hSw; rw [hx9]; exact exec_add 9 9 _ _ rfl x8 (⟨#[10]⟩ : ByteArray) (by rfl) (by rfl) qx9 wx)
  simp only [Act.put, List.setIfInBounds_toArray, List.set_cons_zero, List.set_cons_succ]
  have Hx9 := hide hx9
  clear hx9 qx9
  refine takeAt 22 (some 4) (v := ?v22a) (by decide) rfl (by kernel_rfl) (by kernel_rfl) (by kernel_rfl) (fun _ _ _ h => h) (by rfl) ?hy22a hHeld ?r22a
  case hy22a => (intro wx hSw; obtain ⟨s0, s1, s2, s3⟩ := hSw; go_simp; with_reducible rfl)
  simp only [Act.put, List.setIfInBounds_toArray, List.set_cons_zero, List.set_cons_succ]
  refine wpAnyH_done (by kernel_rfl) ?_ _
  have HLT : Hid (x9 = fnLineT k name c s t) := hide (by
    unfold fnLineT
    rw [unhide Hx9, unhide Hx8, unhide Hx7, unhide Hx6, unhide Hx5, unhide Hx4, unhide Hx3, unhide Hx2, unhide Hx1])
  have HE := hide ((unhide HBA).trans ((unhide HBwd).mono (unhide HBA).size))
  go_wp2
  go_ret
  exact ⟨by rw [← unhide HLT]; rfl, unhide HE⟩

/-- A builder whose bytes are v. -/
structure Bld (B b : Nat) (v : Value) (bs : List Value) (w : World) : Prop where
  lo : B ≤ b
  blk : ∃ p, (p = .pointer none ∨ p = .pointer (some ⟨b, 0, none⟩)) ∧ w.heap[b]? = some (.cells #[p, v] tB (0, 0))
  own : w.ownsRow B tU 1 v bs.length bs

theorem Bld.is {B b : Nat} {v : Value} {bs : List Value} {w : World} (h : Bld B b v bs w) : Lib.IsBuilder tB tU B b bs w := by
  obtain ⟨p, e, hb⟩ := h.blk
  have hne := Lib.ownBlock_ne h.own hb (by decide)
  rcases e with rfl | rfl
  · exact .inl ⟨h.lo, v, hb, h.own, hne⟩
  · exact .inr ⟨h.lo, v, hb, h.own, hne⟩

/-- What a write keeps. -/
structure BKeeps (B b : Nat) (v v' : Value) (w w' : World) : Prop where
  keeps : ∀ k, k < w.heap.size → k ≠ b → v.ownBlock ≠ some k → w'.heap[k]? = w.heap[k]?
  size : w.heap.size ≤ w'.heap.size
  news : ∀ k, v'.ownBlock = some k → v.ownBlock = some k ∨ w.heap.size ≤ k
  below : Below B w w'

set_option maxHeartbeats 2000000 in
set_option maxRecDepth 100000 in
theorem writeString_b (B b : Nat) (v : Value) (bs : List Value) (s : ByteArray) (w : World) (h : Bld B b v bs w) (hlen : bs.length + s.size ≤ 140000000000000) (hBw : B ≤ w.heap.size) :
    Calls Tryz.prog 45 #[.pointer (some ⟨b, 0, none⟩), .string s] w fun e w' => e = .returned (.tuple #[.int .i64 s.size, .nilIface]) ∧ ∃ v', Bld B b v' (bs ++ Lib.strCells s) w' ∧ BKeeps B b v v' w w' := by
  obtain ⟨i0, hi, hz0, hz1, hz2⟩ := info_parts info_byte
  have H := hide h
  have HC : Hid (Calls Tryz.prog 120 #[.pointer (some ⟨b, 0, none⟩)] w fun e w' => e = .returned (.tuple #[]) ∧ w'.heap[b]? = some (.cells #[.pointer (some ⟨b, 0, none⟩), v] tB (0, 0)) ∧ (∀ k, k ≠ b → w'.heap[k]? = w.heap[k]?) ∧ w'.heap.size = w.heap.size ∧ Below B w w') := hide (by
    obtain ⟨p, e, hb⟩ := h.blk
    have hlt : b < w.heap.size := (Array.getElem?_eq_some_iff.1 hb).1
    rcases e with rfl | rfl
    · refine (copyCheck_fresh b w (by rw [Lib.cell_of_heap hb]; rfl) (by simp [World.shape?, hb]) (Lib.frozen_of_heap hb 0)).mono ?_
      rintro e w' ⟨rfl, rfl⟩
      refine ⟨rfl, by simp [World.setCell, Array.getElem?_modify, hb], fun k hk => Below.heap_setCell _ _ _ _ hk, by simp [World.setCell], (Below.refl B w).setCell (p := ⟨b, 0, none⟩) h.lo _⟩
    · refine (copyCheck_used b w (by rw [Lib.cell_of_heap hb]; rfl)).mono ?_
      rintro e w' ⟨rfl, rfl⟩
      exact ⟨rfl, hb, fun k _ => rfl, rfl, Below.refl B _⟩)
  clear h
  go_enter Tryz.func45, Tryz.ntmps45
  go_wp2_with fail
  refine (unhide HC).mono ?_
  rintro e w1 ⟨rfl, hbk, hkp, hsz, hb1⟩
  have c0 : w1.cell? ⟨b, 0, none⟩ = some (.pointer (some ⟨b, 0, none⟩)) := by rw [Lib.cell_of_heap hbk]; rfl
  have c1 : w1.cell? ⟨b, 1, none⟩ = some v := by rw [Lib.cell_of_heap hbk]; rfl
  have hown : w1.ownsRow B tU 1 v bs.length bs := (unhide H).own.kept (row := some b) ⟨hb1.os, hb1.tape, hb1.output, by omega, fun k _ hk => hkp k (fun e => hk (by rw [e]))⟩ (.inr (by
    obtain ⟨p, -, hb⟩ := (unhide H).blk
    exact Lib.ownBlock_ne (unhide H).own hb (by decide)))
  go_wp2_with (at_builtin; refine wpList_append_str (by rfl) _ _ 22 9 (by rfl) B tU i0 Tryz.underlying22 Tryz.underlying9 hi hz0 hz1 hz2 _ _ _ (by rfl) hown s (by rfl) hlen (by omega) ?_)
  intro v' w2 hown' hgrow hnew
  have hne : v.ownBlock ≠ some b := Lib.ownBlock_ne hown hbk (by decide)
  have hlt : b < w1.heap.size := (Array.getElem?_eq_some_iff.1 hbk).1
  have hb2 : w2.heap[b]? = some (.cells #[.pointer (some ⟨b, 0, none⟩), v] tB (0, 0)) := by
    rw [hgrow.block b hlt (fun e => hne e.symm)]
    exact hbk
  have d0 : w2.cell? ⟨b, 0, none⟩ = some (.pointer (some ⟨b, 0, none⟩)) := by rw [Lib.cell_of_heap hb2]; rfl
  have d1 : w2.cell? ⟨b, 1, none⟩ = some v := by rw [Lib.cell_of_heap hb2]; rfl
  have f1 : w2.frozen? ⟨b, 1, none⟩ = false := Lib.frozen_of_heap hb2 1
  obtain ⟨ao, n', cap, rfl⟩ : ∃ ao n' cap, v' = .slice ao n' cap := by
    rcases hown'.2 with ⟨hv, _⟩ | ⟨g, cap, cur, hv, _⟩
    · exact ⟨_, _, _, hv⟩
    · exact ⟨_, _, _, hv⟩
  have HO2 := hide hown'
  have HG := hide hgrow
  have HN := hide hnew
  have HK := hide hkp
  have HB1 := hide hb1
  clear hown' hgrow hnew hkp hb1
  go_wp2
  go_ret2
  refine ⟨rfl, .slice ao n' cap, ⟨(unhide H).lo, ⟨_, .inr rfl, by simp [World.setCell, Array.getElem?_modify, hb2]⟩, ?_⟩, ⟨fun k hk hkb hko => ?_, ?_, fun k hk => ?_, ?_⟩⟩
  · have hne2 := Lib.ownBlock_ne (unhide HO2) hb2 (by decide)
    have := (unhide HO2).kept (row := some b) (w' := w2.setCell ⟨b, 1, none⟩ (.slice ao n' cap)) ⟨rfl, rfl, rfl, by simp [World.setCell], fun k _ hk => Below.heap_setCell _ _ _ _ (fun e => hk (by simp [e]))⟩ (Or.inr hne2)
    rw [List.length_append, Lib.strCells_length]
    exact this
  · rw [Below.heap_setCell _ _ _ _ (show k ≠ (⟨b, 1, none⟩ : Addr).block from hkb), (unhide HG).block k (by omega) (fun e => hko e.symm), unhide HK k hkb]
  · have := (unhide HG).size
    simp [World.setCell]; omega
  · rcases unhide HN k hk with e | e
    · exact .inl e
    · exact .inr (by omega)
  · exact ((unhide HB1).grown (unhide HG) (by omega) (fun k hk => (hown.lt k hk).1)).setCell (p := ⟨b, 1, none⟩) (unhide H).lo _
end Go.Proofs.YtmnmeaeicjhkhaaGreatDoor
