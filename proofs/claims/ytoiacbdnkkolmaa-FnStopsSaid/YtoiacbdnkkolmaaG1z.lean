import Derived.Test.YtoiacbdnkkolmaaGDbz
import Derived.Test.YtoiacbdnkkolmaaGDcz
import Derived.Test.YtoiacbdnkkolmaaGE0z
namespace Go.Proofs.Ytoiacbdnkkolmaa
open Go.RowKit

attribute [local go_sem ↓] Go.wp_at_zero Go.wp_at_succ

/-- What a drawn stop is: one by StopOk. -/
def StopDrawn (e : Ending) : Prop := ∃ s : Sp, e = .returned (.agg #[.int .i64 s.kind, .int .i64 s.fn, .int .i64 s.line, .string s.name]) ∧ StopIs s ∧ s.name.size ≤ 40

theorem size_one (d : Int) : (strOfNums [d]).size = 1 := rfl

theorem Betw.below1 {pc : Nat} {w w' : World} (h : Betw pc (pc + 1) w w') (hp : pc ≤ w.heap.size) : Below pc w w' := h.below hp

theorem bytes_cur {w : World} {v : Value} {len : Nat} (h : BytesAt w v len) (hl : len ≤ 1048576) (o : Obj) :
    Cur (w.heap.size + 2) ((w.alloc o).alloc (.cells #[v, .int .i64 0, .int .u64 0] 82)) (w.heap.size + 1) len ⟨0, 0⟩ := by
  obtain ⟨a, cap, rfl, h⟩ := h
  have hs : (w.alloc o).heap.size = w.heap.size + 1 := by simp
  have hn := heap_alloc_new (w.alloc o) (.cells #[.slice a len cap, .int .i64 0, .int .u64 0] 82)
  rw [hs] at hn
  have hb : Below w.heap.size w ((w.alloc o).alloc (.cells #[.slice a len cap, .int .i64 0, .int .u64 0] 82)) := ((Below.refl _ _).alloc (Nat.le_refl _) _).alloc (by simp) _
  refine ⟨by omega, ⟨a, cap, ?_, fun i hi => ?_⟩, ?_, ?_, ?_, ?_, by decide, hl⟩
  · rw [cell_of_row _ _ 0 _ _ _ hn]; rfl
  · obtain ⟨b, off, x, ha, hc, h0, h1⟩ := h i hi
    have := cell_lt hc
    simp only at this
    exact ⟨b, off, x, ha, by omega, by omega, cell_below hb hc, h0, h1⟩
  · rw [cell_of_row _ _ 1 _ _ _ hn]; rfl
  · rw [cell_of_row _ _ 2 _ _ _ hn]; rfl
  · unfold World.frozen?; rw [hn]; rfl
  · unfold World.frozen?; rw [hn]; rfl


abbrev zeroStop : Array Value := #[.int .i64 0, .int .i64 0, .int .i64 0, .string ⟨#[]⟩]

set_option maxRecDepth 100000 in
set_option maxHeartbeats 4000000 in
theorem stop_any (K pc len : Nat) (c : Cu) (w : World) (h : Cur K w pc len c) (hK : K ≤ w.heap.size) (hat : c.at_ < 4611686018427387800) :
    Calls Try.prog 64 #[.pointer (some ⟨pc, 0, none⟩)] w fun e w' => StopDrawn e ∧ Below pc w w' := by
  have hpc : pc < K := h.hk
  have hpw : pc ≤ w.heap.size := by omega
  have H0 := hide (h.below ((below_new w (.cells #[.int .i64 0, .int .i64 0, .int .i64 0, .string ⟨#[]⟩] 52)).mono hK))
  have BX0 := hide (heap_alloc_new w (.cells #[.int .i64 0, .int .i64 0, .int .i64 0, .string ⟨#[]⟩] 52))
  have HB0 := hide ((below_new w (.cells #[.int .i64 0, .int .i64 0, .int .i64 0, .string ⟨#[]⟩] 52)).mono hpw)
  clear h
  go_enter Try.func64, Try.ntmps64
  go_wp2_with fail
  refine (pick_any K pc len c 6 _ (unhide H0) (by omega) (by omega) (by omega)).mono ?_
  rintro e w1 ⟨⟨x, c1, rfl, hd, hc1⟩, hb1⟩
  have hat1 : c1.at_ < 4611686018427387801 := by rw [hd.at1]; omega
  obtain ⟨r, hr⟩ : ∃ r, r = x % 6 := ⟨_, rfl⟩
  rw [← hr]
  have hr6 : r < 6 := by omega
  have HC1 := hide hc1
  have HB1 := hide ((unhide HB0).trans (hb1.below1 (by simp; omega)))
  have BX1 := hide ((hb1.block w.heap.size (by simp) (.inr (by omega))).trans (unhide BX0))
  have hs1 : w.heap.size + 1 ≤ w1.heap.size := by have := hb1.size; simpa using this
  clear hd hc1 hb1 hr H0 BX0 HB0
  rcases (by omega : r = 0 ∨ r = 1 ∨ r = 2 ∨ r = 3 ∨ r = 4 ∨ r = 5) with rfl | rfl | rfl | rfl | rfl | rfl
  · go_wp2_with fail
    refine (pick_any K pc len c1 4 _ (unhide HC1) (by omega) (by omega) (by omega)).mono ?_
    rintro e w2 ⟨⟨x1, c2, rfl, hd, hc⟩, hb⟩
    have hat2 : c2.at_ < 4611686018427387802 := by rw [hd.at1]; omega
    obtain ⟨p1, hv⟩ : ∃ r, r = x1 % 4 := ⟨_, rfl⟩
    rw [← hv]
    have hp1 : p1 < 4 := by omega
    have HC2 := hide hc
    have HB2 := hide ((unhide HB1).trans (hb.below1 (by omega)))
    have BX2 := hide ((hb.block w.heap.size (by omega) (.inr (by omega))).trans (unhide BX1))
    have hs2 : w.heap.size + 1 ≤ w2.heap.size := Nat.le_trans hs1 hb.size
    clear hd hc hb hv HC1 HB1 BX1
    go_wp2_with fail
    refine (pick_any K pc len c2 4 _ (unhide HC2) (by omega) (by omega) (by omega)).mono ?_
    rintro e w3 ⟨⟨x2, c3, rfl, hd, hc⟩, hb⟩
    have hat3 : c3.at_ < 4611686018427387803 := by rw [hd.at1]; omega
    obtain ⟨p2, hv⟩ : ∃ r, r = x2 % 4 := ⟨_, rfl⟩
    rw [← hv]
    have hp2 : p2 < 4 := by omega
    have HC3 := hide hc
    have HB3 := hide ((unhide HB2).trans (hb.below1 (by omega)))
    have BX3 := hide ((hb.block w.heap.size (by omega) (.inr (by omega))).trans (unhide BX2))
    have hs3 : w.heap.size + 1 ≤ w3.heap.size := Nat.le_trans hs2 hb.size
    clear hd hc hb hv HC2 HB2 BX2
    have wl : IntKind.i64.wrap (1 + (p2 : Int)) = 1 + (p2 : Int) := by rw [IntKind.wrap_i64]; omega
    have r0 : w3.cell? ⟨w.heap.size, 0, none⟩ = some (.int .i64 0) := by rw [cell_of_row w3 w.heap.size 0 _ _ _ (unhide BX3)]; rfl
    have f0 : w3.frozen? ⟨w.heap.size, 0, none⟩ = false := by simp [World.frozen?, show w3.heap[w.heap.size]? = _ from unhide BX3]
    have r1 : w3.cell? ⟨w.heap.size, 1, none⟩ = some (.int .i64 0) := by rw [cell_of_row w3 w.heap.size 1 _ _ _ (unhide BX3)]; rfl
    have f1 : w3.frozen? ⟨w.heap.size, 1, none⟩ = false := by simp [World.frozen?, show w3.heap[w.heap.size]? = _ from unhide BX3]
    have r2 : w3.cell? ⟨w.heap.size, 2, none⟩ = some (.int .i64 0) := by rw [cell_of_row w3 w.heap.size 2 _ _ _ (unhide BX3)]; rfl
    have f2 : w3.frozen? ⟨w.heap.size, 2, none⟩ = false := by simp [World.frozen?, show w3.heap[w.heap.size]? = _ from unhide BX3]
    have r3 : w3.cell? ⟨w.heap.size, 3, none⟩ = some (.string ⟨#[]⟩) := by rw [cell_of_row w3 w.heap.size 3 _ _ _ (unhide BX3)]; rfl
    have f3 : w3.frozen? ⟨w.heap.size, 3, none⟩ = false := by simp [World.frozen?, show w3.heap[w.heap.size]? = _ from unhide BX3]
    go_wp2
    refine bodyPost_ret (v := .agg #[.int .i64 1, .int .i64 (p1 : Int), .int .i64 (1 + (p2 : Int)), .string ⟨#[]⟩]) (by simp [results, Try.results64, go_sem, r0, r1, r2, r3]) rfl ?_
    refine ⟨⟨⟨1, (p1 : Int), (1 + (p2 : Int)), ⟨#[]⟩⟩, rfl, ⟨by show (0 : Int) ≤ (p1 : Int); omega, by show (p1 : Int) < 300; omega, .inl ⟨rfl, by show (1 : Int) ≤ 1 + (p2 : Int); omega, by show 1 + (p2 : Int) ≤ 100000; omega, rfl⟩⟩, Nat.zero_le _⟩, ?_⟩
    exact ((((unhide HB3).setCell (p := ⟨w.heap.size, 0, none⟩) hpw _).setCell (p := ⟨w.heap.size, 1, none⟩) hpw _).setCell (p := ⟨w.heap.size, 2, none⟩) hpw _).setCell (p := ⟨w.heap.size, 3, none⟩) hpw _
  · go_wp2_with fail
    refine (pick_any K pc len c1 4 _ (unhide HC1) (by omega) (by omega) (by omega)).mono ?_
    rintro e w2 ⟨⟨x1, c2, rfl, hd, hc⟩, hb⟩
    have hat2 : c2.at_ < 4611686018427387802 := by rw [hd.at1]; omega
    obtain ⟨p1, hv⟩ : ∃ r, r = x1 % 4 := ⟨_, rfl⟩
    rw [← hv]
    have hp1 : p1 < 4 := by omega
    have HC2 := hide hc
    have HB2 := hide ((unhide HB1).trans (hb.below1 (by omega)))
    have BX2 := hide ((hb.block w.heap.size (by omega) (.inr (by omega))).trans (unhide BX1))
    have hs2 : w.heap.size + 1 ≤ w2.heap.size := Nat.le_trans hs1 hb.size
    clear hd hc hb hv HC1 HB1 BX1
    go_wp2_with fail
    refine (pick_any K pc len c2 4 _ (unhide HC2) (by omega) (by omega) (by omega)).mono ?_
    rintro e w3 ⟨⟨x2, c3, rfl, hd, hc⟩, hb⟩
    have hat3 : c3.at_ < 4611686018427387803 := by rw [hd.at1]; omega
    obtain ⟨p2, hv⟩ : ∃ r, r = x2 % 4 := ⟨_, rfl⟩
    rw [← hv]
    have hp2 : p2 < 4 := by omega
    have HC3 := hide hc
    have HB3 := hide ((unhide HB2).trans (hb.below1 (by omega)))
    have BX3 := hide ((hb.block w.heap.size (by omega) (.inr (by omega))).trans (unhide BX2))
    have hs3 : w.heap.size + 1 ≤ w3.heap.size := Nat.le_trans hs2 hb.size
    clear hd hc hb hv HC2 HB2 BX2
    have wl : IntKind.i64.wrap (1 + (p2 : Int)) = 1 + (p2 : Int) := by rw [IntKind.wrap_i64]; omega
    have r0 : w3.cell? ⟨w.heap.size, 0, none⟩ = some (.int .i64 0) := by rw [cell_of_row w3 w.heap.size 0 _ _ _ (unhide BX3)]; rfl
    have f0 : w3.frozen? ⟨w.heap.size, 0, none⟩ = false := by simp [World.frozen?, show w3.heap[w.heap.size]? = _ from unhide BX3]
    have r1 : w3.cell? ⟨w.heap.size, 1, none⟩ = some (.int .i64 0) := by rw [cell_of_row w3 w.heap.size 1 _ _ _ (unhide BX3)]; rfl
    have f1 : w3.frozen? ⟨w.heap.size, 1, none⟩ = false := by simp [World.frozen?, show w3.heap[w.heap.size]? = _ from unhide BX3]
    have r2 : w3.cell? ⟨w.heap.size, 2, none⟩ = some (.int .i64 0) := by rw [cell_of_row w3 w.heap.size 2 _ _ _ (unhide BX3)]; rfl
    have f2 : w3.frozen? ⟨w.heap.size, 2, none⟩ = false := by simp [World.frozen?, show w3.heap[w.heap.size]? = _ from unhide BX3]
    have r3 : w3.cell? ⟨w.heap.size, 3, none⟩ = some (.string ⟨#[]⟩) := by rw [cell_of_row w3 w.heap.size 3 _ _ _ (unhide BX3)]; rfl
    have f3 : w3.frozen? ⟨w.heap.size, 3, none⟩ = false := by simp [World.frozen?, show w3.heap[w.heap.size]? = _ from unhide BX3]
    go_wp2
    refine bodyPost_ret (v := .agg #[.int .i64 1, .int .i64 (p1 : Int), .int .i64 (1 + (p2 : Int)), .string ⟨#[]⟩]) (by simp [results, Try.results64, go_sem, r0, r1, r2, r3]) rfl ?_
    refine ⟨⟨⟨1, (p1 : Int), (1 + (p2 : Int)), ⟨#[]⟩⟩, rfl, ⟨by show (0 : Int) ≤ (p1 : Int); omega, by show (p1 : Int) < 300; omega, .inl ⟨rfl, by show (1 : Int) ≤ 1 + (p2 : Int); omega, by show 1 + (p2 : Int) ≤ 100000; omega, rfl⟩⟩, Nat.zero_le _⟩, ?_⟩
    exact ((((unhide HB3).setCell (p := ⟨w.heap.size, 0, none⟩) hpw _).setCell (p := ⟨w.heap.size, 1, none⟩) hpw _).setCell (p := ⟨w.heap.size, 2, none⟩) hpw _).setCell (p := ⟨w.heap.size, 3, none⟩) hpw _
  · go_wp2_with fail
    refine (pick_any K pc len c1 4 _ (unhide HC1) (by omega) (by omega) (by omega)).mono ?_
    rintro e w2 ⟨⟨x1, c2, rfl, hd, hc⟩, hb⟩
    have hat2 : c2.at_ < 4611686018427387802 := by rw [hd.at1]; omega
    obtain ⟨p1, hv⟩ : ∃ r, r = x1 % 4 := ⟨_, rfl⟩
    rw [← hv]
    have hp1 : p1 < 4 := by omega
    have HC2 := hide hc
    have HB2 := hide ((unhide HB1).trans (hb.below1 (by omega)))
    have BX2 := hide ((hb.block w.heap.size (by omega) (.inr (by omega))).trans (unhide BX1))
    have hs2 : w.heap.size + 1 ≤ w2.heap.size := Nat.le_trans hs1 hb.size
    clear hd hc hb hv HC1 HB1 BX1
    have r0 : w2.cell? ⟨w.heap.size, 0, none⟩ = some (.int .i64 0) := by rw [cell_of_row w2 w.heap.size 0 _ _ _ (unhide BX2)]; rfl
    have f0 : w2.frozen? ⟨w.heap.size, 0, none⟩ = false := by simp [World.frozen?, show w2.heap[w.heap.size]? = _ from unhide BX2]
    have r1 : w2.cell? ⟨w.heap.size, 1, none⟩ = some (.int .i64 0) := by rw [cell_of_row w2 w.heap.size 1 _ _ _ (unhide BX2)]; rfl
    have f1 : w2.frozen? ⟨w.heap.size, 1, none⟩ = false := by simp [World.frozen?, show w2.heap[w.heap.size]? = _ from unhide BX2]
    have r2 : w2.cell? ⟨w.heap.size, 2, none⟩ = some (.int .i64 0) := by rw [cell_of_row w2 w.heap.size 2 _ _ _ (unhide BX2)]; rfl
    have f2 : w2.frozen? ⟨w.heap.size, 2, none⟩ = false := by simp [World.frozen?, show w2.heap[w.heap.size]? = _ from unhide BX2]
    have r3 : w2.cell? ⟨w.heap.size, 3, none⟩ = some (.string ⟨#[]⟩) := by rw [cell_of_row w2 w.heap.size 3 _ _ _ (unhide BX2)]; rfl
    have f3 : w2.frozen? ⟨w.heap.size, 3, none⟩ = false := by simp [World.frozen?, show w2.heap[w.heap.size]? = _ from unhide BX2]
    go_wp2
    refine bodyPost_ret (v := .agg #[.int .i64 2, .int .i64 (p1 : Int), .int .i64 0, .string ⟨#[]⟩]) (by simp [results, Try.results64, go_sem, r0, r1, r2, r3]) rfl ?_
    refine ⟨⟨⟨2, (p1 : Int), 0, ⟨#[]⟩⟩, rfl, ⟨by show (0 : Int) ≤ (p1 : Int); omega, by show (p1 : Int) < 300; omega, .inr (.inl ⟨rfl, rfl, rfl⟩)⟩, Nat.zero_le _⟩, ?_⟩
    exact ((((unhide HB2).setCell (p := ⟨w.heap.size, 0, none⟩) hpw _).setCell (p := ⟨w.heap.size, 1, none⟩) hpw _).setCell (p := ⟨w.heap.size, 2, none⟩) hpw _).setCell (p := ⟨w.heap.size, 3, none⟩) hpw _
  · go_wp2_with fail
    refine (pick_any K pc len c1 4 _ (unhide HC1) (by omega) (by omega) (by omega)).mono ?_
    rintro e w2 ⟨⟨x1, c2, rfl, hd, hc⟩, hb⟩
    have hat2 : c2.at_ < 4611686018427387802 := by rw [hd.at1]; omega
    obtain ⟨p1, hv⟩ : ∃ r, r = x1 % 4 := ⟨_, rfl⟩
    rw [← hv]
    have hp1 : p1 < 4 := by omega
    have HC2 := hide hc
    have HB2 := hide ((unhide HB1).trans (hb.below1 (by omega)))
    have BX2 := hide ((hb.block w.heap.size (by omega) (.inr (by omega))).trans (unhide BX1))
    have hs2 : w.heap.size + 1 ≤ w2.heap.size := Nat.le_trans hs1 hb.size
    clear hd hc hb hv HC1 HB1 BX1
    go_wp2_with fail
    refine (pick_any K pc len c2 3 _ (unhide HC2) (by omega) (by omega) (by omega)).mono ?_
    rintro e w3 ⟨⟨x2, c3, rfl, hd, hc⟩, hb⟩
    have hat3 : c3.at_ < 4611686018427387803 := by rw [hd.at1]; omega
    obtain ⟨p2, hv⟩ : ∃ r, r = x2 % 3 := ⟨_, rfl⟩
    rw [← hv]
    have hp2 : p2 < 3 := by omega
    have HC3 := hide hc
    have HB3 := hide ((unhide HB2).trans (hb.below1 (by omega)))
    have BX3 := hide ((hb.block w.heap.size (by omega) (.inr (by omega))).trans (unhide BX2))
    have hs3 : w.heap.size + 1 ≤ w3.heap.size := Nat.le_trans hs2 hb.size
    clear hd hc hb hv HC2 HB2 BX2
    have wl : IntKind.i64.wrap (97 + (p2 : Int)) = 97 + (p2 : Int) := by rw [IntKind.wrap_i64]; omega
    have wu : IntKind.u8.wrap (97 + (p2 : Int)) = 97 + (p2 : Int) := by rw [wrap_u8']; omega
    have BN := hide (below_new w3 (.cells #[.int .u8 (97 + (p2 : Int))] 5))
    have ec := conv_one (w3.alloc (.cells #[.int .u8 (97 + (p2 : Int))] 5)) w3.heap.size (97 + (p2 : Int)) (by rw [cell_of_row _ _ 0 _ _ _ (heap_alloc_new w3 _)]; rfl)
    have HB4 := hide ((unhide HB3).trans ((unhide BN).mono (by omega)))
    have BX4 := hide (((unhide BN).block w.heap.size (by omega)).trans (unhide BX3))
    have r0 : (w3.alloc (.cells #[.int .u8 (97 + (p2 : Int))] 5)).cell? ⟨w.heap.size, 0, none⟩ = some (.int .i64 0) := by rw [cell_of_row (w3.alloc (.cells #[.int .u8 (97 + (p2 : Int))] 5)) w.heap.size 0 _ _ _ (unhide BX4)]; rfl
    have f0 : (w3.alloc (.cells #[.int .u8 (97 + (p2 : Int))] 5)).frozen? ⟨w.heap.size, 0, none⟩ = false := by simp [World.frozen?, show (w3.alloc (.cells #[.int .u8 (97 + (p2 : Int))] 5)).heap[w.heap.size]? = _ from unhide BX4]
    have r1 : (w3.alloc (.cells #[.int .u8 (97 + (p2 : Int))] 5)).cell? ⟨w.heap.size, 1, none⟩ = some (.int .i64 0) := by rw [cell_of_row (w3.alloc (.cells #[.int .u8 (97 + (p2 : Int))] 5)) w.heap.size 1 _ _ _ (unhide BX4)]; rfl
    have f1 : (w3.alloc (.cells #[.int .u8 (97 + (p2 : Int))] 5)).frozen? ⟨w.heap.size, 1, none⟩ = false := by simp [World.frozen?, show (w3.alloc (.cells #[.int .u8 (97 + (p2 : Int))] 5)).heap[w.heap.size]? = _ from unhide BX4]
    have r2 : (w3.alloc (.cells #[.int .u8 (97 + (p2 : Int))] 5)).cell? ⟨w.heap.size, 2, none⟩ = some (.int .i64 0) := by rw [cell_of_row (w3.alloc (.cells #[.int .u8 (97 + (p2 : Int))] 5)) w.heap.size 2 _ _ _ (unhide BX4)]; rfl
    have f2 : (w3.alloc (.cells #[.int .u8 (97 + (p2 : Int))] 5)).frozen? ⟨w.heap.size, 2, none⟩ = false := by simp [World.frozen?, show (w3.alloc (.cells #[.int .u8 (97 + (p2 : Int))] 5)).heap[w.heap.size]? = _ from unhide BX4]
    have r3 : (w3.alloc (.cells #[.int .u8 (97 + (p2 : Int))] 5)).cell? ⟨w.heap.size, 3, none⟩ = some (.string ⟨#[]⟩) := by rw [cell_of_row (w3.alloc (.cells #[.int .u8 (97 + (p2 : Int))] 5)) w.heap.size 3 _ _ _ (unhide BX4)]; rfl
    have f3 : (w3.alloc (.cells #[.int .u8 (97 + (p2 : Int))] 5)).frozen? ⟨w.heap.size, 3, none⟩ = false := by simp [World.frozen?, show (w3.alloc (.cells #[.int .u8 (97 + (p2 : Int))] 5)).heap[w.heap.size]? = _ from unhide BX4]
    go_wp2
    refine bodyPost_ret (v := .agg #[.int .i64 3, .int .i64 (p1 : Int), .int .i64 0, .string (strOfNums [97 + (p2 : Int)])]) (by simp [results, Try.results64, go_sem, r0, r1, r2, r3]) rfl ?_
    refine ⟨⟨⟨3, (p1 : Int), 0, (strOfNums [97 + (p2 : Int)])⟩, rfl, ⟨by show (0 : Int) ≤ (p1 : Int); omega, by show (p1 : Int) < 300; omega, .inr (.inr (.inl ⟨rfl, rfl, Nat.le_refl _, by show (strOfNums [97 + (p2 : Int)]).size ≤ 40; rw [size_one]; omega⟩))⟩, by show (strOfNums [97 + (p2 : Int)]).size ≤ 40; rw [size_one]; omega⟩, ?_⟩
    exact ((((unhide HB4).setCell (p := ⟨w.heap.size, 0, none⟩) hpw _).setCell (p := ⟨w.heap.size, 1, none⟩) hpw _).setCell (p := ⟨w.heap.size, 2, none⟩) hpw _).setCell (p := ⟨w.heap.size, 3, none⟩) hpw _
  · go_wp2_with fail
    refine (pick_any K pc len c1 4 _ (unhide HC1) (by omega) (by omega) (by omega)).mono ?_
    rintro e w2 ⟨⟨x1, c2, rfl, hd, hc⟩, hb⟩
    have hat2 : c2.at_ < 4611686018427387802 := by rw [hd.at1]; omega
    obtain ⟨p1, hv⟩ : ∃ r, r = x1 % 4 := ⟨_, rfl⟩
    rw [← hv]
    have hp1 : p1 < 4 := by omega
    have HC2 := hide hc
    have HB2 := hide ((unhide HB1).trans (hb.below1 (by omega)))
    have BX2 := hide ((hb.block w.heap.size (by omega) (.inr (by omega))).trans (unhide BX1))
    have hs2 : w.heap.size + 1 ≤ w2.heap.size := Nat.le_trans hs1 hb.size
    clear hd hc hb hv HC1 HB1 BX1
    go_wp2_with fail
    refine (pick_any K pc len c2 3 _ (unhide HC2) (by omega) (by omega) (by omega)).mono ?_
    rintro e w3 ⟨⟨x2, c3, rfl, hd, hc⟩, hb⟩
    have hat3 : c3.at_ < 4611686018427387803 := by rw [hd.at1]; omega
    obtain ⟨p2, hv⟩ : ∃ r, r = x2 % 3 := ⟨_, rfl⟩
    rw [← hv]
    have hp2 : p2 < 3 := by omega
    have HC3 := hide hc
    have HB3 := hide ((unhide HB2).trans (hb.below1 (by omega)))
    have BX3 := hide ((hb.block w.heap.size (by omega) (.inr (by omega))).trans (unhide BX2))
    have hs3 : w.heap.size + 1 ≤ w3.heap.size := Nat.le_trans hs2 hb.size
    clear hd hc hb hv HC2 HB2 BX2
    have wl : IntKind.i64.wrap (97 + (p2 : Int)) = 97 + (p2 : Int) := by rw [IntKind.wrap_i64]; omega
    have wu : IntKind.u8.wrap (97 + (p2 : Int)) = 97 + (p2 : Int) := by rw [wrap_u8']; omega
    have BN := hide (below_new w3 (.cells #[.int .u8 (97 + (p2 : Int))] 5))
    have ec := conv_one (w3.alloc (.cells #[.int .u8 (97 + (p2 : Int))] 5)) w3.heap.size (97 + (p2 : Int)) (by rw [cell_of_row _ _ 0 _ _ _ (heap_alloc_new w3 _)]; rfl)
    have HB4 := hide ((unhide HB3).trans ((unhide BN).mono (by omega)))
    have BX4 := hide (((unhide BN).block w.heap.size (by omega)).trans (unhide BX3))
    have r0 : (w3.alloc (.cells #[.int .u8 (97 + (p2 : Int))] 5)).cell? ⟨w.heap.size, 0, none⟩ = some (.int .i64 0) := by rw [cell_of_row (w3.alloc (.cells #[.int .u8 (97 + (p2 : Int))] 5)) w.heap.size 0 _ _ _ (unhide BX4)]; rfl
    have f0 : (w3.alloc (.cells #[.int .u8 (97 + (p2 : Int))] 5)).frozen? ⟨w.heap.size, 0, none⟩ = false := by simp [World.frozen?, show (w3.alloc (.cells #[.int .u8 (97 + (p2 : Int))] 5)).heap[w.heap.size]? = _ from unhide BX4]
    have r1 : (w3.alloc (.cells #[.int .u8 (97 + (p2 : Int))] 5)).cell? ⟨w.heap.size, 1, none⟩ = some (.int .i64 0) := by rw [cell_of_row (w3.alloc (.cells #[.int .u8 (97 + (p2 : Int))] 5)) w.heap.size 1 _ _ _ (unhide BX4)]; rfl
    have f1 : (w3.alloc (.cells #[.int .u8 (97 + (p2 : Int))] 5)).frozen? ⟨w.heap.size, 1, none⟩ = false := by simp [World.frozen?, show (w3.alloc (.cells #[.int .u8 (97 + (p2 : Int))] 5)).heap[w.heap.size]? = _ from unhide BX4]
    have r2 : (w3.alloc (.cells #[.int .u8 (97 + (p2 : Int))] 5)).cell? ⟨w.heap.size, 2, none⟩ = some (.int .i64 0) := by rw [cell_of_row (w3.alloc (.cells #[.int .u8 (97 + (p2 : Int))] 5)) w.heap.size 2 _ _ _ (unhide BX4)]; rfl
    have f2 : (w3.alloc (.cells #[.int .u8 (97 + (p2 : Int))] 5)).frozen? ⟨w.heap.size, 2, none⟩ = false := by simp [World.frozen?, show (w3.alloc (.cells #[.int .u8 (97 + (p2 : Int))] 5)).heap[w.heap.size]? = _ from unhide BX4]
    have r3 : (w3.alloc (.cells #[.int .u8 (97 + (p2 : Int))] 5)).cell? ⟨w.heap.size, 3, none⟩ = some (.string ⟨#[]⟩) := by rw [cell_of_row (w3.alloc (.cells #[.int .u8 (97 + (p2 : Int))] 5)) w.heap.size 3 _ _ _ (unhide BX4)]; rfl
    have f3 : (w3.alloc (.cells #[.int .u8 (97 + (p2 : Int))] 5)).frozen? ⟨w.heap.size, 3, none⟩ = false := by simp [World.frozen?, show (w3.alloc (.cells #[.int .u8 (97 + (p2 : Int))] 5)).heap[w.heap.size]? = _ from unhide BX4]
    go_wp2
    refine bodyPost_ret (v := .agg #[.int .i64 3, .int .i64 (p1 : Int), .int .i64 0, .string (strOfNums [97 + (p2 : Int)])]) (by simp [results, Try.results64, go_sem, r0, r1, r2, r3]) rfl ?_
    refine ⟨⟨⟨3, (p1 : Int), 0, (strOfNums [97 + (p2 : Int)])⟩, rfl, ⟨by show (0 : Int) ≤ (p1 : Int); omega, by show (p1 : Int) < 300; omega, .inr (.inr (.inl ⟨rfl, rfl, Nat.le_refl _, by show (strOfNums [97 + (p2 : Int)]).size ≤ 40; rw [size_one]; omega⟩))⟩, by show (strOfNums [97 + (p2 : Int)]).size ≤ 40; rw [size_one]; omega⟩, ?_⟩
    exact ((((unhide HB4).setCell (p := ⟨w.heap.size, 0, none⟩) hpw _).setCell (p := ⟨w.heap.size, 1, none⟩) hpw _).setCell (p := ⟨w.heap.size, 2, none⟩) hpw _).setCell (p := ⟨w.heap.size, 3, none⟩) hpw _
  · have r0 : w1.cell? ⟨w.heap.size, 0, none⟩ = some (.int .i64 0) := by rw [cell_of_row w1 w.heap.size 0 _ _ _ (unhide BX1)]; rfl
    have f0 : w1.frozen? ⟨w.heap.size, 0, none⟩ = false := by simp [World.frozen?, show w1.heap[w.heap.size]? = _ from unhide BX1]
    have r1 : w1.cell? ⟨w.heap.size, 1, none⟩ = some (.int .i64 0) := by rw [cell_of_row w1 w.heap.size 1 _ _ _ (unhide BX1)]; rfl
    have f1 : w1.frozen? ⟨w.heap.size, 1, none⟩ = false := by simp [World.frozen?, show w1.heap[w.heap.size]? = _ from unhide BX1]
    have r2 : w1.cell? ⟨w.heap.size, 2, none⟩ = some (.int .i64 0) := by rw [cell_of_row w1 w.heap.size 2 _ _ _ (unhide BX1)]; rfl
    have f2 : w1.frozen? ⟨w.heap.size, 2, none⟩ = false := by simp [World.frozen?, show w1.heap[w.heap.size]? = _ from unhide BX1]
    have r3 : w1.cell? ⟨w.heap.size, 3, none⟩ = some (.string ⟨#[]⟩) := by rw [cell_of_row w1 w.heap.size 3 _ _ _ (unhide BX1)]; rfl
    have f3 : w1.frozen? ⟨w.heap.size, 3, none⟩ = false := by simp [World.frozen?, show w1.heap[w.heap.size]? = _ from unhide BX1]
    go_wp2
    refine bodyPost_ret (v := .agg #[.int .i64 4, .int .i64 0, .int .i64 0, .string ⟨#[]⟩]) (by simp [results, Try.results64, go_sem, r0, r1, r2, r3]) rfl ?_
    refine ⟨⟨⟨4, 0, 0, ⟨#[]⟩⟩, rfl, ⟨Int.le_refl _, by show (0 : Int) < 300; omega, .inr (.inr (.inr ⟨rfl, rfl, rfl, rfl⟩))⟩, Nat.zero_le _⟩, ?_⟩
    exact ((((unhide HB1).setCell (p := ⟨w.heap.size, 0, none⟩) hpw _).setCell (p := ⟨w.heap.size, 1, none⟩) hpw _).setCell (p := ⟨w.heap.size, 2, none⟩) hpw _).setCell (p := ⟨w.heap.size, 3, none⟩) hpw _

set_option maxRecDepth 100000 in
set_option maxHeartbeats 2000000 in
theorem anyStop_any (v : Value) (len : Nat) (w : World) (h : BytesAt w v len) (hl : len ≤ 1048576) :
    Calls Try.prog 20 #[v] w fun e w' => StopDrawn e ∧ Below w.heap.size w w' := by
  have H := hide (bytes_cur h hl (.cells zeroStop 52))
  obtain ⟨a, cap, rfl, _⟩ := h
  have HB0 : Hid (Below w.heap.size w ((w.alloc (.cells zeroStop 52)).alloc (.cells #[.slice a len cap, .int .i64 0, .int .u64 0] 82))) := hide (((Below.refl _ _).alloc (Nat.le_refl _) _).alloc (by simp) _)
  have BX0 : Hid (((w.alloc (.cells zeroStop 52)).alloc (.cells #[.slice a len cap, .int .i64 0, .int .u64 0] 82)).heap[w.heap.size]? = some (.cells zeroStop 52 (0, 0))) := by
    rw [Below.heap_alloc _ _ _ (by simp)]
    exact hide (heap_alloc_new w _)
  go_enter Try.func20, Try.ntmps20
  go_wp2_with fail
  refine (stop_any (w.heap.size + 2) (w.heap.size + 1) len ⟨0, 0⟩ _ (unhide H) (by simp) (by decide)).mono ?_
  rintro e w1 ⟨⟨s, rfl, hs, hz⟩, hb1⟩
  have BX1 := hide ((hb1.block w.heap.size (by omega)).trans (unhide BX0))
  have HB1 := hide ((unhide HB0).trans (hb1.mono (by omega)))
  have HS := hide (And.intro hs hz)
  clear hs hz hb1 BX0 HB0 H
  have r0 : w1.cell? ⟨w.heap.size, 0, none⟩ = some (.int .i64 0) := by rw [cell_of_row w1 w.heap.size 0 _ _ _ (unhide BX1)]; rfl
  have f0 : w1.frozen? ⟨w.heap.size, 0, none⟩ = false := by simp [World.frozen?, show w1.heap[w.heap.size]? = _ from unhide BX1]
  have r1 : w1.cell? ⟨w.heap.size, 1, none⟩ = some (.int .i64 0) := by rw [cell_of_row w1 w.heap.size 1 _ _ _ (unhide BX1)]; rfl
  have f1 : w1.frozen? ⟨w.heap.size, 1, none⟩ = false := by simp [World.frozen?, show w1.heap[w.heap.size]? = _ from unhide BX1]
  have r2 : w1.cell? ⟨w.heap.size, 2, none⟩ = some (.int .i64 0) := by rw [cell_of_row w1 w.heap.size 2 _ _ _ (unhide BX1)]; rfl
  have f2 : w1.frozen? ⟨w.heap.size, 2, none⟩ = false := by simp [World.frozen?, show w1.heap[w.heap.size]? = _ from unhide BX1]
  have r3 : w1.cell? ⟨w.heap.size, 3, none⟩ = some (.string ⟨#[]⟩) := by rw [cell_of_row w1 w.heap.size 3 _ _ _ (unhide BX1)]; rfl
  have f3 : w1.frozen? ⟨w.heap.size, 3, none⟩ = false := by simp [World.frozen?, show w1.heap[w.heap.size]? = _ from unhide BX1]
  go_wp2
  refine bodyPost_ret (v := .agg #[.int .i64 s.kind, .int .i64 s.fn, .int .i64 s.line, .string s.name]) (by simp [results, Try.results20, go_sem, r0, r1, r2, r3]) rfl ?_
  refine ⟨⟨s, rfl, (unhide HS).1, (unhide HS).2⟩, ?_⟩
  exact ((((unhide HB1).setCell (p := ⟨w.heap.size, 0, none⟩) (Nat.le_refl _) _).setCell (p := ⟨w.heap.size, 1, none⟩) (Nat.le_refl _) _).setCell (p := ⟨w.heap.size, 2, none⟩) (Nat.le_refl _) _).setCell (p := ⟨w.heap.size, 3, none⟩) (Nat.le_refl _) _
end Go.Proofs.Ytoiacbdnkkolmaa
