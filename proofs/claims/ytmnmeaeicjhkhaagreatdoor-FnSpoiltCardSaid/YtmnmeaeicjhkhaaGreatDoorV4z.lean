import Derived.Test.YtmnmeaeicjhkhaaGreatDoorV2z
import Derived.Test.YtmnmeaeicjhkhaaGreatDoorV3z
import Derived.Test.YtmnmeaeicjhkhaaGreatDoorGDcz
/-
  A drawn trace that may be spoilt.
-/
namespace Go.Proofs.YtmnmeaeicjhkhaaGreatDoor
open Go.RowKit

/-- The end: the trace is stored into the answer's box. -/
theorem drew_store {w W : World} {K pc len B nf : Nat} {c : Cu} {v1 v2 : Value} {ms : List Mo} (hT : TrOwn B W v1 v2 nf ms) (hB : w.heap.size < B) (hs : w.heap.size < W.heap.size) (hch : Chg (fun b => b = pc ∨ w.heap.size ≤ b) w W) (hc : Cur K W pc len c) (hat : c.at_ ≤ 40000000000000000) (hK : K ≤ w.heap.size) (hnf : nf ≤ 600) (hms : ms.length ≤ 4000) : Drewn w K pc len (.returned (.agg #[v1, v2])) ((W.setCell ⟨w.heap.size, 0, none⟩ v1).setCell ⟨w.heap.size, 1, none⟩ v2) := by
  have bl : ∀ b, b ≠ w.heap.size → ((W.setCell ⟨w.heap.size, 0, none⟩ v1).setCell ⟨w.heap.size, 1, none⟩ v2).heap[b]? = W.heap[b]? := fun b hb => by
    rw [heap_setCell_other _ _ _ _ (show b ≠ w.heap.size from hb), heap_setCell_other _ _ _ _ (show b ≠ w.heap.size from hb)]
  have cg : Chg (fun b => w.heap.size ≤ b) W ((W.setCell ⟨w.heap.size, 0, none⟩ v1).setCell ⟨w.heap.size, 1, none⟩ v2) := (Chg.set (Nat.le_refl _)).trans (Chg.set (Nat.le_refl _))
  exact ⟨⟨v1, v2, nf, ms, rfl, hnf, hms, (hT.from (fun b h1 _ => bl b (by omega))).low (by omega)⟩, (hch.trans (cg.mono (fun b _ e => .inr e))).only, c, hc.below (cg.below (by omega) (fun b hb e => by omega)), hat⟩

set_option maxRecDepth 100000 in
set_option maxHeartbeats 2000000 in
theorem l6trace_any (K pc len : Nat) (c : Cu) (w : World) (h : Cur K w pc len c) (hK : K ≤ w.heap.size) (hat : c.at_ ≤ 0) :
    Calls Tryz.prog 52 #[.pointer (some ⟨pc, 0, none⟩)] w fun e w' => Drewn w K pc len e w' := by
  have hpc : pc < K := h.hk
  have H := hide (h.below ((below_new w (.cells #[.slice none 0 0, .slice none 0 0] 26)).mono hK))
  have HR := hide (heap_alloc_new w (.cells #[.slice none 0 0, .slice none 0 0] 26))
  have HG := hide (Chg.of_below (D := fun b => b = pc ∨ w.heap.size ≤ b) (below_new w (.cells #[.slice none 0 0, .slice none 0 0] 26)))
  clear h
  go_enter Tryz.func52, Tryz.ntmps52
  go_wp2_with fail
  refine (pick_any K pc len c 40 _ (unhide H) (by omega) (by omega) (by omega)).mono ?_
  rintro e w1 ⟨⟨x, c1, rfl, hd, hc⟩, hb⟩
  have HR1 := hide ((hb.block w.heap.size (by simp) (.inr (by omega))).trans (unhide HR))
  have HG1 := hide ((unhide HG).trans (Chg.of_betw hb (.inl rfl)))
  have hs1 : w.heap.size + 1 ≤ w1.heap.size := by have := hb.size; simpa using this
  have HC1 := hide hc
  obtain ⟨k, hk⟩ : ∃ k, k = x % 40 := ⟨_, rfl⟩
  rw [← hk]
  have hat1 : c1.at_ ≤ 1 := by rw [hd.at1]; omega
  clear hk hd hc hb H HR HG
  by_cases h0 : k = 0
  · subst h0
    go_wp2_with fail
    refine (steep_any K pc len c1 w1 (unhide HC1) (by omega) (by omega)).mono ?_
    rintro e w2 ⟨⟨v1, v2, nf, ms, rfl, hnf, hms, hT⟩, hb2, c2, hc2, hat2⟩
    have hrb := (hb2.block w.heap.size (by omega) (by omega)).trans (unhide HR1)
    have hs2 : w1.heap.size ≤ w2.heap.size := hb2.size
    have r0 : w2.cell? ⟨w.heap.size, 0, none⟩ = some (.slice none 0 0) := by rw [cell_of_row w2 w.heap.size 0 _ _ _ hrb]; rfl
    have r1 : w2.cell? ⟨w.heap.size, 1, none⟩ = some (.slice none 0 0) := by rw [cell_of_row w2 w.heap.size 1 _ _ _ hrb]; rfl
    have f0 : w2.frozen? ⟨w.heap.size, 0, none⟩ = false := by simp [World.frozen?, hrb]
    have f1 : w2.frozen? ⟨w.heap.size, 1, none⟩ = false := by simp [World.frozen?, hrb]
    have HT := hide hT
    have HG2 := hide ((unhide HG1).trans (hb2.mono (fun b _ e => .inl e)))
    have HC2 := hide hc2
    obtain ⟨xs, -, -, h3⟩ := hT.fns
    obtain ⟨a1, cap1, rfl⟩ := owns_slice h3
    obtain ⟨a2, cap2, rfl⟩ := owns_slice hT.mom.row
    clear h3 hT hc2 hb2 hrb
    go_wp2_with fail
    refine bodyPost_ret (v := .agg #[.slice a1 nf cap1, .slice a2 ms.length cap2]) (by simp [results, Tryz.results52, go_sem, r0, r1]) rfl ?_
    exact drew_store (unhide HT) (by omega) (by omega) (unhide HG2) (unhide HC2) hat2 hK hnf hms
  by_cases h1 : k = 1
  · subst h1
    go_wp2_with fail
    refine (long_any K pc len c1 w1 (unhide HC1) (by omega) (by omega)).mono ?_
    rintro e w2 ⟨⟨v1, v2, nf, ms, rfl, hnf, hms, hT⟩, hb2, c2, hc2, hat2⟩
    have hrb := (hb2.block w.heap.size (by omega) (by omega)).trans (unhide HR1)
    have hs2 : w1.heap.size ≤ w2.heap.size := hb2.size
    have r0 : w2.cell? ⟨w.heap.size, 0, none⟩ = some (.slice none 0 0) := by rw [cell_of_row w2 w.heap.size 0 _ _ _ hrb]; rfl
    have r1 : w2.cell? ⟨w.heap.size, 1, none⟩ = some (.slice none 0 0) := by rw [cell_of_row w2 w.heap.size 1 _ _ _ hrb]; rfl
    have f0 : w2.frozen? ⟨w.heap.size, 0, none⟩ = false := by simp [World.frozen?, hrb]
    have f1 : w2.frozen? ⟨w.heap.size, 1, none⟩ = false := by simp [World.frozen?, hrb]
    have HT := hide hT
    have HG2 := hide ((unhide HG1).trans (hb2.mono (fun b _ e => .inl e)))
    have HC2 := hide hc2
    obtain ⟨xs, -, -, h3⟩ := hT.fns
    obtain ⟨a1, cap1, rfl⟩ := owns_slice h3
    obtain ⟨a2, cap2, rfl⟩ := owns_slice hT.mom.row
    clear h3 hT hc2 hb2 hrb
    go_wp2_with fail
    refine bodyPost_ret (v := .agg #[.slice a1 nf cap1, .slice a2 ms.length cap2]) (by simp [results, Tryz.results52, go_sem, r0, r1]) rfl ?_
    exact drew_store (unhide HT) (by omega) (by omega) (unhide HG2) (unhide HC2) hat2 hK hnf hms
  have hb0 : ((k : Int) == 0) = false := by simp; omega
  have hb1 : ((k : Int) == 1) = false := by simp; omega
  go_wp2_with fail
  refine (pick_any K pc len c1 60 _ (unhide HC1) (by omega) (by omega) (by omega)).mono ?_
  rintro e w2 ⟨⟨y, c2, rfl, hd, hc⟩, hb⟩
  have HR2 := hide ((hb.block w.heap.size (by omega) (.inr (by omega))).trans (unhide HR1))
  have HG2 := hide ((unhide HG1).trans (Chg.of_betw hb (.inl rfl)))
  have hs2 : w1.heap.size ≤ w2.heap.size := hb.size
  have HC2 := hide hc
  obtain ⟨n, hn⟩ : ∃ n, n = y % 60 := ⟨_, rfl⟩
  rw [← hn]
  have hn60 : n < 60 := by omega
  have hat2 : c2.at_ ≤ 2 := by rw [hd.at1]; omega
  clear hn hd hc hb HR1 HG1 HC1
  go_wp2_with fail
  refine (trace_any K pc len c2 n _ (unhide HC2) (by omega) (by omega) (by omega)).mono ?_
  rintro e w3 ⟨⟨v1, v2, ms, rfl, -, -, -, hml, hT⟩, hb, c3, hc, hat3⟩
  have HR3 := hide ((hb.block w.heap.size (by omega) (.inr (by omega))).trans (unhide HR2))
  have HG3 := hide ((unhide HG2).trans (Chg.of_betw hb (.inl rfl)))
  have hs3 : w2.heap.size ≤ w3.heap.size := hb.size
  have HC3 := hide hc
  have HT3 := hide hT
  obtain ⟨xs, -, -, h3⟩ := hT.fns
  obtain ⟨a1, cap1, rfl⟩ := owns_slice h3
  obtain ⟨a2, cap2, rfl⟩ := owns_slice hT.mom.row
  rw [hml] at HT3 ⊢
  have HML := hide hml
  have HB4 := hide (below_new w3 (.cells #[.slice a1 4 cap1, .slice a2 n cap2] 26))
  have HX4 := hide (heap_alloc_new w3 (.cells #[.slice a1 4 cap1, .slice a2 n cap2] 26))
  have HR4 := hide (((unhide HB4).block w.heap.size (by omega)).trans (unhide HR3))
  have HG4 := hide ((unhide HG3).trans (Chg.of_below (unhide HB4)))
  have HC4 := hide ((unhide HC3).below ((unhide HB4).mono (by omega)))
  have HT4 := hide ((unhide HT3).from (fun b _ h2 => (unhide HB4).block b h2))
  clear h3 hT hc hb HR2 HG2 HC2 HR3 HG3 HC3 HT3 hml
  by_cases h6 : k < 6
  · have hk6 : (k : Int) < 6 := by omega
    go_wp2_with fail
    refine (spoil_any K pc len c3 w3.heap.size w2.heap.size (.slice a1 4 cap1) (.slice a2 n cap2) 4 ms _ (unhide HC4) (by omega) (unhide HX4) (by omega) (by omega) (by simp; omega) (unhide HT4) (by rw [unhide HML]; omega) (by omega)).mono ?_
    rintro e w5 ⟨rfl, v1', nf', ms', c5, hx5, hT5, hl5, hn5, hc5, hat5, hg5⟩
    have hob : ∀ b, (Value.slice a2 n cap2).ownBlock = some b → w2.heap.size ≤ b := fun b e => (owns_kind (unhide HT4).mom.row b e).1
    have hrb := (hg5.block w.heap.size (by simp; omega) (by rintro (e | e | e); omega; omega; have := hob _ e; omega)).trans (unhide HR4)
    have HG5 := hide ((unhide HG4).trans (hg5.mono (fun b _ e => by
      rcases e with e | e | e
      · exact .inl e
      · exact .inr (by omega)
      · exact .inr (by have := hob _ e; omega))))
    have hs5 : w3.heap.size + 1 ≤ w5.heap.size := by have := hg5.size; simpa using this
    have r0 : w5.cell? ⟨w.heap.size, 0, none⟩ = some (.slice none 0 0) := by rw [cell_of_row w5 w.heap.size 0 _ _ _ hrb]; rfl
    have r1 : w5.cell? ⟨w.heap.size, 1, none⟩ = some (.slice none 0 0) := by rw [cell_of_row w5 w.heap.size 1 _ _ _ hrb]; rfl
    have f0 : w5.frozen? ⟨w.heap.size, 0, none⟩ = false := by simp [World.frozen?, hrb]
    have f1 : w5.frozen? ⟨w.heap.size, 1, none⟩ = false := by simp [World.frozen?, hrb]
    obtain ⟨xs, -, -, h3⟩ := hT5.fns
    obtain ⟨a1', cap1', rfl⟩ := owns_slice h3
    have x0 : w5.cell? ⟨w3.heap.size, 0, none⟩ = some (.slice a1' nf' cap1') := by rw [cell_of_row w5 _ 0 _ _ _ hx5]; rfl
    have x1 : w5.cell? ⟨w3.heap.size, 1, none⟩ = some (.slice a2 n cap2) := by rw [cell_of_row w5 _ 1 _ _ _ hx5]; rfl
    have HT5 := hide hT5
    have HC5 := hide hc5
    clear h3 hT5 hc5 hrb hx5 hob hg5
    have hx0 : w3.heap.size ≠ w.heap.size := by omega
    go_wp2_with fail
    refine bodyPost_ret (v := .agg #[.slice a1' nf' cap1', .slice a2 n cap2]) (by simp [results, Tryz.results52, go_sem, r0, r1]) rfl ?_
    exact drew_store (unhide HT5) (by omega) (by omega) (unhide HG5) (unhide HC5) (by omega) hK hn5 (by rw [hl5, unhide HML]; omega)
  · have hk6 : ¬ (k : Int) < 6 := by omega
    have hrb := unhide HR4
    have r0 : (w3.alloc (.cells #[.slice a1 4 cap1, .slice a2 n cap2] 26)).cell? ⟨w.heap.size, 0, none⟩ = some (.slice none 0 0) := by rw [cell_of_row _ w.heap.size 0 _ _ _ hrb]; rfl
    have r1 : (w3.alloc (.cells #[.slice a1 4 cap1, .slice a2 n cap2] 26)).cell? ⟨w.heap.size, 1, none⟩ = some (.slice none 0 0) := by rw [cell_of_row _ w.heap.size 1 _ _ _ hrb]; rfl
    have f0 : (w3.alloc (.cells #[.slice a1 4 cap1, .slice a2 n cap2] 26)).frozen? ⟨w.heap.size, 0, none⟩ = false := by simp only [World.frozen?, hrb]; rfl
    have f1 : (w3.alloc (.cells #[.slice a1 4 cap1, .slice a2 n cap2] 26)).frozen? ⟨w.heap.size, 1, none⟩ = false := by simp only [World.frozen?, hrb]; rfl
    have hx0 : w3.heap.size ≠ w.heap.size := by omega
    clear hrb
    go_wp2_with fail
    refine bodyPost_ret (v := .agg #[.slice a1 4 cap1, .slice a2 n cap2]) (by simp [results, Tryz.results52, go_sem, r0, r1]) rfl ?_
    exact drew_store (unhide HT4) (by omega) (by simp; omega) (unhide HG4) (unhide HC4) (by omega) hK (by omega) (by rw [unhide HML]; omega)

/-- What DrawTraceOk leaves: some trace of its own. -/
def DrawsSome : Prop := ∀ (v : Value) (len : Nat) (w : World), BytesAt w v len → len ≤ 1048576 →
  Calls Tryz.prog 16 #[v] w fun e w' => (∃ v1 v2 nf ms, e = .returned (.agg #[v1, v2]) ∧ nf ≤ 600 ∧ ms.length ≤ 4000 ∧ TrOwn w.heap.size w' v1 v2 nf ms) ∧ Below w.heap.size w w'

/-- The trace in its box while it is spoilt. -/
structure SP (w : World) (len tb B : Nat) (v2 : Value) (gg : Nat) (W : World) : Prop where
  ex : ∃ v1 nf ms c, W.heap[tb]? = some (.cells #[v1, v2] 26 (0, 0)) ∧ TrOwn B W v1 v2 nf ms ∧ nf ≤ 600 ∧ ms.length ≤ 4000 ∧ Cur (w.heap.size + 2) W (w.heap.size + 1) len c ∧ c.at_ ≤ 40000000000000000 + 10 * (10 - gg)
  rb : W.heap[w.heap.size]? = some (.cells #[.slice none 0 0, .slice none 0 0] 26 (0, 0))
  chg : Chg (fun b => w.heap.size ≤ b) w W
  size : tb < W.heap.size
  tbB : w.heap.size + 2 ≤ B ∧ B ≤ tb

set_option maxRecDepth 100000 in
set_option maxHeartbeats 2000000 in
theorem drawTraceOk_any : DrawsSome := by
  intro v len w h hl
  have H := hide (h.cur hl (.cells #[.slice none 0 0, .slice none 0 0] 26))
  obtain ⟨a, cap, rfl, _⟩ := h
  obtain ⟨w2, hw2⟩ : ∃ w2, w2 = ((w.alloc (.cells #[.slice none 0 0, .slice none 0 0] 26)).alloc (.cells #[.slice a len cap, .int .i64 0, .int .u64 0] 73)) := ⟨_, rfl⟩
  have HG : Hid (Chg (fun b => w.heap.size ≤ b) w w2) := hide (by rw [hw2]; exact (Chg.of_below (below_new _ _)).trans (Chg.of_below (below_new _ _)))
  have HR : Hid (w2.heap[w.heap.size]? = some (.cells #[.slice none 0 0, .slice none 0 0] 26 (0, 0))) := hide (by rw [hw2, Below.heap_alloc _ _ _ (by simp)]; exact heap_alloc_new w _)
  have hs2 : w2.heap.size = w.heap.size + 2 := by rw [hw2]; simp
  rw [← hw2] at H
  go_enter Tryz.func16, Tryz.ntmps16
  go_wp2_with fail
  rw [← hw2]
  refine (l6trace_any (w.heap.size + 2) (w.heap.size + 1) len ⟨0, 0⟩ w2 (unhide H) (by omega) (by decide)).mono ?_
  clear hw2
  rintro e w3 ⟨⟨v1, v2, nf, ms, rfl, hnf, hms, hT⟩, hb, c3, hc, hat3⟩
  have hs3 : w2.heap.size ≤ w3.heap.size := hb.size
  have HR3 := hide ((hb.block w.heap.size (by omega) (by omega)).trans (unhide HR))
  have HG3 := hide ((unhide HG).trans (hb.mono (fun b _ e => by show w.heap.size ≤ b; omega)))
  have HT3 := hide hT
  have HC3 := hide hc
  obtain ⟨xs, -, -, h3⟩ := hT.fns
  obtain ⟨a1, cap1, rfl⟩ := owns_slice h3
  obtain ⟨a2, cap2, rfl⟩ := owns_slice hT.mom.row
  obtain ⟨n, hn⟩ : ∃ n, n = ms.length := ⟨_, rfl⟩
  rw [← hn] at HT3 ⊢
  clear hn
  have HB4 := hide (below_new w3 (.cells #[.slice a1 nf cap1, .slice a2 n cap2] 26))
  have HX4 := hide (heap_alloc_new w3 (.cells #[.slice a1 nf cap1, .slice a2 n cap2] 26))
  have HR4 := hide (((unhide HB4).block w.heap.size (by omega)).trans (unhide HR3))
  have HG4 := hide ((unhide HG3).trans (Chg.of_below (unhide HB4)))
  have HC4 := hide ((unhide HC3).below ((unhide HB4).mono (by omega)))
  have HT4 := hide ((unhide HT3).from (fun b _ h2 => (unhide HB4).block b h2))
  clear h3 hT hc hb HR3 HG3 HC3 HT3 HR HG H
  go_wp2_with fail
  refine (pick_w (w.heap.size + 2) (w.heap.size + 1) len c3 3 _ (unhide HC4) (by omega) (by omega)).mono ?_
  rintro e w5 ⟨⟨m, c5, rfl, hm, hat5, hc⟩, hb⟩
  have hb5 := hb.size
  have HS0 : Hid (SP w len w3.heap.size w2.heap.size (.slice a2 n cap2) m w5) := hide ⟨⟨.slice a1 nf cap1, nf, ms, c5, (hb.block _ (by simp) (.inr (by omega))).trans (unhide HX4), (unhide HT4).from (fun b h1 h2 => hb.block b h2 (.inr (by omega))), hnf, hms, hc, by omega⟩, (hb.block w.heap.size (by simp; omega) (.inl (by omega))).trans (unhide HR4), (unhide HG4).trans (Chg.of_betw hb (by show w.heap.size ≤ w.heap.size + 1; omega)), by simp at hb5; omega, by omega⟩
  clear hc hb hb5 HC4 HT4 HG4 HR4 HX4 HB4
  have hm3 : m < 3 := by omega
  go_wp2_with fail
  go_loopg [5] m (fun g0 i W => ∃ gg : Nat, gg = g0 ∧ i = .int .i64 gg ∧ gg < 3 ∧ SP w len w3.heap.size w2.heap.size (.slice a2 n cap2) gg W)
  case atStart => exact ⟨m, rfl, rfl, hm3, unhide HS0⟩
  case round =>
    clear HS0 hm hm3 hms hnf
    obtain ⟨gg, hgg, rfl, hg3, hsp⟩ := hrel
    have HGG := hide hgg
    clear hgg
    obtain ⟨⟨v1, nf, ms, c, hx, hT, hnf, hms, hc, hat⟩, hrb, hg, hsz, htb⟩ := hsp
    by_cases h0 : 0 < gg
    · have hg0 : (0 : Int) < (gg : Int) := by omega
      have wq : IntKind.i64.wrap ((gg : Int) - 1) = ((gg - 1 : Nat) : Int) := by rw [IntKind.wrap_i64]; omega
      have HX := hide hx
      have HT := hide hT
      have HRB := hide hrb
      have HG := hide hg
      have HC := hide hc
      clear hx hT hrb hg hc
      go_wp2_with fail
      refine (spoil_any (w.heap.size + 2) (w.heap.size + 1) len c w3.heap.size w2.heap.size v1 (.slice a2 n cap2) nf ms wr (unhide HC) (by omega) (unhide HX) (by omega) (by omega) (by omega) (unhide HT) hms hnf).mono ?_
      rintro e w6 ⟨rfl, v1', nf', ms', c6, hx6, hT6, hl6, hn6, hc6, hat6, hg6⟩
      have hob : ∀ b, (Value.slice a2 n cap2).ownBlock = some b → w2.heap.size ≤ b := fun b e => (owns_kind (unhide HT).mom.row b e).1
      have hs6 := hg6.size
      have HS6 : Hid (SP w len w3.heap.size w2.heap.size (.slice a2 n cap2) (gg - 1) w6) := hide ⟨⟨v1', nf', ms', c6, hx6, hT6, hn6, by omega, hc6, by omega⟩, (hg6.block w.heap.size (by omega) (by rintro (e | e | e); omega; omega; have := hob _ e; omega)).trans (unhide HRB), (unhide HG).trans (hg6.mono (fun b _ e => by
        rcases e with e | e | e
        · show w.heap.size ≤ b; omega
        · show w.heap.size ≤ b; omega
        · have := hob _ e; show w.heap.size ≤ b; omega)), by omega, htb⟩
      clear hx6 hT6 hl6 hc6 hat6 hg6 hob
      go_wp2_with fail
      go_roundg (gg - 1)
      case measure => have := unhide HGG; omega
      case rel => exact ⟨gg - 1, rfl, by go_num, by omega, unhide HS6⟩
    · have hg0 : ¬ (0 : Int) < (gg : Int) := by omega
      have r0 : wr.cell? ⟨w.heap.size, 0, none⟩ = some (.slice none 0 0) := by rw [cell_of_row wr w.heap.size 0 _ _ _ hrb]; rfl
      have r1 : wr.cell? ⟨w.heap.size, 1, none⟩ = some (.slice none 0 0) := by rw [cell_of_row wr w.heap.size 1 _ _ _ hrb]; rfl
      have f0 : wr.frozen? ⟨w.heap.size, 0, none⟩ = false := by simp [World.frozen?, hrb]
      have f1 : wr.frozen? ⟨w.heap.size, 1, none⟩ = false := by simp [World.frozen?, hrb]
      obtain ⟨xs, -, -, h3⟩ := hT.fns
      obtain ⟨a1', cap1', rfl⟩ := owns_slice h3
      have x0 : wr.cell? ⟨w3.heap.size, 0, none⟩ = some (.slice a1' nf cap1') := by rw [cell_of_row wr _ 0 _ _ _ hx]; rfl
      have x1 : wr.cell? ⟨w3.heap.size, 1, none⟩ = some (.slice a2 n cap2) := by rw [cell_of_row wr _ 1 _ _ _ hx]; rfl
      have HT := hide hT
      have HG := hide hg
      clear hx hT hrb hg hc h3
      have hx0 : w3.heap.size ≠ w.heap.size := by omega
      go_wp2_with fail
      refine bodyPost_ret (v := .agg #[.slice a1' nf cap1', .slice a2 n cap2]) (by simp [results, Tryz.results16, go_sem, r0, r1]) rfl ?_
      refine ⟨⟨_, _, rfl, nf, hnf, ms, hms, ?_⟩, ?_⟩
      · exact ((unhide HT).from (fun b hb _ => by rw [heap_setCell_other _ _ _ _ (show b ≠ w.heap.size by omega), heap_setCell_other _ _ _ _ (show b ≠ w.heap.size by omega)])).low (by omega)
      · exact ((unhide HG).trans ((Chg.set (Nat.le_refl _)).trans (Chg.set (Nat.le_refl _)))).below (Nat.le_refl _) (fun b hb e => by omega)
end Go.Proofs.YtmnmeaeicjhkhaaGreatDoor
