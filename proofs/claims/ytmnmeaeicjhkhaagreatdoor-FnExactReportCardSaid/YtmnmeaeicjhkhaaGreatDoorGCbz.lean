import Derived.Test.YtmnmeaeicjhkhaaGreatDoorGCaz
import Derived.Lib.SlicesCompact
import Derived.Sort.Row
import Derived.Sort.Grow
import Derived.Test.YtmnmeaeicjhkhaaGreatDoorGTz
import Derived.Deep.LoopGhost
import Derived.Deep.AppendLies
/-
  Sorted integers, each told once: plain; and what the library's sort and compact leave in memory.
-/
namespace Go.Proofs.YtmnmeaeicjhkhaaGreatDoor
open Go.RowKit Go.Lib

theorem compact_inv (d : Array Int) (hs : ∀ i j, i ≤ j → j < d.size → d[i]! ≤ d[j]!) : ∀ m, m ≤ d.size → (compactUpTo d m).Pairwise (· < ·) ∧ (∀ x, x ∈ compactUpTo d m → ∃ j, j < m ∧ x = d[j]!) ∧ ∀ j, j < m → d[j]! ∈ compactUpTo d m
  | 0, _ => ⟨List.Pairwise.nil, fun x hx => (by cases hx), fun j hj => absurd hj (Nat.not_lt_zero _)⟩
  | m + 1, hm => by
    obtain ⟨h1, h2, h3⟩ := compact_inv d hs m (by omega)
    rw [compactUpTo_succ]
    cases hk : keeps d m with
    | true =>
      have hlt : ∀ x, x ∈ compactUpTo d m → x < d[m]! := by
        intro x hx
        obtain ⟨j, hj, rfl⟩ := h2 x hx
        have a1 := hs j (m - 1) (by omega) (by omega)
        have a2 := hs (m - 1) m (by omega) (by omega)
        have a3 : d[m]! ≠ d[m - 1]! := by
          simp only [keeps] at hk
          rcases Nat.eq_zero_or_pos m with e | e
          · omega
          · simpa [Nat.ne_of_gt e] using hk
        omega
      rw [if_pos rfl]
      refine ⟨List.pairwise_append.2 ⟨h1, List.pairwise_singleton _ _, fun x hx y hy => by rw [List.mem_singleton.1 hy]; exact hlt x hx⟩, fun x hx => ?_, fun j hj => ?_⟩
      · rcases List.mem_append.1 hx with hx | hx
        · obtain ⟨j, hj, e⟩ := h2 x hx
          exact ⟨j, by omega, e⟩
        · exact ⟨m, by omega, List.mem_singleton.1 hx⟩
      · by_cases e : j = m
        · rw [e]; exact List.mem_append_right _ (List.mem_singleton.2 rfl)
        · exact List.mem_append_left _ (h3 j (by omega))
    | false =>
      rw [if_neg (by simp), List.append_nil]
      refine ⟨h1, fun x hx => ?_, fun j hj => ?_⟩
      · obtain ⟨j, hj, e⟩ := h2 x hx
        exact ⟨j, by omega, e⟩
      · by_cases e : j = m
        · have hm0 : m ≠ 0 := fun e0 => by rw [e0] at hk; simp [keeps] at hk
          have : d[m]! = d[m - 1]! := by simpa [keeps, hm0] using hk
          rw [e, this]
          exact h3 (m - 1) (by omega)
        · exact h3 j (by omega)

theorem sorted_at (xs : List Int) : ∀ i j, i ≤ j → j < (xs.mergeSort fun x y => decide (x ≤ y)).toArray.size → (xs.mergeSort fun x y => decide (x ≤ y)).toArray[i]! ≤ (xs.mergeSort fun x y => decide (x ≤ y)).toArray[j]! := by
  intro i j hij hj
  have hp : (xs.mergeSort fun x y => decide (x ≤ y)).Pairwise (fun a b => decide (a ≤ b) = true) := List.pairwise_mergeSort (fun a b c h1 h2 => by simp at *; omega) (fun a b => by simp; omega) xs
  have hj' : j < (xs.mergeSort fun x y => decide (x ≤ y)).length := by simpa using hj
  rw [getElem!_pos _ i (by omega), getElem!_pos _ j hj]
  by_cases e : i = j
  · subst e; exact Int.le_refl _
  · have := List.pairwise_iff_getElem.1 hp i j (by omega) hj' (by omega)
    simpa using this

/-- Each of the integers once. -/
theorem once_each (xs : List Int) : (compact (xs.mergeSort fun x y => decide (x ≤ y))).Pairwise (· < ·) ∧ ∀ x, x ∈ compact (xs.mergeSort fun x y => decide (x ≤ y)) ↔ x ∈ xs := by
  obtain ⟨h1, h2, h3⟩ := compact_inv _ (sorted_at xs) _ (Nat.le_refl _)
  have e : compact (xs.mergeSort fun x y => decide (x ≤ y)) = compactUpTo (xs.mergeSort fun x y => decide (x ≤ y)).toArray (xs.mergeSort fun x y => decide (x ≤ y)).toArray.size := by simp [compact]
  rw [e]
  refine ⟨h1, fun x => ⟨fun hx => ?_, fun hx => ?_⟩⟩
  · obtain ⟨j, hj, rfl⟩ := h2 x hx
    rw [getElem!_pos _ j hj, ← List.mem_mergeSort (le := fun x y => decide (x ≤ y))]
    simp
  · rw [← List.mem_mergeSort (le := fun x y => decide (x ≤ y))] at hx
    obtain ⟨j, hj, e⟩ := List.getElem_of_mem hx
    have := h3 j (by simpa using hj)
    rw [getElem!_pos _ j (by simpa using hj)] at this
    simpa [e] using this

/-- What slices.Sort and slices.Compact do to integers. -/
def SortsInts : Prop := ∀ (blk off cap : Nat) (zs : List Int) (w : World), Sort.Holds (Value.int .i64) w blk off zs.toArray → blk < w.heap.size → zs.length < 4611686018427387904 →
    Calls Tryz.prog 125 #[.slice (some ⟨blk, off, none⟩) zs.length cap] w fun e w' =>
      e = .returned (.tuple #[]) ∧ ∃ n os, w' = Sort.grow (Sort.putRow (Value.int .i64) (Sort.ahead w n) blk off (zs.mergeSort fun x y => decide (x ≤ y)).toArray) os

def CompactsInts : Prop := ∀ (blk off cap : Nat) (zs : List Int) (w : World), Sort.Holds (Value.int .i64) w blk off zs.toArray → zs.length ≤ 9223372036854775807 → zs.length ≤ cap →
    Calls Tryz.prog 126 #[.slice (some ⟨blk, off, none⟩) zs.length cap] w fun e w' =>
      e = .returned (.slice (some ⟨blk, off, none⟩) (compact zs).length cap) ∧ ∃ q, w' = Sort.putRow (Value.int .i64) (Sort.ahead w q) blk off (compact zs ++ List.replicate (zs.length - (compact zs).length) 0).toArray

theorem below_putRow {B : Nat} {w : World} {blk off n : Nat} {d : Array Int} (hB : B ≤ blk) : Below B w (Sort.putRow (Value.int .i64) (Sort.ahead w n) blk off d) := by
  refine ⟨rfl, rfl, rfl, by simp [Sort.ahead], fun b hb => ?_⟩
  show (w.heap.modify blk _)[b]? = _
  rw [Array.getElem?_modify, if_neg (by omega)]

theorem below_grow {B : Nat} {w : World} {os : Array Obj} (hB : B ≤ w.heap.size) : Below B w (Sort.grow w os) := by
  refine ⟨rfl, rfl, rfl, by simp [Sort.grow], fun b hb => ?_⟩
  show (w.heap ++ os)[b]? = _
  rw [Array.getElem?_append_left (by omega)]
end Go.Proofs.YtmnmeaeicjhkhaaGreatDoor

namespace Go.Proofs.YtmnmeaeicjhkhaaGreatDoor
open Go.RowKit Go.Lib

theorem info_i64 : (Tryz.prog.info? 3).map (fun i => (i.zero, i.size, i.bytes)) = some (some (.int .i64 0), 1, 8) := by kernel_rfl

/-- A slice of integers, wherever it lies. -/
def IntsAt (lo : Nat) (w : World) (v : Value) (zs : List Int) : Prop :=
  ∃ a cap, v = .slice a zs.length cap ∧ ∀ i (h : i < zs.length), ∃ b, a = some ⟨b, 0, none⟩ ∧ lo ≤ b ∧ w.cell? ⟨b, i, none⟩ = some (.int .i64 zs[i])

theorem IntsAt.below {lo : Nat} {w w' : World} {v : Value} {zs : List Int} (h : IntsAt lo w v zs) (hb : Below w.heap.size w w') : IntsAt lo w' v zs := by
  obtain ⟨a, cap, hv, h⟩ := h
  refine ⟨a, cap, hv, fun i hi => ?_⟩
  obtain ⟨b, ha, h1, hc⟩ := h i hi
  exact ⟨b, ha, h1, cell_below hb hc⟩

theorem IntsAt.other {lo b o : Nat} {w : World} {v u : Value} {zs : List Int} (h : IntsAt lo w v zs) (hb : b < lo) : IntsAt lo (w.setCell ⟨b, o, none⟩ u) v zs := by
  obtain ⟨a, cap, hv, h⟩ := h
  refine ⟨a, cap, hv, fun i hi => ?_⟩
  obtain ⟨g, ha, h1, hc⟩ := h i hi
  exact ⟨g, ha, h1, cell_set_ne (by simp; omega) hc⟩

/-- The fns of open calls, each once. -/
def FnsOf (l : List Fr) (zs : List Int) : Prop := zs.Pairwise (· < ·) ∧ ∀ x, x ∈ zs ↔ ∃ fr, fr ∈ l ∧ fr.fn = x

theorem holds_owns {B : Nat} {w : World} {g n cap : Nat} {zs : List Int} (h : w.ownsRow B 3 1 (.slice (some ⟨g, 0, none⟩) n cap) n (zs.map (Value.int .i64))) : Sort.Holds (Value.int .i64) w g 0 zs.toArray := by
  intro j hj
  have hj' : j < zs.length := by simpa using hj
  have := owns_cell h j (.int .i64 zs[j]) (by rw [List.getElem?_map, List.getElem?_eq_getElem hj']; rfl)
  rw [Nat.zero_add, getElem!_pos _ j hj]
  simpa using this

theorem holds_below {w w' : World} {g : Nat} {d : Array Int} (h : Sort.Holds (Value.int .i64) w g 0 d) (hb : Below w.heap.size w w') : Sort.Holds (Value.int .i64) w' g 0 d := fun j hj =>
  ⟨cell_below hb (h j hj).1, by rw [hb.frozen (cell_lt (h j hj).1)]; exact (h j hj).2⟩

theorem holds_ahead {w : World} {g n : Nat} {d : Array Int} (h : Sort.Holds (Value.int .i64) w g 0 d) : Sort.Holds (Value.int .i64) (Sort.ahead w n) g 0 d := fun j hj => h j hj

theorem compact_len (zs : List Int) : (compact zs).length ≤ zs.length := by
  unfold compact compactUpTo
  rw [List.length_map]
  exact Nat.le_trans (List.length_filter_le _ _) (by simp)

set_option maxRecDepth 100000 in
set_option maxHeartbeats 2000000 in
theorem fns_any (hso : SortsInts) (hco : CompactsInts) (l : List Fr) (p : Option Addr) (w : World) (h : ListAt w l p) (hl : l.length ≤ 200) (hne : l ≠ []) :
    Calls Tryz.prog 59 #[.pointer p] w fun e w' => (∃ v zs, e = .returned v ∧ FnsOf l zs ∧ IntsAt w.heap.size w' v zs ∧ zs.length ≤ 200) ∧ Below w.heap.size w w' := by
  have H := hide h
  have HSO := hide hso
  have HCO := hide hco
  clear h hso hco
  obtain ⟨i0, hi0, hz0, hz1, hz2⟩ := info_parts info_i64
  have II := hide (And.intro hi0 (And.intro hz0 (And.intro hz1 hz2))); clear hi0 hz0 hz1 hz2
  go_enter Tryz.func59, Tryz.ntmps59
  go_wp2
  go_loopg [0, 3] l.length (fun k c v wr => ∃ (p : Option Addr) (d r : List Fr), c = .pointer p ∧ d ++ r = l ∧ r.length = k ∧ ListAt w r p ∧ wr.ownsRow w.heap.size 3 1 v d.length ((d.map Fr.fn).map (Value.int .i64)) ∧ (∃ a n cp, v = .slice a n cp) ∧ Below w.heap.size w wr)
  case atStart => exact ⟨p, [], l, rfl, rfl, rfl, unhide H, World.ownsRow_nil _ _ _ _, ⟨_, _, _, rfl⟩, Below.refl _ _⟩
  case round =>
    obtain ⟨p', d, r, rfl, hd, hr, hli, hfr, ⟨va, vn, vc, rfl⟩, hb⟩ := hrel
    have HD := hide hd
    have HF := hide hfr
    have HB := hide hb
    cases r with
    | nil =>
      have e : p' = none := hli
      subst e
      have hdl : d = l := by have := unhide HD; simpa using this
      subst hdl
      have hdp : 0 < d.length := by cases d with | nil => exact absurd rfl hne | cons _ _ => simp
      obtain ⟨g, cap, ev, hgB, hgl⟩ := hfr.form hdp
      injection ev with e1 e2 e3
      subst e1 e2 e3
      clear hd hfr hb hli hr hne
      have hcap : d.length ≤ vc := by
        rcases (unhide HF).2 with ⟨h, _⟩ | ⟨g', cap', cur, hv, -, -, h1, -⟩
        · cases h
        · cases hv; exact h1
      have HH : Sort.Holds (Value.int .i64) wr g 0 (d.map Fr.fn).toArray := holds_owns (unhide HF)
      go_wp2_with fail
      have hs1 := unhide HSO g 0 vc (d.map Fr.fn) wr HH hgl (by simp; omega)
      rw [List.length_map] at hs1
      refine hs1.mono ?_
      rintro e w2 ⟨rfl, n1, os, hw2⟩
      obtain ⟨zs, hzs⟩ : ∃ zs, zs = (d.map Fr.fn).mergeSort fun x y => decide (x ≤ y) := ⟨_, rfl⟩
      have hzl : zs.length = d.length := by rw [hzs, List.length_mergeSort, List.length_map]
      rw [← hzs] at hw2
      have HP : Sort.Holds (Value.int .i64) (Sort.putRow (Value.int .i64) (Sort.ahead wr n1) g 0 zs.toArray) g 0 zs.toArray := Sort.holds_putRow _ _ _ _ _ _ (holds_ahead HH) (by simp [hzl])
      have hps : (Sort.putRow (Value.int .i64) (Sort.ahead wr n1) g 0 zs.toArray).heap.size = wr.heap.size := by simp [Sort.ahead]
      have H2 : Sort.Holds (Value.int .i64) w2 g 0 zs.toArray := by rw [hw2]; exact holds_below HP (below_grow (Nat.le_refl _))
      have HB2 : Hid (Below w.heap.size w w2) := by
        rw [hw2]
        exact hide (((unhide HB).trans (below_putRow hgB)).trans (below_grow (by rw [hps]; omega)))
      have H2' := hide H2
      have HZS := hide hzs
      have hs2 := unhide HCO g 0 vc zs w2 H2 (by omega) (by omega)
      rw [hzl] at hs2
      have HS2 := hide hs2
      have HZL := hide hzl
      clear hs1 hw2 HP hps HH H2 hs2 hzs hzl
      go_wp2_with fail
      refine (unhide HS2).mono ?_
      rintro e w3 ⟨rfl, q, hw3⟩
      have HW3 := hide hw3
      clear hw3
      go_wp2_with fail
      go_ret
      have hcl := compact_len zs
      have hzl := unhide HZL
      obtain ⟨o1, o2⟩ := once_each (d.map Fr.fn)
      rw [← unhide HZS] at o1 o2
      refine ⟨⟨_, compact zs, rfl, ⟨o1, fun x => ?_⟩, ⟨_, _, rfl, fun i hi => ⟨g, rfl, hgB, ?_⟩⟩, by omega⟩, ?_⟩
      · rw [o2 x, List.mem_map]
      · rw [unhide HW3]
        have := Sort.cell?_putRow (Value.int .i64) (Sort.ahead w2 q) g 0 zs.toArray (compact zs ++ List.replicate (d.length - (compact zs).length) 0).toArray (holds_ahead (unhide H2')) (by simp; omega) i (by simp; omega)
        rw [Nat.zero_add] at this
        rw [this, getElem!_pos _ i (by simp; omega)]
        simp [List.getElem_append_left hi]
      · rw [unhide HW3]
        exact (unhide HB2).trans (below_putRow hgB)
    | cons f r' =>
      obtain ⟨b, p2, rfl, k0, k1, k2, k3, k4, hli2⟩ := hli
      have HL2 := hide hli2
      have c0 := cell_below hb k0
      have hlen : d.length + r'.length + 1 ≤ 200 := by rw [← hd] at hl; simp at hl; omega
      have hzz : w.heap.size ≤ wr.heap.size := hb.size
      have K4 := hide k4
      clear k0 k1 k2 k3 k4 hli2 hd hfr hb hne
      have HA := hide (owns_below (unhide HF) (below_new wr (.cells #[.int .i64 f.fn] 3)))
      have HNW : Hid (∀ j u, ([.int .i64 f.fn] : List Value)[j]? = some u → (wr.alloc (.cells #[.int .i64 f.fn] 3)).cell? ((⟨wr.heap.size, 0, none⟩ : Addr).add j) = some u) :=
        hide (World.news_of_block (cs := #[.int .i64 f.fn]) (t := 3) (fr := (0, 0)) (heap_alloc_new wr _))
      go_wp2_with (at_builtin; refine wpList_append_lies _ (by rfl) _ _ _ (by rfl) w.heap.size 3 i0 _ 1 8 Tryz.underlying80 (unhide II).1 (unhide II).2.1 (unhide II).2.2.1 (unhide II).2.2.2 rfl (by omega) (.slice va vn vc) d.length ((d.map Fr.fn).map (Value.int .i64)) (by rfl) (unhide HA) ⟨wr.heap.size, 0, none⟩ 1 1 [.int .i64 f.fn] (by rfl) (by rfl) (unhide HNW) (by simp [Value.oneCell']) (by omega) (by unfold maxLen; omega) (by omega) (by simp; omega) (wr.heap.size + 1) (by simp) ?_; intro g2 cp2 w7 hown hgrow _ _; have hb7 : Below w.heap.size w w7 := Below.grown ((unhide HB).alloc hzz _) hgrow (by simp; omega) (fun k hk => ((unhide HA).lt k hk).1); have k7 := cell_below hb7 (unhide K4); have HB7 := hide hb7; have HO7 := hide hown; clear hown hgrow hb7)
      go_roundg r'.length
      case measure => simp at hr; omega
      case rel =>
        refine ⟨p2, d ++ [f], r', rfl, ?_, rfl, unhide HL2, ?_, ⟨_, _, _, rfl⟩, unhide HB7⟩
        · rw [List.append_assoc]; exact unhide HD
        · rw [List.length_append, List.map_append, List.map_append]
          exact unhide HO7
end Go.Proofs.YtmnmeaeicjhkhaaGreatDoor
