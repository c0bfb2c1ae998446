import Derived.Test.YtoiacbdnkkolmabI3
import Derived.Deep.MidRow
namespace Go.Proofs.Ytoiacbdnkkolmab
open Go.RowKit

theorem zero_calls : Try.zeroCells233 = Array.replicate 101 (.pointer none) := by kernel_rfl
theorem size_calls : (Try.prog.info? 233).map (·.size) = some 101 := by kernel_rfl

theorem PlaceAt_first (w : World) (o : Obj) :
    PlaceAt (((w.alloc o).alloc (.cells #[.int .i64 0, .int .i64 0, .int .i64 (-1), .int .i64 1, .pointer none] 170)).alloc (.cells Try.zeroCells233 233)) St.init (some ⟨w.heap.size + 1, 0, none⟩) (w.heap.size + 1 + 1) := by
  refine ⟨⟨w.heap.size + 1, none, rfl, ?_, ?_, ?_, ?_, ?_, rfl⟩, ⟨fun _ => none, fun t ht => ⟨?_, fun e => ?_⟩⟩, by decide, fun t _ => ?_⟩
  · rw [World.cell?_alloc_old _ _ _ (by simp), cell_alloc_at _ _ _ _ _ (by simp)]; rfl
  · rw [World.cell?_alloc_old _ _ _ (by simp), cell_alloc_at _ _ _ _ _ (by simp)]; rfl
  · rw [World.cell?_alloc_old _ _ _ (by simp), cell_alloc_at _ _ _ _ _ (by simp)]; rfl
  · rw [World.cell?_alloc_old _ _ _ (by simp), cell_alloc_at _ _ _ _ _ (by simp)]; rfl
  · rw [World.cell?_alloc_old _ _ _ (by simp), cell_alloc_at _ _ _ _ _ (by simp)]; rfl
  · rw [cell_alloc_at _ _ _ _ _ (by simp), zero_calls]; simp [ht]
  · have e0 : t ≠ 0 := e
    have e1 : St.init.tasks t = [] := by simp [St.init, e0]
    rw [e1]; rfl
  · by_cases e0 : t = 0
    · subst e0; simp [St.init]
    · simp [St.init, e0]

set_option maxRecDepth 100000 in
set_option maxHeartbeats 1000000 in
theorem firstPlace_any (w : World) :
    Calls Try.prog 143 #[] w fun e w' => (∃ top bw, e = .returned (.agg #[.int .i64 0, .pointer top, .pointer (some ⟨bw, 0, none⟩)]) ∧ PlaceAt w' St.init top bw) ∧ Below w.heap.size w w' := by
  go_enter Try.func143, Try.ntmps143
  go_wp2
  refine bodyPost_ret (v := .agg #[.int .i64 0, .pointer (some ⟨w.heap.size + 1, 0, none⟩), .pointer (some ⟨w.heap.size + 1 + 1, 0, none⟩)]) (by simp [results, Try.results143, go_sem]) rfl ⟨⟨_, _, rfl, PlaceAt_first w _⟩, ?_⟩
  exact (((Below.refl _ _).alloc (Nat.le_refl _) _).alloc (by simp) _).alloc (by simp; omega) _

set_option maxRecDepth 100000 in
set_option maxHeartbeats 1000000 in
theorem turnedTo_same (s : St) (t : Int) (top : Option Addr) (bw : Nat) (w : World) (ht : t = s.cur) :
    Calls Try.prog 174 #[.agg #[.int .i64 s.cur, .pointer top, .pointer (some ⟨bw, 0, none⟩)], .int .i64 t] w fun e w' => e = .returned (.agg #[.int .i64 s.cur, .pointer top, .pointer (some ⟨bw, 0, none⟩)]) ∧ Below w.heap.size w w' := by
  subst ht
  go_enter Try.func174, Try.ntmps174
  go_wp2
  refine bodyPost_ret (v := .agg #[.int .i64 s.cur, .pointer top, .pointer (some ⟨bw, 0, none⟩)]) (by simp [results, Try.results174, go_sem]) rfl ⟨rfl, ?_⟩
  exact ((Below.refl _ _).alloc (Nat.le_refl _) _).alloc (by simp) _

theorem Below.setCells {B b : Nat} {a : World} (hB : B ≤ b) : ∀ (vs : List Value) (o : Nat) (w : World), Below B a w → Below B a (w.setCells b o vs)
  | [], _, _, h => h
  | _ :: r, o, _, h => Below.setCells hB r (o + 1) _ (h.setCell (p := ⟨b, o, none⟩) hB _)

theorem PlaceAt_turn {w F : World} {s : St} {t nb bw : Nat} {top : Option Addr} {P : Nat → Option Addr} (h1 : ListAt w (s.tasks s.cur) top)
    (h2 : ∀ t, t < 101 → w.cell? ⟨bw, t, none⟩ = some (.pointer (P t)) ∧ (t ≠ s.cur → ListAt w (s.tasks t) (P t))) (h4 : ∀ t, t < 101 → (s.tasks t).length ≤ 200 ∧ ∀ f ∈ s.tasks t, -1 ≤ f.frm)
    (hb : Below w.heap.size w F) (hrow : ∀ u, u < 101 → F.cell? ⟨nb, u, none⟩ = some (.pointer (if u = s.cur then top else P u))) (ht : t < 101) (hne : t ≠ s.cur) : PlaceAt F ⟨t, s.tasks⟩ (P t) nb := by
  refine ⟨((h2 t ht).2 hne).below hb, ⟨fun u => if u = s.cur then top else P u, fun u hu => ⟨hrow u hu, fun _ => ?_⟩⟩, ht, h4⟩
  show ListAt F (s.tasks u) (if u = s.cur then top else P u)
  by_cases e : u = s.cur
  · rw [if_pos e, e]; exact h1.below hb
  · rw [if_neg e]; exact ((h2 u hu).2 e).below hb

set_option maxRecDepth 100000 in
set_option maxHeartbeats 1000000 in
theorem turnedTo_other (s : St) (t : Nat) (top : Option Addr) (bw : Nat) (w : World) (h : PlaceAt w s top bw) (ht : t < 101) (hne : t ≠ s.cur) :
    Calls Try.prog 174 #[.agg #[.int .i64 s.cur, .pointer top, .pointer (some ⟨bw, 0, none⟩)], .int .i64 t] w fun e w' =>
      (∃ top' bw', e = .returned (.agg #[.int .i64 t, .pointer top', .pointer (some ⟨bw', 0, none⟩)]) ∧ PlaceAt w' ⟨t, s.tasks⟩ top' bw') ∧ Below w.heap.size w w' := by
  have H := hide h
  obtain ⟨h1, ⟨P, h2⟩, h3, h4⟩ := h
  have H1 := hide h1
  have H2 := hide h2
  have H4 := hide h4
  clear h1 h2 h4
  have hq : ((t : Int) == (s.cur : Int)) = false := by rw [beq_eq_false_iff_ne]; omega
  obtain ⟨cs, hcl, hcj⟩ : ∃ cs : List Value, cs.length = 101 ∧ ∀ j, j < 101 → cs[j]? = some (.pointer (P j)) :=
    ⟨(List.range 101).map fun t => .pointer (P t), by simp, fun j hj => by simp [hj]⟩
  have hone : Hid (∀ v ∈ cs, v.oneCell' = true) := hide fun v hv => by
    obtain ⟨j, hj, rfl⟩ := List.getElem_of_mem hv
    have := hcj j (by omega)
    rw [List.getElem?_eq_getElem hj] at this
    rw [Option.some.inj this]
    rfl
  have hr : Hid (∀ x, Below w.heap.size w x → x.rangeAt bw 0 cs) := hide fun x hb j v hj => by
    have hlt : j < 101 := by rw [← hcl]; exact (List.getElem?_eq_some_iff.1 hj).1
    rw [hcj j hlt] at hj
    cases hj
    rw [Nat.zero_add]
    exact cell_below hb (unhide H2 j hlt).1
  have HL := hide hcl
  have HJ := hide hcj
  have HN := hide hne
  clear hne hcl hcj
  obtain ⟨W2, hW2⟩ : ∃ W2, W2 = ((w.alloc (.cells #[.int .i64 s.cur, .pointer top, .pointer (some ⟨bw, 0, none⟩)] 112)).alloc (.cells #[.int .i64 0, .pointer none, .pointer none] 112)).alloc (.cells Try.zeroCells233 233) := ⟨_, rfl⟩
  have hth : W2.there (w.heap.size + 1 + 1) 0 101 := fun j hj => by
    rw [hW2, Nat.zero_add, cell_alloc_at _ _ _ _ _ (by simp), frozen_alloc_at _ _ _ _ _ (by simp), zero_calls]
    simp [hj]
  have hB2 : Below w.heap.size w W2 := by rw [hW2]; exact (((Below.refl _ _).alloc (Nat.le_refl _) _).alloc (by simp) _).alloc (by simp; omega) _
  have hB3 := Below.setCells (b := w.heap.size + 1 + 1) (by omega) cs 0 W2 (Below.refl (w.heap.size + 1 + 1) W2)
  have hrow := World.rangeAt_setCells_same W2 (w.heap.size + 1 + 1) 0 cs (by rw [unhide HL]; exact hth)
  have hfz : ∀ j, j < 101 → (W2.setCells (w.heap.size + 1 + 1) 0 cs).frozen? ⟨w.heap.size + 1 + 1, j, none⟩ = false := fun j hj => by
    rw [World.frozen?_setCells, ← Nat.zero_add j]; exact (hth j hj).2
  have z0 : (W2.setCells (w.heap.size + 1 + 1) 0 cs).cell? ⟨w.heap.size, 0, none⟩ = some (.int .i64 s.cur) := by
    rw [hB3.cell (by simp; omega), hW2, World.cell?_alloc_old _ _ _ (by simp; omega), World.cell?_alloc_old _ _ _ (by simp), cell_alloc_at _ _ _ _ _ rfl]; rfl
  have z1 : (W2.setCells (w.heap.size + 1 + 1) 0 cs).cell? ⟨w.heap.size, 1, none⟩ = some (.pointer top) := by
    rw [hB3.cell (by simp; omega), hW2, World.cell?_alloc_old _ _ _ (by simp; omega), World.cell?_alloc_old _ _ _ (by simp), cell_alloc_at _ _ _ _ _ rfl]; rfl
  have y0 : (W2.setCells (w.heap.size + 1 + 1) 0 cs).cell? ⟨w.heap.size + 1, 0, none⟩ = some (.int .i64 0) := by
    rw [hB3.cell (by simp), hW2, World.cell?_alloc_old _ _ _ (by simp), cell_alloc_at _ _ _ _ _ (by simp)]; rfl
  have y1 : (W2.setCells (w.heap.size + 1 + 1) 0 cs).cell? ⟨w.heap.size + 1, 1, none⟩ = some (.pointer none) := by
    rw [hB3.cell (by simp), hW2, World.cell?_alloc_old _ _ _ (by simp), cell_alloc_at _ _ _ _ _ (by simp)]; rfl
  have y2 : (W2.setCells (w.heap.size + 1 + 1) 0 cs).cell? ⟨w.heap.size + 1, 2, none⟩ = some (.pointer none) := by
    rw [hB3.cell (by simp), hW2, World.cell?_alloc_old _ _ _ (by simp), cell_alloc_at _ _ _ _ _ (by simp)]; rfl
  have x0 : ∀ j, (W2.setCells (w.heap.size + 1 + 1) 0 cs).frozen? ⟨w.heap.size + 1, j, none⟩ = false := fun j => by
    rw [hB3.frozen (by simp), hW2, World.frozen?_alloc_old _ _ _ (by simp), frozen_alloc_at _ _ _ _ _ (by simp)]
  have HB3 : Hid (Below w.heap.size w (W2.setCells (w.heap.size + 1 + 1) 0 cs)) := hide (hB2.trans (hB3.mono (by omega)))
  have HROW : Hid (∀ j, j < 101 → (W2.setCells (w.heap.size + 1 + 1) 0 cs).cell? ⟨w.heap.size + 1 + 1, j, none⟩ = some (.pointer (P j))) := hide fun j hj => by
    have := hrow j _ (unhide HJ j hj)
    rwa [Nat.zero_add] at this
  have HW2 := hide hW2
  have hca : cs.toArray.size = 101 := by rw [List.size_toArray]; exact unhide HL
  have HTH : Hid (W2.there (w.heap.size + 1 + 1) 0 cs.toArray.size) := by rw [hca]; exact hide hth
  have HSZ : Hid ((Try.prog.info? 233).map (·.size) = some cs.toArray.size) := by rw [hca]; exact hide size_calls
  clear hca
  have HB2 := hide hB2
  clear hrow hB3 hB2 hth
  obtain ⟨W3, hW3⟩ : ∃ W3, W3 = W2.setCells (w.heap.size + 1 + 1) 0 cs := ⟨_, rfl⟩
  rw [← hW3] at hfz z0 z1 y0 y1 y2 HB3 HROW
  have x0' : W3.frozen? ⟨w.heap.size + 1, 0, none⟩ = false := by rw [hW3]; exact x0 0
  have x1' : W3.frozen? ⟨w.heap.size + 1, 1, none⟩ = false := by rw [hW3]; exact x0 1
  have x2' : W3.frozen? ⟨w.heap.size + 1, 2, none⟩ = false := by rw [hW3]; exact x0 2
  have q1 := unhide HROW s.cur h3
  have q2 := hfz s.cur h3
  have q3 := unhide HROW t ht
  have hj1 : (0 : Int) ≤ (s.cur : Int) := by omega
  have hj2 : (s.cur : Int) < 101 := by omega
  have q4 : (W3.setCell ⟨w.heap.size + 1 + 1, s.cur, none⟩ (.pointer top)).cell? ⟨w.heap.size + 1 + 1, t, none⟩ = some (.pointer (P t)) := by
    rw [World.cell?_setCell_other _ _ _ _ (by simp; exact fun e => unhide HN e.symm)]; exact q3
  have HW3 := hide hW3
  clear hW3 hW2 x0 hfz q3
  go_enter Try.func174, Try.ntmps174
  go_wp2_with (first
    | (refine wpList_load_mid (by rfl) 233 _ (by rfl) bw 0 (by rfl) cs _ (unhide hr _ (by exact ((Below.refl _ _).alloc (Nat.le_refl _) _).alloc (by simp) _)) Try.underlying233 (by rfl) (by rw [unhide HL]; exact size_calls) ?_)
    | (refine wpList_store_mid (by rfl) 233 _ _ (by rfl) (w.heap.size + 1 + 1) 0 cs.toArray (by rfl) (by rfl) (by rw [← unhide HW2]; exact unhide HTH) (unhide HSZ) (all_oneCell_toArray (unhide hone)) ?_; rw [List.toList_toArray, ← unhide HW2, ← unhide HW3]))
  refine bodyPost_ret (v := .agg #[.int .i64 t, .pointer (P t), .pointer (some ⟨w.heap.size + 1 + 1, 0, none⟩)]) (by simp [results, Try.results174, go_sem, y0, y1, y2]) rfl ⟨⟨_, _, rfl, PlaceAt_turn (unhide H1) (unhide H2) (unhide H4) ?_ (fun u hu => ?_) ht (unhide HN)⟩, ?_⟩
  · repeat (refine Below.setCell ?_ (by simp <;> omega) _)
    exact unhide HB3
  · rw [World.cell?_setCell_other _ _ _ _ (by simp), World.cell?_setCell_other _ _ _ _ (by simp), World.cell?_setCell_other _ _ _ _ (by simp)]
    by_cases e : u = s.cur
    · rw [if_pos e, e]
      exact World.cell?_setCell_same _ _ _ q1
    · rw [if_neg e, World.cell?_setCell_other _ _ _ _ (by simp <;> exact fun e' => e e'.symm)]
      exact unhide HROW u hu
  · repeat (refine Below.setCell ?_ (by simp <;> omega) _)
    exact unhide HB3
end Go.Proofs.Ytoiacbdnkkolmab
