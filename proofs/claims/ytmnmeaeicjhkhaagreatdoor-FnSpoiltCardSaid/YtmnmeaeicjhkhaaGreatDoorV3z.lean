import Derived.Test.YtmnmeaeicjhkhaaGreatDoorV1z
import Derived.Deep.LoopGhost
import Derived.Deep.AppendLies
import Derived.Deep.DeepCutAuto
/-
  The two plain traces that are drawn: calls in one another, and lines.
-/
namespace Go.Proofs.YtmnmeaeicjhkhaaGreatDoor
open Go.RowKit

/-- What a drawing leaves. -/
def Drewn (w : World) (K pc len : Nat) (e : Ending) (w' : World) : Prop :=
  (∃ v1 v2 nf ms, e = .returned (.agg #[v1, v2]) ∧ nf ≤ 600 ∧ ms.length ≤ 4000 ∧ TrOwn w.heap.size w' v1 v2 nf ms) ∧ Chg (fun b => b = pc) w w' ∧ ∃ c, Cur K w' pc len c ∧ c.at_ ≤ 40000000000000000

theorem Chg.grown {D : Nat → Prop} {w w' : World} {row : Option Nat} (hg : w.grownBy w' row) (hr : ∀ k, row = some k → D k) : Chg D w w' := ⟨hg.os, hg.tape, hg.output, hg.size, fun b h1 h2 => hg.block b h1 (fun e => h2 (hr b e.symm))⟩

theorem Chg.only {w w' : World} {pc : Nat} (h : Chg (fun b => b = pc ∨ w.heap.size ≤ b) w w') : Chg (fun b => b = pc) w w' := h.mono (fun b h1 e => by rcases e with e | e; exact e; omega)

abbrev oneFv (p : Nat) : Value := .slice (some ⟨p, 0, none⟩) 1 1

abbrev pMo (k l : Int) : Mo := ⟨k, 0, 0, l, ⟨#[]⟩, .slice none 0 0, []⟩

/-- The trace that is being built: the answer's box, the fns' row, the trace's box, its moments behind. -/
structure LT (w : World) (K pc len : Nat) (c : Cu) (ms : List Mo) (mv : Value) (W : World) : Prop where
  rb : W.heap[w.heap.size]? = some (.cells #[.slice none 0 0, .slice none 0 0] 26 (0, 0))
  fs : W.heap[w.heap.size + 1]? = some (.cells #[.string ⟨#[109, 97, 105, 110]⟩] 9 (0, 0))
  tr : W.heap[w.heap.size + 2]? = some (.cells #[oneFv (w.heap.size + 1), mv] 26 (0, 0))
  row : W.ownsRow (w.heap.size + 3) 108 6 mv ms.length (momCells ms)
  plain : ∀ x, x ∈ ms → x.vv = .slice none 0 0 ∧ x.l = [] ∧ x.text.size = 0
  chg : Chg (fun b => b = pc ∨ w.heap.size ≤ b) w W
  cur : Cur K W pc len c
  kw : K ≤ w.heap.size

section
variable {w W W' : World} {K pc len : Nat} {c : Cu} {ms : List Mo} {mv : Value}
theorem LT.size (h : LT w K pc len c ms mv W) : w.heap.size + 3 ≤ W.heap.size := heap_lt h.tr
theorem LT.t0 (h : LT w K pc len c ms mv W) : W.cell? ⟨w.heap.size + 1 + 1, 0, none⟩ = some (oneFv (w.heap.size + 1)) := by rw [cell_of_row W (w.heap.size + 2) 0 _ _ _ h.tr]; rfl
theorem LT.t1 (h : LT w K pc len c ms mv W) : W.cell? ⟨w.heap.size + 1 + 1, 1, none⟩ = some mv := by rw [cell_of_row W (w.heap.size + 2) 1 _ _ _ h.tr]; rfl
theorem LT.r0 (h : LT w K pc len c ms mv W) : W.cell? ⟨w.heap.size, 0, none⟩ = some (.slice none 0 0) := by rw [cell_of_row W w.heap.size 0 _ _ _ h.rb]; rfl
theorem LT.r1 (h : LT w K pc len c ms mv W) : W.cell? ⟨w.heap.size, 1, none⟩ = some (.slice none 0 0) := by rw [cell_of_row W w.heap.size 1 _ _ _ h.rb]; rfl
theorem LT.f0 (h : LT w K pc len c ms mv W) : W.frozen? ⟨w.heap.size, 0, none⟩ = false := frozen_of_row _ _ _ _ _ h.rb
theorem LT.f1 (h : LT w K pc len c ms mv W) : W.frozen? ⟨w.heap.size, 1, none⟩ = false := frozen_of_row _ _ _ _ _ h.rb

theorem LT.start {w4 : World} (hc : Cur K w4 pc len c) (hK : K ≤ w.heap.size) (hpc : pc < K) (hb : Betw pc (pc + 1) (((w.alloc (.cells #[.slice none 0 0, .slice none 0 0] 26)).alloc (.cells #[.string ⟨#[109, 97, 105, 110]⟩] 9)).alloc (.cells #[oneFv (w.heap.size + 1), .slice none 0 0] 26)) w4) : LT w K pc len c [] (.slice none 0 0) w4 := by
  have s1 : (w.alloc (.cells #[.slice none 0 0, .slice none 0 0] 26)).heap.size = w.heap.size + 1 := by simp
  have s2 : ((w.alloc (.cells #[.slice none 0 0, .slice none 0 0] 26)).alloc (.cells #[.string ⟨#[109, 97, 105, 110]⟩] 9)).heap.size = w.heap.size + 2 := by simp
  have n1 := heap_alloc_new w (.cells #[.slice none 0 0, .slice none 0 0] 26)
  have n2 := heap_alloc_new (w.alloc (.cells #[.slice none 0 0, .slice none 0 0] 26)) (.cells #[.string ⟨#[109, 97, 105, 110]⟩] 9)
  have n3 := heap_alloc_new ((w.alloc (.cells #[.slice none 0 0, .slice none 0 0] 26)).alloc (.cells #[.string ⟨#[109, 97, 105, 110]⟩] 9)) (.cells #[oneFv (w.heap.size + 1), .slice none 0 0] 26)
  rw [s1] at n2
  rw [s2] at n3
  have hs := hb.size
  refine ⟨?_, ?_, ?_, World.ownsRow_nil _ _ _ _, (fun x hx => absurd hx (by simp)), ?_, hc, hK⟩
  · rw [hb.block _ (by simp; omega) (.inr (by omega)), Below.heap_alloc _ _ _ (by simp; omega), Below.heap_alloc _ _ _ (by simp)]; exact n1
  · rw [hb.block _ (by simp) (.inr (by omega)), Below.heap_alloc _ _ _ (by simp)]; exact n2
  · rw [hb.block _ (by simp) (.inr (by omega))]; exact n3
  · exact (((Chg.of_below (below_new _ _)).trans (Chg.of_below (below_new _ _))).trans (Chg.of_below (below_new _ _))).trans (Chg.of_betw hb (.inl rfl))

/-- A moment is set behind, and the row put back. -/
theorem LT.put {mv' : Value} {ms' : List Mo} {o : Obj} (h : LT w K pc len c ms mv W) (hg : (W.alloc o).grownBy W' mv.ownBlock) (ho : W'.ownsRow (w.heap.size + 3) 108 6 mv' ms'.length (momCells ms')) (hp : ∀ x, x ∈ ms' → x.vv = .slice none 0 0 ∧ x.l = [] ∧ x.text.size = 0) :
    W'.heap[w.heap.size + 2]? = some (.cells #[oneFv (w.heap.size + 1), mv] 26 (0, 0)) ∧ LT w K pc len c ms' mv' (W'.setCell ⟨w.heap.size + 1 + 1, 1, none⟩ mv') := by
  have hne : ∀ b, b < w.heap.size + 3 → some b ≠ mv.ownBlock := fun b hb e => by
    have := (owns_kind h.row b e.symm).1
    omega
  have hne' : ∀ b, b < w.heap.size + 3 → mv'.ownBlock ≠ some b := fun b hb e => by
    have := (owns_kind ho b e).1
    omega
  have hs := h.size
  have keep : ∀ b, b < w.heap.size + 3 → W'.heap[b]? = W.heap[b]? := fun b hb => by
    rw [hg.block _ (by simp; omega) (hne _ hb), Below.heap_alloc _ _ _ (by omega)]
  have t2 := (keep _ (by omega)).trans h.tr
  have cg : Chg (fun b => w.heap.size ≤ b) W (W'.setCell ⟨w.heap.size + 1 + 1, 1, none⟩ mv') :=
    ((Chg.of_below (below_new W o)).trans (Chg.grown hg (fun b e => by have := (owns_kind h.row b e).1; omega))).trans (Chg.set (by show w.heap.size ≤ w.heap.size + 1 + 1; omega))
  refine ⟨t2, ⟨?_, ?_, setCells_two _ _ _ _ _ _ t2, owns_setCell ho (hne' _ (by show w.heap.size + 1 + 1 < _; omega)), hp, h.chg.trans (cg.mono (fun b _ e => .inr e)), h.cur.below (cg.below (by have := h.kw; omega) (fun b hb e => by have := h.kw; omega)), h.kw⟩⟩
  · rw [heap_setCell_other _ _ _ _ (by show w.heap.size ≠ w.heap.size + 1 + 1; omega)]; exact (keep _ (by omega)).trans h.rb
  · rw [heap_setCell_other _ _ _ _ (by show w.heap.size + 1 ≠ w.heap.size + 1 + 1; omega)]; exact (keep _ (by omega)).trans h.fs

theorem LT.done (h : LT w K pc len c ms mv W) (hm : ms.length ≤ 4000) (hat : c.at_ ≤ 100) {u1 u2 : Value} : Drewn w K pc len (.returned (.agg #[oneFv (w.heap.size + 1), mv])) ((W.setCell ⟨w.heap.size, 0, none⟩ u1).setCell ⟨w.heap.size, 1, none⟩ u2) := by
  have bl : ∀ b, b ≠ w.heap.size → ((W.setCell ⟨w.heap.size, 0, none⟩ u1).setCell ⟨w.heap.size, 1, none⟩ u2).heap[b]? = W.heap[b]? := fun b hb => by
    rw [heap_setCell_other _ _ _ _ (show b ≠ w.heap.size from hb), heap_setCell_other _ _ _ _ (show b ≠ w.heap.size from hb)]
  have cg : Chg (fun b => w.heap.size ≤ b) W ((W.setCell ⟨w.heap.size, 0, none⟩ u1).setCell ⟨w.heap.size, 1, none⟩ u2) := (Chg.set (Nat.le_refl _)).trans (Chg.set (Nat.le_refl _))
  refine ⟨⟨_, mv, 1, ms, rfl, by omega, hm, ⟨⟨[⟨#[109, 97, 105, 110]⟩], rfl, ?_, rfl, .inr ⟨w.heap.size + 1, 1, _, rfl, by omega, by rw [bl _ (by omega)]; exact h.fs, Nat.le_refl _, by unfold maxLen; omega, rfl, rfl⟩⟩, ?_, fun x hx => ?_⟩⟩, (h.chg.trans (cg.mono (fun b _ e => .inr e))).only, c, h.cur.below (cg.below (by have := h.kw; have := h.size; omega) (fun b hb e => by have := h.kw; omega)), by omega⟩
  · intro x hx
    simp only [List.mem_cons, List.not_mem_nil, or_false] at hx
    subst hx
    decide
  · exact owns_low (owns_from h.row (fun b h1 _ => bl b (by omega))) (by omega)
  · obtain ⟨p1, p2, p3⟩ := h.plain x hx
    rw [p1, p2]
    exact ⟨World.ownsRow_nil _ _ _ _, by simp, by omega, fun y hy => absurd hy (by simp)⟩
end

set_option maxRecDepth 100000 in
set_option maxHeartbeats 2000000 in
theorem steep_any (K pc len : Nat) (c : Cu) (w : World) (h : Cur K w pc len c) (hK : K ≤ w.heap.size) (hat : c.at_ ≤ 90) :
    Calls Tryz.prog 122 #[.pointer (some ⟨pc, 0, none⟩)] w fun e w' => Drewn w K pc len e w' := by
  have H := hide h
  have hpcK : pc < K := h.hk
  clear h
  obtain ⟨i1, hi0, hz0, hz1, hz2⟩ := info_parts info_Moment
  have IM := hide (And.intro hi0 (And.intro hz0 (And.intro hz1 hz2))); clear hi0 hz0 hz1 hz2
  go_enter Tryz.func122, Tryz.ntmps122
  go_wp2_with fail
  refine (pick_w K pc len c 3 _ ((((unhide H).below ((below_new w _).mono hK)).below ((below_new _ _).mono (by simp; omega))).below ((below_new _ _).mono (by simp; omega))) (by omega) (by omega)).mono ?_
  rintro e w4 ⟨⟨x, c4, rfl, hx, hc4, hcur⟩, hb⟩
  have HL0 := hide (LT.start hcur hK hpcK hb)
  clear hcur hb H
  obtain ⟨n, hn⟩ : ∃ n, n = 198 + x := ⟨_, rfl⟩
  have hn1 : n ≤ 3100 := by omega
  have wa : IntKind.i64.wrap (198 + (x : Int)) = (n : Int) := by rw [IntKind.wrap_i64]; omega
  clear hn
  go_wp2_with fail
  go_loopg [4] n (fun g0 i W => ∃ (gg : Nat) (ms : List Mo) (ta : Option Addr) (tc : Nat), gg = g0 ∧ ms.length + gg = n ∧ i = .int .i64 gg ∧ LT w K pc len c4 ms (.slice ta ms.length tc) W)
  case atStart => exact ⟨n, [], none, 0, rfl, by simp, rfl, unhide HL0⟩
  case round =>
    clear HL0 wa
    obtain ⟨gg, ms, ta, tc, hgg, hk, rfl, hl⟩ := hrel
    have HGG := hide hgg
    clear hgg
    obtain ⟨k, hkm⟩ : ∃ k, k = ms.length := ⟨_, rfl⟩
    have HKM := hide hkm
    have HL := hide hl
    have t1 := hl.t1
    have hsz := hl.size
    rw [← hkm] at t1 hk
    clear hl hkm
    by_cases h0 : 0 < gg
    · have hg0 : (0 : Int) < (gg : Int) := by omega
      have wq : IntKind.i64.wrap ((gg : Int) - 1) = ((gg - 1 : Nat) : Int) := by rw [IntKind.wrap_i64]; omega
      have HNW : Hid (∀ j u, ([.int .i64 2, .int .i64 0, .int .i64 0, .int .i64 0, .string ⟨#[]⟩, .slice none 0 0] : List Value)[j]? = some u → (wr.alloc (.cells #[.int .i64 2, .int .i64 0, .int .i64 0, .int .i64 0, .string ⟨#[]⟩, .slice none 0 0] 108)).cell? ((⟨wr.heap.size, 0, none⟩ : Addr).add j) = some u) := hide (World.news_of_block (cs := #[.int .i64 2, .int .i64 0, .int .i64 0, .int .i64 0, .string ⟨#[]⟩, .slice none 0 0]) (t := 108) (fr := (0, 0)) (heap_alloc_new wr _))
      have HRW := hide (owns_below (unhide HL).row (below_new wr (.cells #[.int .i64 2, .int .i64 0, .int .i64 0, .int .i64 0, .string ⟨#[]⟩, .slice none 0 0] 108)))
      rw [← unhide HKM] at HRW
      go_wp2_with (at_builtin; refine wpList_append_lies _ (by rfl) _ _ _ (by rfl) (w.heap.size + 3) 108 i1 _ 6 72 Tryz.underlying24 (unhide IM).1 (unhide IM).2.1 (unhide IM).2.2.1 (unhide IM).2.2.2 rfl (by omega) (.slice ta k tc) k (momCells ms) (by rfl) (unhide HRW) ⟨wr.heap.size, 0, none⟩ 1 1 [.int .i64 2, .int .i64 0, .int .i64 0, .int .i64 0, .string ⟨#[]⟩, .slice none 0 0] (by rfl) (by rfl) (unhide HNW) (by simp [Value.oneCell']) (by omega) (by unfold maxLen; omega) (by omega) (by simp; omega) (wr.heap.size + 1) (by simp) ?_; intro g2 cp2 w7 hown hgrow _ _; obtain ⟨hq, hdt⟩ := (unhide HL).put (ms' := ms ++ [pMo 2 0]) (mv' := .slice (some ⟨g2, 0, none⟩) (k + 1) cp2) (by rw [← unhide HKM]; exact hgrow) (by rw [List.length_append, momCells_app, List.length_singleton, ← unhide HKM]; exact hown) (by intro x hx; rcases List.mem_append.1 hx with e | e; exact (unhide HL).plain x e; rw [List.mem_singleton.1 e]; exact ⟨rfl, rfl, rfl⟩); have HD7 := hide hdt; have c7 : w7.cell? ⟨w.heap.size + 1 + 1, 1, none⟩ = some (.slice ta k tc) := (by rw [cell_of_row w7 (w.heap.size + 2) 1 _ _ _ hq, unhide HKM]; rfl); have z7 : w7.frozen? ⟨w.heap.size + 1 + 1, 1, none⟩ = false := frozen_of_row _ _ _ _ _ hq; clear hown hgrow hq hdt)
      go_roundg (gg - 1)
      case measure => have := unhide HGG; omega
      case rel => exact ⟨gg - 1, ms ++ [pMo 2 0], some ⟨g2, 0, none⟩, cp2, rfl, by rw [List.length_append, ← unhide HKM, List.length_singleton]; omega, by go_num, by rw [List.length_append, ← unhide HKM, List.length_singleton]; exact unhide HD7⟩
    · have hg0 : ¬ (0 : Int) < (gg : Int) := by omega
      have t0 := (unhide HL).t0
      have r0 := (unhide HL).r0
      have r1 := (unhide HL).r1
      have f0 := (unhide HL).f0
      have f1 := (unhide HL).f1
      go_wp2_with fail
      have hx0 : (w.heap.size + 1 + 1) ≠ w.heap.size := by omega
      refine bodyPost_ret (v := .agg #[oneFv (w.heap.size + 1), .slice ta k tc]) (by simp [results, Tryz.results122, go_sem, r0, r1]) rfl ?_
      have hd := (unhide HL).done (by rw [← unhide HKM]; omega) (by omega) (u1 := oneFv (w.heap.size + 1)) (u2 := .slice ta k tc)
      rw [← unhide HKM] at hd
      exact hd

set_option maxRecDepth 100000 in
set_option maxHeartbeats 2000000 in
theorem long_any (K pc len : Nat) (c : Cu) (w : World) (h : Cur K w pc len c) (hK : K ≤ w.heap.size) (hat : c.at_ ≤ 90) :
    Calls Tryz.prog 123 #[.pointer (some ⟨pc, 0, none⟩)] w fun e w' => Drewn w K pc len e w' := by
  have H := hide h
  have hpcK : pc < K := h.hk
  clear h
  obtain ⟨i1, hi0, hz0, hz1, hz2⟩ := info_parts info_Moment
  have IM := hide (And.intro hi0 (And.intro hz0 (And.intro hz1 hz2))); clear hi0 hz0 hz1 hz2
  go_enter Tryz.func123, Tryz.ntmps123
  go_wp2_with fail
  refine (pick_w K pc len c 3 _ ((((unhide H).below ((below_new w _).mono hK)).below ((below_new _ _).mono (by simp; omega))).below ((below_new _ _).mono (by simp; omega))) (by omega) (by omega)).mono ?_
  rintro e w4 ⟨⟨x, c4, rfl, hx, hc4, hcur⟩, hb⟩
  have HL0 := hide (LT.start hcur hK hpcK hb)
  clear hcur hb H
  obtain ⟨n, hn⟩ : ∃ n, n = 2999 + x := ⟨_, rfl⟩
  have hn1 : n ≤ 3100 := by omega
  have wa : IntKind.i64.wrap (2999 + (x : Int)) = (n : Int) := by rw [IntKind.wrap_i64]; omega
  clear hn
  go_wp2_with fail
  go_loopg [4] n (fun g0 i W => ∃ (gg : Nat) (ms : List Mo) (ta : Option Addr) (tc : Nat), gg = g0 ∧ ms.length + gg = n ∧ i = .int .i64 gg ∧ LT w K pc len c4 ms (.slice ta ms.length tc) W)
  case atStart => exact ⟨n, [], none, 0, rfl, by simp, rfl, unhide HL0⟩
  case round =>
    clear HL0 wa
    obtain ⟨gg, ms, ta, tc, hgg, hk, rfl, hl⟩ := hrel
    have HGG := hide hgg
    clear hgg
    obtain ⟨k, hkm⟩ : ∃ k, k = ms.length := ⟨_, rfl⟩
    have HKM := hide hkm
    have HL := hide hl
    have t1 := hl.t1
    have hsz := hl.size
    rw [← hkm] at t1 hk
    clear hl hkm
    by_cases h0 : 0 < gg
    · have hg0 : (0 : Int) < (gg : Int) := by omega
      have wq : IntKind.i64.wrap ((gg : Int) - 1) = ((gg - 1 : Nat) : Int) := by rw [IntKind.wrap_i64]; omega
      obtain ⟨lx, hlx⟩ : ∃ lx : Int, lx = 1 + (gg : Int) % 3 := ⟨_, rfl⟩
      have wl : IntKind.i64.wrap (1 + (gg : Int) % 3) = lx := by rw [IntKind.wrap_i64]; omega
      clear hlx
      have HNW : Hid (∀ j u, ([.int .i64 1, .int .i64 0, .int .i64 0, .int .i64 lx, .string ⟨#[]⟩, .slice none 0 0] : List Value)[j]? = some u → (wr.alloc (.cells #[.int .i64 1, .int .i64 0, .int .i64 0, .int .i64 lx, .string ⟨#[]⟩, .slice none 0 0] 108)).cell? ((⟨wr.heap.size, 0, none⟩ : Addr).add j) = some u) := hide (World.news_of_block (cs := #[.int .i64 1, .int .i64 0, .int .i64 0, .int .i64 lx, .string ⟨#[]⟩, .slice none 0 0]) (t := 108) (fr := (0, 0)) (heap_alloc_new wr _))
      have HRW := hide (owns_below (unhide HL).row (below_new wr (.cells #[.int .i64 1, .int .i64 0, .int .i64 0, .int .i64 lx, .string ⟨#[]⟩, .slice none 0 0] 108)))
      rw [← unhide HKM] at HRW
      go_wp2_with (at_builtin; refine wpList_append_lies _ (by rfl) _ _ _ (by rfl) (w.heap.size + 3) 108 i1 _ 6 72 Tryz.underlying24 (unhide IM).1 (unhide IM).2.1 (unhide IM).2.2.1 (unhide IM).2.2.2 rfl (by omega) (.slice ta k tc) k (momCells ms) (by rfl) (unhide HRW) ⟨wr.heap.size, 0, none⟩ 1 1 [.int .i64 1, .int .i64 0, .int .i64 0, .int .i64 lx, .string ⟨#[]⟩, .slice none 0 0] (by rfl) (by rfl) (unhide HNW) (by simp [Value.oneCell']) (by omega) (by unfold maxLen; omega) (by omega) (by simp; omega) (wr.heap.size + 1) (by simp) ?_; intro g2 cp2 w7 hown hgrow _ _; obtain ⟨hq, hdt⟩ := (unhide HL).put (ms' := ms ++ [pMo 1 lx]) (mv' := .slice (some ⟨g2, 0, none⟩) (k + 1) cp2) (by rw [← unhide HKM]; exact hgrow) (by rw [List.length_append, momCells_app, List.length_singleton, ← unhide HKM]; exact hown) (by intro x hx; rcases List.mem_append.1 hx with e | e; exact (unhide HL).plain x e; rw [List.mem_singleton.1 e]; exact ⟨rfl, rfl, rfl⟩); have HD7 := hide hdt; have c7 : w7.cell? ⟨w.heap.size + 1 + 1, 1, none⟩ = some (.slice ta k tc) := (by rw [cell_of_row w7 (w.heap.size + 2) 1 _ _ _ hq, unhide HKM]; rfl); have z7 : w7.frozen? ⟨w.heap.size + 1 + 1, 1, none⟩ = false := frozen_of_row _ _ _ _ _ hq; clear hown hgrow hq hdt)
      go_roundg (gg - 1)
      case measure => have := unhide HGG; omega
      case rel => exact ⟨gg - 1, ms ++ [pMo 1 lx], some ⟨g2, 0, none⟩, cp2, rfl, by rw [List.length_append, ← unhide HKM, List.length_singleton]; omega, by go_num, by rw [List.length_append, ← unhide HKM, List.length_singleton]; exact unhide HD7⟩
    · have hg0 : ¬ (0 : Int) < (gg : Int) := by omega
      have t0 := (unhide HL).t0
      have r0 := (unhide HL).r0
      have r1 := (unhide HL).r1
      have f0 := (unhide HL).f0
      have f1 := (unhide HL).f1
      go_wp2_with fail
      have hx0 : (w.heap.size + 1 + 1) ≠ w.heap.size := by omega
      refine bodyPost_ret (v := .agg #[oneFv (w.heap.size + 1), .slice ta k tc]) (by simp [results, Tryz.results123, go_sem, r0, r1]) rfl ?_
      have hd := (unhide HL).done (by rw [← unhide HKM]; omega) (by omega) (u1 := oneFv (w.heap.size + 1)) (u2 := .slice ta k tc)
      rw [← unhide HKM] at hd
      exact hd
end Go.Proofs.YtmnmeaeicjhkhaaGreatDoor
