/-
  slices.AppendSeq and slices.Collect at the keys of LineCounts.
-/
import Derived.Test.YtoiacbdnkkolmabJ4
import Derived.RangeFuncNested
namespace Go.Proofs.Ytoiacbdnkkolmab
open Go.RowKit Go.Shelf Go.Maps

attribute [local go_sem] Oper.semAt_some

theorem info_lk : (Try.prog.info? 83).map (fun i => (i.zero, i.size, i.bytes)) = some (some (.agg #[.int .i64 0, .int .i64 0]), 2, 16) := by kernel_rfl

def lkCells (ss : List Lk) : List Value := ss.flatMap fun p => [.int .i64 p.fn, .int .i64 p.line]

theorem lkCells_app (a b : List Lk) : lkCells (a ++ b) = lkCells a ++ lkCells b := List.flatMap_append ..

theorem keepsWalks_of {W W' : World} (h : KeepsOthers W W') : KeepsWalks W W' := ⟨h.size, fun k o hk hw => h.same k o hk (by cases o <;> first | rfl | cases hw)⟩

/-- AppendSeq's box and row. -/
def LkI (w : World) (pre : List Lk) (W : World) : Prop :=
  ∃ v, Boxed W w.heap.size 84 v ∧ W.ownsRow (w.heap.size + 1) 83 2 v pre.length (lkCells pre) ∧ Below w.heap.size w W

theorem LkI.from (w : World) (B : Nat) (hB : w.heap.size ≤ B) : OwnFrom B (LkI w) := fun s W W' row h hg hr => by
  obtain ⟨v, h1, h2, h3⟩ := h
  refine ⟨v, (hg.block _ h1.lt (fun e => ?_)).trans h1, h2.kept hg (optNe (fun g e1 e2 => ?_)), Below.grown h3 hg h3.size (fun k e => ?_)⟩
  · obtain ⟨-, o, ho, hc⟩ := hr _ e.symm
    rw [show W.heap[w.heap.size]? = _ from h1] at ho
    cases ho; cases hc
  · obtain ⟨-, o, ho, hc⟩ := hr g e2
    obtain ⟨-, cs, fr, e3⟩ := ownsTyped h2 g e1
    rw [e3] at ho
    cases ho; cases hc
  · exact Nat.le_trans hB (hr k e).1

/-- The round's variable: a struct in a block of its own. -/
def LkX (w : World) (gf : Nat) (lb : Array Value) (x : Lk) (a : Act) (W : World) : Prop :=
  ∃ p, w.heap.size + 1 ≤ p ∧ a = { tmps := #[.slice none 0 0, .func (.func gf) #[] lb, .pointer (some ⟨w.heap.size, 0, none⟩), undef, .slice none 0 0, .pointer (some ⟨p, 0, none⟩), .func (.func gf) #[] lb, .agg #[.int .i64 x.fn, .int .i64 x.line], undef, undef, undef, undef, undef], defers := [] } ∧ W.heap[p]? = some (.cells #[.int .i64 x.fn, .int .i64 x.line] 83 (0, 0))

theorem LkX.from (w : World) (gf : Nat) (lb : Array Value) (x : Lk) (a : Act) (B : Nat) : OwnFrom B (fun (_ : Unit) W => LkX w gf lb x a W) := fun s W W' row h hg hr => by
  obtain ⟨p, h1, h2, h3⟩ := h
  refine ⟨p, h1, h2, (hg.block _ (Array.getElem?_eq_some_iff.1 h3).1 (fun e => ?_)).trans h3⟩
  obtain ⟨-, o, ho, hc⟩ := hr _ e.symm
  rw [h3] at ho
  cases ho; cases hc

set_option maxRecDepth 100000 in
set_option maxHeartbeats 4000000 in
theorem appendSeq_lk (gf : Nat) (lb : Array Value) (N : Nat) (S Sp : List Lk → Prop) (w w0 : World) (eg : ∀ args w, (callFunc gf args).run Try.prog w = .ok (.enter gf args) w) (hN : N ≤ 1048576) (hb0 : Below w0.heap.size w0 w)
    (hseq : SeqStopsK Fence.wide 5 Try.prog gf lb (fun x : Lk => #[lkV x]) KeepsWalks S Sp N w0) :
    Calls Try.prog 137 #[.slice none 0 0, .func (.func gf) #[] lb] w fun e w' => (∃ v ss, e = .returned v ∧ S ss ∧ w'.ownsRow w.heap.size 83 2 v ss.length (lkCells ss) ∧ ∃ a m c, v = .slice a m c) ∧ Below w.heap.size w w' := by
  obtain ⟨i0, hi0, hz0, hz1, hz2⟩ := info_parts info_lk
  refine (callsIn_wide (n := 6)).1 ?_
  refine callsIn_of_wp_marks Try.func137 rfl trivial ?_ rfl
  simp only [Try.ntmps137, List.size_toArray, List.length_cons, List.length_nil, Nat.reduceAdd, Nat.reduceSub, Array.replicate_succ, Array.replicate_zero, List.push_toArray, List.append_toArray, List.nil_append, List.cons_append]
  gi_wp2_with fail
  obtain ⟨W0, hW0⟩ : ∃ W0, W0 = w.alloc (.cells #[.slice none 0 0] 84) := ⟨_, rfl⟩
  have s0 : W0.heap.size = w.heap.size + 1 := by rw [hW0]; simp
  have k0 : W0.heap[w.heap.size]? = some (.cells #[.slice none 0 0] 84 (0, 0)) := by rw [hW0]; exact heap_alloc_new w _
  have b0 : Below w.heap.size w W0 := by rw [hW0]; exact below_new _ _
  have hb1 : Below w0.heap.size w0 W0 := hb0.trans (b0.mono hb0.size)
  rw [← hW0]
  clear hW0
  refine wpIn_rangeFunc_ownH rfl (by omega) (gf := gf) (lb := lb) rfl trivial eg hseq walksK_t walksK_b hb1 (fun _ => rfl)
    (LkI w) (fun _ _ _ => False) (LkI.from w _ (by omega)) (fun _ _ _ _ _ hs _ _ => hs)
    ⟨_, k0, World.ownsRow_nil _ _ _ _, b0⟩ (LkX w gf lb) (fun x a' => LkX.from w gf lb x a' _) ?assign ?body ?done ?stop
  case assign =>
    intro l pre x W K hI hK
    obtain ⟨v, hv, hrow, hB⟩ := hI
    have hsz : w.heap.size + 1 ≤ W.heap.size := hv.lt
    gi_wp2
    refine hK _ _ ((KeepsOthers.alloc W _).from _) (KeepsWalks.alloc W _) ⟨v, hv.alloc _, hrow.alloc _, hB.trans ((below_new W _).mono hB.size)⟩ ⟨W.heap.size, hsz, rfl, heap_alloc_new W _⟩
  case body =>
    rintro l pre x a' W - - ⟨v, hv, hrow, hB⟩ ⟨p, hp, rfl, hbx⟩ hlen
    have hcell := hv.cell
    have x0 : W.cell? ⟨p, 0, none⟩ = some (.int .i64 x.fn) := by rw [cell_of_row W _ 0 _ _ _ hbx]; rfl
    have x1 : W.cell? ⟨p, 1, none⟩ = some (.int .i64 x.line) := by rw [cell_of_row W _ 1 _ _ _ hbx]; rfl
    have hsz : w.heap.size + 1 ≤ W.heap.size := hv.lt
    have hnw : ∀ j u, ([.int .i64 x.fn, .int .i64 x.line] : List Value)[j]? = some u → (W.alloc (.cells #[.int .i64 x.fn, .int .i64 x.line] 83)).cell? ((⟨W.heap.size, 0, none⟩ : Addr).add j) = some u := World.news_of_block (cs := #[.int .i64 x.fn, .int .i64 x.line]) (t := 83) (fr := (0, 0)) (heap_alloc_new W _)
    gi_wp2_with (gi_at_builtin; refine wpListIn_append_own _ (by rfl) _ _ _ (by rfl) (w.heap.size + 1) 83 i0 _ 2 16 Try.underlying84 hi0 hz0 hz1 hz2 rfl (by decide) _ _ _ (by rfl) (hrow.alloc _) ⟨W.heap.size, 0, none⟩ 1 1 [.int .i64 x.fn, .int .i64 x.line] (by rfl) (by rfl) hnw (by simp [Value.oneCell']) (by unfold maxLen; omega) (by omega) (by simp; omega) ?_; intro v' w1 hown' hgrow _; obtain ⟨g', cap', rfl⟩ := ownsRow_succ hown'; obtain ⟨hv1, hv2, hr2, hk2, hb2⟩ := hv.appended (n₀ := w.heap.size) (by decide) (ownsLow hrow (Nat.le_succ _)) (by omega) (Nat.le_refl _) (ownsLow hown' (Nat.le_succ _)) hgrow; have hc1 := hv1.cell; have hf1 := hv1.frozen)
    have hown3 := hown'.kept (grownBy_setCell' w1 w.heap.size (.slice (some ⟨g', 0, none⟩) (pre.length + 1) cap')) (.inr (hv1.not_row (by decide) hown').symm)
    refine ⟨hk2.from _, keepsWalks_of hk2, _, hv2, ?_, hB.trans hb2⟩
    rw [lkCells_app, List.length_append]
    exact hown3
  case done =>
    rintro D xs W hD hS ⟨v, hv, hrow, hB⟩ hK
    have hcell := hv.cell
    obtain ⟨va, vm, vc, rfl⟩ : ∃ a m c, v = .slice a m c := by
      rcases hrow.2 with ⟨rfl, _⟩ | ⟨g, cap, cur, rfl, _⟩
      · exact ⟨_, _, _, rfl⟩
      · exact ⟨_, _, _, rfl⟩
    gi_wp2
    refine ⟨by simp, .inl ⟨_, _, rfl, run_takeDeferred hK, ?_⟩⟩
    refine ⟨_, results_tmp rfl _ _ _, ⟨⟨_, xs, rfl, hS, ownsLow (ownsRow_putObj hrow _ hK rfl) (Nat.le_succ _), ⟨_, _, _, rfl⟩⟩, hB.trans (belowK_b (w := w) (Nat.le_refl _) W D _ _ (by omega) hK rfl rfl)⟩⟩
  case stop =>
    rintro D c pre W _ _ h _
    exact h.elim

set_option maxRecDepth 100000 in
set_option maxHeartbeats 1000000 in
theorem collect_lk (gf : Nat) (lb : Array Value) (N : Nat) (S Sp : List Lk → Prop) (w w0 : World) (eg : ∀ args w, (callFunc gf args).run Try.prog w = .ok (.enter gf args) w) (hN : N ≤ 1048576) (hb0 : Below w0.heap.size w0 w)
    (hseq : SeqStopsK Fence.wide 5 Try.prog gf lb (fun x : Lk => #[lkV x]) KeepsWalks S Sp N w0) :
    Calls Try.prog 107 #[.func (.func gf) #[] lb] w fun e w' => (∃ v ss, e = .returned v ∧ S ss ∧ w'.ownsRow w.heap.size 83 2 v ss.length (lkCells ss) ∧ ∃ a m c, v = .slice a m c) ∧ Below w.heap.size w w' := by
  have HQ := hide hseq
  have HG := hide eg
  have HB0 := hide hb0
  clear hseq eg hb0
  go_enter Try.func107, Try.ntmps107
  go_wp2_with fail
  refine (appendSeq_lk gf lb N S Sp _ w0 (unhide HG) hN (unhide HB0) (unhide HQ)).mono ?_
  rintro e w1 ⟨⟨v, xs, rfl, hS, ho, va, vm, vc, rfl⟩, hb1⟩
  have HS := hide hS
  have HO := hide ho
  have HB := hide hb1
  clear hS ho hb1
  go_wp2
  go_ret
  exact ⟨⟨_, xs, rfl, unhide HS, unhide HO, ⟨_, _, _, rfl⟩⟩, unhide HB⟩
end Go.Proofs.Ytoiacbdnkkolmab
