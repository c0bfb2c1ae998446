import Derived.Test.YtjhfdjdmiombpabE19
import Derived.Test.YtjhfdjdmiombpabE20
namespace Go.Proofs.Ytjhfdjdmiombpab
open Go.RowKit Go.Shelf

attribute [local go_sem] Oper.semAt_some

/-- The moments from a on and ahead of q at which P holds. -/
def ups (P : Nat → Bool) (a q : Nat) : List Nat := (List.range q).filter fun i => decide (a ≤ i) && P i

theorem ups_yes {P : Nat → Bool} {a q : Nat} (ha : a ≤ q) (h : P q = true) : ups P a (q + 1) = ups P a q ++ [q] := by
  simp [ups, List.range_succ, List.filter_append, ha, h]

theorem ups_no {P : Nat → Bool} {a q : Nat} (h : P q = false) : ups P a (q + 1) = ups P a q := by
  simp [ups, List.range_succ, List.filter_append, h]

theorem ups_self (P : Nat → Bool) (a : Nat) : ups P a a = [] := by
  unfold ups
  rw [List.filter_eq_nil_iff]
  intro i hi
  have := List.mem_range.1 hi
  simp
  omega

theorem mem_ups {P : Nat → Bool} {a q i : Nat} : i ∈ ups P a q ↔ i < q ∧ a ≤ i ∧ P i = true := by
  simp [ups, List.mem_filter]

/-- Every block of cells but c0 stays. -/
def KeepsC (c0 : Nat) (A B : World) : Prop := ∀ b cs t fr, b ≠ c0 → A.heap[b]? = some (.cells cs t fr) → B.heap[b]? = some (.cells cs t fr)

def HKeep (n₁ c0 : Nat) (A B : World) : Prop := Below n₁ A B ∧ KeepsC c0 A B

theorem HKeep.t {n₁ c0 : Nat} {A B C : World} (h : HKeep n₁ c0 A B) (k : HKeep n₁ c0 B C) : HKeep n₁ c0 A C := ⟨h.1.trans k.1, fun b cs t fr hb e => k.2 b cs t fr hb (h.2 b cs t fr hb e)⟩

theorem HKeep.b {n₁ c0 : Nat} {w : World} (hn : n₁ ≤ w.heap.size) (W : World) (l : Nat) (o o' : Obj) (hl : w.heap.size ≤ l) (h : W.heap[l]? = some o) (ho : o.isCells = false) : HKeep n₁ c0 W (W.putObj l o') :=
  ⟨(below_put w W l o' hl).mono hn, fun b cs t fr _ e => by
    rw [World.putObj_heap_other (by intro e'; subst e'; rw [h] at e; cases e; cases ho)]; exact e⟩

/-- How far the iterator has to go. -/
def leftTo (tt : Int) (p : Value) (W : World) : Nat :=
  match p with
  | .pointer (some ad) => (tt - intOf ((W.cell? ad).getD (.int .i64 0))).toNat
  | _ => 0

theorem leftTo_at {tt : Int} {kb : Nat} {q : Int} {W : World} (h : W.heap[kb]? = some (.cells #[.int .i64 q] 3 (0, 0))) : leftTo tt (.pointer (some ⟨kb, 0, none⟩)) W = (tt - q).toNat := by
  have : W.cell? ⟨kb, 0, none⟩ = some (.int .i64 q) := by rw [cell_of_row W _ 0 _ _ _ h]; rfl
  simp [leftTo, this, intOf]

theorem step_box (w : World) (q : Nat) : (w.alloc (.cells #[.int .i64 ((q : Int) + 1)] 3)).heap[w.heap.size]? = some (.cells #[.int .i64 ((q + 1 : Nat) : Int)] 3 (0, 0)) ∧ Below w.heap.size w (w.alloc (.cells #[.int .i64 ((q : Int) + 1)] 3)) :=
  ⟨heap_alloc_new w _, below_new w _⟩

set_option maxRecDepth 100000 in
set_option maxHeartbeats 4000000 in
theorem hits1_in (m : Nat) (hm : 1 ≤ m) (l c0 B lo bF bE bT : Nat) (w0 : World) (tv mv : Value) (n : Nat) (f : Nat → M) (ns : Nat) (ss : Nat → Sp) (a : Nat) (tt : Int) (hto : tt ≤ n) (hns : ns ≤ 50) (hn : n ≤ 1048576)
    (ht : TestsAt B w0 tv mv ns n f ss) (h2 : MomsAt lo w0 mv n f) (J Jx : List Nat → World → Prop) (W : World) (hW : Below w0.heap.size w0 W)
    (hF : W.heap[bF]? = some (.cells #[.int .i64 (a : Int)] 3 (0, 0))) (hE : W.heap[bE]? = some (.cells #[.int .i64 tt] 3 (0, 0))) (hT : W.heap[bT]? = some (.cells #[tv] 133 (0, 0))) (nE : bE ≠ c0) (nT : bT ≠ c0) (hc : c0 < W.heap.size)
    (hJ : ∀ s A B, J s A → Below W.heap.size A B → J s B)
    (hY : ∀ pre (x : Nat) A, J pre A → YieldAt Fence.wide (m - 1) Try.prog l #[.int .i64 (x : Int)] A fun e B => (e = .returned (.bool true) ∧ J (pre ++ [x]) B ∧ HKeep w0.heap.size c0 A B) ∨ (e = .returned (.bool false) ∧ Jx (pre ++ [x]) B))
    (h0 : J [] W) :
    CallsIn Fence.wide m Try.prog 126 #[.func (.yield l) #[] #[], .pointer (some ⟨bF, 0, none⟩), .pointer (some ⟨bE, 0, none⟩), .pointer (some ⟨bT, 0, none⟩)] W fun e W' => (∃ v, e = .returned v) ∧
      ((∃ xs, (∃ q : Nat, xs = ups (anyOf f ns ss) a q ∧ a ≤ q ∧ tt ≤ (q : Int) ∧ (q = a ∨ (q : Int) ≤ tt)) ∧ J xs W') ∨ (∃ pre, (∃ q : Nat, pre = ups (anyOf f ns ss) a q ++ [q] ∧ a ≤ q ∧ (q : Int) < tt ∧ anyOf f ns ss q = true) ∧ Jx pre W')) := by
  have HT0 := hide ht
  have H2 := hide h2
  obtain ⟨ta, tc, rfl, -⟩ := ht.cells
  clear ht h2
  have cF : W.cell? ⟨bF, 0, none⟩ = some (.int .i64 (a : Int)) := by rw [cell_of_row W _ 0 _ _ _ hF]; rfl
  have lE : bE < W.heap.size := heap_in hE
  have lT : bT < W.heap.size := heap_in hT
  refine callsIn_of_wp Try.func126 rfl trivial ?_ rfl
  simp only [Try.ntmps126, List.size_toArray, List.length_cons, List.length_nil, Nat.reduceAdd, Nat.reduceSub, Array.replicate_succ, Array.replicate_zero, List.push_toArray, List.append_toArray, List.nil_append, List.cons_append]
  gi_wp2
  gi_loopw [5] (fun p wr => ∃ q kb : Nat, p = .pointer (some ⟨kb, 0, none⟩) ∧ wr.heap[kb]? = some (.cells #[.int .i64 (q : Int)] 3 (0, 0)) ∧ W.heap.size ≤ kb ∧ a ≤ q ∧ (q = a ∨ (q : Int) ≤ tt) ∧ J (ups (anyOf f ns ss) a q) wr ∧ Below w0.heap.size w0 wr ∧ W.heap.size ≤ wr.heap.size ∧ wr.heap[bE]? = some (.cells #[.int .i64 tt] 3 (0, 0)) ∧ wr.heap[bT]? = some (.cells #[.slice ta ns tc] 133 (0, 0)))
    (fun p wr => leftTo tt p wr)
  case atStart => exact ⟨a, W.heap.size, rfl, heap_alloc_new W _, Nat.le_refl _, Nat.le_refl _, .inl rfl, by rw [ups_self]; exact hJ _ _ _ h0 (below_new _ _), hW.trans ((below_new _ _).mono hW.size), (below_new W _).size, ((below_new W _).block _ lE).trans hE, ((below_new W _).block _ lT).trans hT⟩
  case round =>
    obtain ⟨q, kb, rfl, hk, hkb, haq, hqt, hJq, hb, hsz, hE', hT'⟩ := hrel
    have ck : wr.cell? ⟨kb, 0, none⟩ = some (.int .i64 (q : Int)) := by rw [cell_of_row wr _ 0 _ _ _ hk]; rfl
    have cE : wr.cell? ⟨bE, 0, none⟩ = some (.int .i64 tt) := by rw [cell_of_row wr _ 0 _ _ _ hE']; rfl
    have cT : wr.cell? ⟨bT, 0, none⟩ = some (.slice ta ns tc) := by rw [cell_of_row wr _ 0 _ _ _ hT']; rfl
    have lK : kb < wr.heap.size := heap_in hk
    by_cases hlt : (q : Int) < tt
    · have hqn : q < n := by omega
      have HK := hide hk
      have HME := hide (leftTo_at (tt := tt) hk)
      have HE := hide hE'
      have HTT := hide hT'
      have HJQ := hide hJq
      have HB := hide hb
      have HY := hide hY
      clear hk hE' hT' hJq hb hY h0 hF hE hT cF
      gi_wp2_with fail
      refine ⟨trivial, (callsIn_wide.2 (contains_any B lo kb _ mv n f ns ss q _ hqn hns ((unhide HT0).below (unhide HB)) ((unhide H2).below (unhide HB)) ck)).mono ?_⟩
      rintro e w3 ⟨rfl, hb3⟩
      have hk3 : w3.heap[kb]? = some (.cells #[.int .i64 (q : Int)] 3 (0, 0)) := (hb3.block _ lK).trans (unhide HK)
      have HE3 := hide ((hb3.block _ (by omega)).trans (unhide HE))
      have HT3 := hide ((hb3.block _ (by omega)).trans (unhide HTT))
      have hJ3 : J (ups (anyOf f ns ss) a q) w3 := hJ _ _ _ (unhide HJQ) (hb3.mono hsz)
      have HB3 := hide ((unhide HB).trans (hb3.mono (unhide HB).size))
      have hs3 : W.heap.size ≤ w3.heap.size := Nat.le_trans hsz hb3.size
      have c3 : w3.cell? ⟨kb, 0, none⟩ = some (.int .i64 (q : Int)) := by rw [cell_of_row w3 _ 0 _ _ _ hk3]; rfl
      have HK3 := hide hk3
      clear hb3 ck cE cT HK HE HTT HJQ HB hk3
      have wq : IntKind.i64.wrap ((q : Int) + 1) = ((q + 1 : Nat) : Int) := by rw [IntKind.wrap_i64]; omega
      cases ep : anyOf f ns ss q with
      | false =>
        have HP := hide ep
        have HJ3 := hide hJ3
        clear ep hJ3
        gi_wp2_with fail
        refine ⟨fun _ h => (by cases h), ?_⟩
        gi_wp2
        go_roundw
        case rel =>
          obtain ⟨e1, e2⟩ := step_box w3 q
          exact ⟨q + 1, w3.heap.size, rfl, e1, hs3, by omega, .inr (by omega), by rw [ups_no (unhide HP)]; exact hJ _ _ _ (unhide HJ3) (e2.mono hs3), (unhide HB3).trans (e2.mono (unhide HB3).size), Nat.le_trans hs3 e2.size, (e2.block _ (by omega)).trans (unhide HE3), (e2.block _ (by omega)).trans (unhide HT3)⟩
        case measure =>
          rw [unhide HME, leftTo_at (step_box w3 q).1]
          omega
      | true =>
        obtain ⟨fn, tmps, assign, body, hy, hR⟩ := unhide HY _ q w3 hJ3
        have HP := hide ep
        have HR := hide hR
        clear ep hR hJ3
        gi_wp2_with fail
        refine (unhide HR).mono ?_
        rintro e W5 (⟨rfl, hJ5, hk5⟩ | ⟨rfl, hJx5⟩)
        · have hk5k := hk5.2 kb _ _ _ (by omega) (unhide HK3)
          have c5 : W5.cell? ⟨kb, 0, none⟩ = some (.int .i64 (q : Int)) := by rw [cell_of_row W5 _ 0 _ _ _ hk5k]; rfl
          have HE5 := hide (hk5.2 bE _ _ _ nE (unhide HE3))
          have HT5 := hide (hk5.2 bT _ _ _ nT (unhide HT3))
          have HB5 := hide ((unhide HB3).trans hk5.1)
          have hs5 : W.heap.size ≤ W5.heap.size := Nat.le_trans hs3 hk5.1.size
          have HJ5 := hide hJ5
          have lE5 : bE < W5.heap.size := by omega
          have lT5 : bT < W5.heap.size := by omega
          clear hJ5 hk5 hk5k c3 HE3 HT3 HB3 HK3
          gi_wp2
          go_roundw
          case rel =>
            obtain ⟨e1, e2⟩ := step_box W5 q
            exact ⟨q + 1, W5.heap.size, rfl, e1, hs5, by omega, .inr (by omega), by rw [ups_yes haq (unhide HP)]; exact hJ _ _ _ (unhide HJ5) (e2.mono hs5), (unhide HB5).trans (e2.mono (unhide HB5).size), Nat.le_trans hs5 e2.size, (e2.block _ lE5).trans (unhide HE5), (e2.block _ lT5).trans (unhide HT5)⟩
          case measure =>
            rw [unhide HME, leftTo_at (step_box W5 q).1]
            omega
        · gi_wp2
          refine bodyPost_ret (results_none rfl _ _ _) rfl ?_
          exact ⟨⟨_, rfl⟩, .inr ⟨_, ⟨q, rfl, haq, hlt, unhide HP⟩, hJx5⟩⟩
    · gi_wp2
      go_end0
      exact ⟨⟨_, rfl⟩, .inl ⟨_, ⟨q, rfl, haq, by omega, hqt⟩, hJq⟩⟩
end Go.Proofs.Ytjhfdjdmiombpab
