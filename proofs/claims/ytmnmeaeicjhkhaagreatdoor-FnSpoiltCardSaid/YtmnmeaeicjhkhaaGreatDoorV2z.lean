import Derived.Test.YtmnmeaeicjhkhaaGreatDoorV1z
import Derived.Test.YtmnmeaeicjhkhaaGreatDoorC4z
import Derived.Deep.RegionHeld3
import Derived.Deep.DeepCutAuto
namespace Go.Proofs.YtmnmeaeicjhkhaaGreatDoor
open Go.RowKit

theorem info_stringS : (Tryz.prog.info? 9).map (fun i => (i.zero, i.size, i.bytes)) = some (some (.string ⟨#[]⟩), 1, 16) := by kernel_rfl

/-- What spoil leaves. -/
def Spoilt (K pc len tb B : Nat) (c : Cu) (v2 : Value) (ms : List Mo) (w w' : World) : Prop :=
  ∃ v1' nf' ms' c', w'.heap[tb]? = some (.cells #[v1', v2] 26 (0, 0)) ∧ TrOwn B w' v1' v2 nf' ms' ∧ ms'.length = ms.length ∧ nf' ≤ 600 ∧ Cur K w' pc len c' ∧ c'.at_ ≤ c.at_ + 10 ∧ Chg (fun b => b = pc ∨ b = tb ∨ v2.ownBlock = some b) w w'

theorem made_strs (N : Nat) : ((madeCells #[Value.string ⟨#[]⟩] N).toList.take (N * 1)) = (List.replicate N (⟨#[]⟩ : ByteArray)).map Value.string := by
  apply List.ext_getElem?
  intro i
  rw [Nat.mul_one, List.map_replicate, List.getElem?_replicate, List.getElem?_take]
  by_cases h : i < N
  · rw [if_pos h, if_pos h, Array.getElem?_toList, made_get _ _ _ h]
    simp [Nat.mod_one]
  · rw [if_neg h, if_neg h]

theorem spoil_fns {K pc len tb B n N : Nat} {c cp : Cu} {a2 : Option Addr} {cap2 nf : Nat} {v1 : Value} {ms : List Mo} {w wp : World} {mc : Array Value} (hW : TrOwn B wp v1 (.slice a2 n cap2) nf ms) (hG : Chg (fun b => b = pc ∨ b = tb ∨ (Value.slice a2 n cap2).ownBlock = some b) w wp) (hC : Cur K wp pc len cp) (hcp : cp.at_ ≤ c.at_ + 10)
    (hX : (wp.alloc (.cells mc 9)).heap[tb]? = some (.cells #[v1, .slice a2 n cap2] 26 (0, 0))) (hmc : mc = madeCells #[Value.string ⟨#[]⟩] N) (hN : N ≤ 600) (hKt : K ≤ tb) (hBw : B ≤ wp.heap.size) (hKw : K ≤ wp.heap.size) :
    Spoilt K pc len tb B c (.slice a2 n cap2) ms w ((wp.alloc (.cells mc 9)).setCell ⟨tb, 0, none⟩ (.slice (some ⟨wp.heap.size, 0, none⟩) N N)) := by
  have hn := heap_alloc_new wp (.cells mc 9)
  have hba := below_new wp (.cells mc 9)
  have hne : wp.heap.size ≠ tb := fun e => by rw [e] at hn; rw [hn] at hX; cases hX
  refine ⟨.slice (some ⟨wp.heap.size, 0, none⟩) N N, N, ms, cp, ?_, ⟨⟨List.replicate N ⟨#[]⟩, by simp, ?_, ?_⟩, ?_⟩, rfl, hN, ?_, hcp, ?_⟩
  · simp [World.setCell, Array.getElem?_modify, hX]
  · intro x hx
    rw [List.eq_of_mem_replicate hx]; decide
  · refine ⟨by simp, .inr ⟨wp.heap.size, N, mc, rfl, hBw, ?_, Nat.le_refl _, by unfold maxLen; omega, by rw [hmc]; simp [madeCells], by rw [hmc]; exact made_strs N⟩⟩
    rw [heap_setCell_other _ _ _ _ hne]; exact hn
  · have h1 := (hW.mom.from (w' := wp.alloc (.cells mc 9)) (fun b _ h2 => hba.block b h2))
    refine ⟨?_, fun x hx => ⟨?_, (h1.vars x hx).2⟩⟩
    · exact owns_but h1.row hX (by decide)
    · exact owns_but (h1.vars x hx).1 hX (by decide)
  · exact (hC.below (hba.mono hKw)).below ((Below.refl _ _).setCell (p := ⟨tb, 0, none⟩) hKt _)
  · exact (hG.trans (Chg.of_below hba)).trans (Chg.set (.inr (.inl rfl)))

theorem Chg.far {D : Nat → Prop} {w W : World} {q i : Nat} {u : Value} (h : Chg D w W) (hq : w.heap.size ≤ q) : Chg D w (W.setCell ⟨q, i, none⟩ u) :=
  ⟨h.os, h.tape, h.output, by simpa [World.setCell] using h.size, fun b h1 h2 => (heap_setCell_other W ⟨q, i, none⟩ b u (by show b ≠ q; omega)).trans (h.block b h1 h2)⟩

/-- The end of a spoilt moment. -/
theorem spoil_end {K pc len tb B n i g : Nat} {c cp : Cu} {cap2 nf : Nat} {v1 : Value} {ms : List Mo} {x : Mo} {w W : World} (hW : TrOwn B W v1 (.slice (some ⟨g, 0, none⟩) n cap2) nf ms) (hG : Chg (fun b => b = pc ∨ b = tb ∨ (Value.slice (some ⟨g, 0, none⟩) n cap2).ownBlock = some b) w W) (hC : Cur K W pc len cp) (hcp : cp.at_ ≤ c.at_ + 10)
    (hX : W.heap[tb]? = some (.cells #[v1, .slice (some ⟨g, 0, none⟩) n cap2] 26 (0, 0))) (hnf : nf ≤ 600) (hn : ms.length = n) (hi : i < n) (hKB : K ≤ B)
    (hx : W.ownsRow B 40 2 x.vv x.l.length (varCells x.l) ∧ x.l.length ≤ 3 ∧ x.text.size ≤ 1 ∧ ∀ y, y ∈ x.l → y.name.size ≤ 1 ∧ y.text.size ≤ 1) :
    Spoilt K pc len tb B c (.slice (some ⟨g, 0, none⟩) n cap2) ms w (putMom W g i x) := by
  obtain ⟨hBg, cs, fr, hg⟩ := owns_kind hW.mom.row g rfl
  have hne : tb ≠ g := fun e => by subst e; rw [hg] at hX; simp only [Option.some.injEq, Obj.cells.injEq] at hX; exact absurd hX.2.1 (by decide)
  refine ⟨v1, nf, ms.set i x, cp, by rw [putMom_other _ _ _ _ _ hne]; exact hX, hW.put hn (by omega) x hx, by rw [List.length_set], hnf, ?_, hcp, hG.trans (putMom_chg _ _ _ _ (.inr (.inr rfl)))⟩
  exact hC.below ((putMom_chg (D := fun b => b = g) W g i x rfl).below (Nat.le_of_lt (Nat.lt_of_le_of_lt (Nat.le_trans hKB hBg) (Array.getElem?_eq_some_iff.1 hg).1)) (fun b hb e => by omega))

theorem Spoilt.on {K pc len tb B : Nat} {c : Cu} {v2 : Value} {ms : List Mo} {w w' w'' : World} (h : Spoilt K pc len tb B c v2 ms w w') (hb : Below w'.heap.size w' w'') (hK : K ≤ w'.heap.size) : Spoilt K pc len tb B c v2 ms w w'' := by
  obtain ⟨v1', nf', ms', c', h1, h2, h3, h4, h5, h6, h7⟩ := h
  exact ⟨v1', nf', ms', c', (hb.block _ (heap_lt h1)).trans h1, h2.from (fun b _ h => hb.block b h), h3, h4, h5.below (hb.mono hK), h6, h7.trans (Chg.of_below hb)⟩

set_option maxRecDepth 100000 in
set_option maxHeartbeats 4000000 in
theorem spoil_any (K pc len : Nat) (c : Cu) (tb B : Nat) (v1 v2 : Value) (nf : Nat) (ms : List Mo) (w : World) (h : Cur K w pc len c) (hat : c.at_ ≤ 1000000000000000000) (hT : w.heap[tb]? = some (.cells #[v1, v2] 26 (0, 0))) (hKt : K ≤ tb) (hKB : K ≤ B) (hBw : B ≤ w.heap.size) (ho : TrOwn B w v1 v2 nf ms) (hms : ms.length ≤ 4000) (hnf : nf ≤ 600) :
    Calls Tryz.prog 53 #[.pointer (some ⟨pc, 0, none⟩), .pointer (some ⟨tb, 0, none⟩)] w fun e w' => e = .returned (.tuple #[]) ∧ Spoilt K pc len tb B c v2 ms w w' := by
  have hpc : pc < K := h.hk
  have HC := hide h
  have HX := hide hT
  have HW := hide ho
  have HG := hide (Chg.refl (fun b => b = pc ∨ b = tb ∨ v2.ownBlock = some b) w)
  obtain ⟨a2, cap2, rfl⟩ := owns_slice ho.mom.row
  obtain ⟨n, hn⟩ : ∃ n, n = ms.length := ⟨_, rfl⟩
  rw [← hn] at HX HW HG hms hT ⊢
  have HN := hide hn
  have z0 : w.cell? ⟨tb, 0, none⟩ = some v1 := by rw [cell_of_row _ _ 0 _ _ _ hT]; rfl
  have z1 : w.cell? ⟨tb, 1, none⟩ = some (.slice a2 n cap2) := by rw [cell_of_row _ _ 1 _ _ _ hT]; rfl
  clear h hT ho hn
  go_enter Tryz.func53, Tryz.ntmps53
  by_cases h0 : n = 0
  · have hb0 : ((n : Int) == 0) = true := by rw [h0]; rfl
    have H0 := hide h0
    clear h0
    go_wp2_with fail
    refine (pick_w K pc len c 3 _ (unhide HC) (by omega) (by omega)).mono ?_
    rintro e wp ⟨⟨y, cp, rfl, hy, hcp, hcur⟩, hb⟩
    have hxp : wp.heap[tb]? = some (.cells #[v1, .slice a2 n cap2] 26 (0, 0)) := (hb.block tb (heap_lt (unhide HX)) (.inr (by omega))).trans (unhide HX)
    have HWP := hide ((unhide HW).from (w' := wp) (fun b h1 h2 => hb.block b h2 (.inr (by omega))))
    have HGP := hide ((unhide HG).trans (Chg.of_betw hb (.inl rfl)))
    have hsp : w.heap.size ≤ wp.heap.size := hb.size
    have HCP := hide hcur
    have HAT := hide (show cp.at_ ≤ c.at_ + 10 by omega)
    clear hcur hb
    obtain ⟨N, hN⟩ : ∃ N, N = y * 300 := ⟨_, rfl⟩
    have hN6 : N ≤ 600 := by omega
    have wm : IntKind.i64.wrap ((y : Int) * 300) = (N : Int) := by rw [IntKind.wrap_i64]; omega
    clear hN
    have z1 : wp.cell? ⟨tb, 1, none⟩ = some (.slice a2 n cap2) := by rw [cell_of_row _ _ 1 _ _ _ hxp]; rfl
    have z0 : wp.cell? ⟨tb, 0, none⟩ = some v1 := by rw [cell_of_row _ _ 0 _ _ _ hxp]; rfl
    obtain ⟨mc, hmc⟩ : ∃ mc, mc = madeCells #[Value.string ⟨#[]⟩] N := ⟨_, rfl⟩
    have hmk : ∀ w, (Instr.makeSlice 23 (.int .i64 N) (.int .i64 N)).run Tryz.prog w = .ok (.slice (some ⟨w.heap.size, 0, none⟩) N N) (w.alloc (.cells mc 9)) := fun w => by
      rw [hmc]
      have := run_make_many (P := Tryz.prog) 23 9 _ _ _ Tryz.underlying23 info_stringS N (by omega) (by omega) w
      rw [Nat.mul_one] at this
      exact this
    have BA := hide (below_new wp (.cells mc 9))
    have q0 := cell_below (unhide BA) z0
    have q1 := cell_below (unhide BA) z1
    have hlt : tb < wp.heap.size := heap_lt hxp
    have hxa := ((unhide BA).block tb hlt).trans hxp
    have f0 : (wp.alloc (.cells mc 9)).frozen? ⟨tb, 0, none⟩ = false := by simp [World.frozen?, hxa]
    have HXA := hide hxa
    have HMC := hide hmc
    clear hmc hxa hxp
    go_wp2
    refine bodyPost_ret (results_none rfl _ _ _) rfl ?_
    rw [← World.setCell_alloc_past (w := wp) (.cells mc 9) tb 0 (.slice (some ⟨wp.heap.size, 0, none⟩) N N) hlt]
    exact ⟨rfl, spoil_fns (unhide HWP) (unhide HGP) (unhide HCP) (unhide HAT) (unhide HXA) (unhide HMC) hN6 (by omega) (by omega) (by omega)⟩
  · have hb0 : ((n : Int) == 0) = false := by simp; omega
    go_wp2_with fail
    refine (pick_w K pc len c 10 _ (unhide HC) (by omega) (by omega)).mono ?_
    rintro e wa ⟨⟨x, ca, rfl, hx, hca, hcur⟩, hb⟩
    have HXa := hide ((hb.block tb (heap_lt (unhide HX)) (.inr (by omega))).trans (unhide HX))
    have HWa := hide ((unhide HW).from (w' := wa) (fun b h1 h2 => hb.block b h2 (.inr (by omega))))
    have HGa := hide ((unhide HG).trans (Chg.of_betw hb (.inl rfl)))
    have hsa : w.heap.size ≤ wa.heap.size := hb.size
    have HCa := hide hcur
    clear hcur hb HX HW HG HC z0 z1
    have HX := HXa
    have HW := HWa
    have HG := HGa
    have HC := HCa
    clear HXa HWa HGa HCa
    by_cases hx0 : x = 0
    · subst hx0
      go_wp2_with fail
      refine (pick_w K pc len ca 3 _ (unhide HC) (by omega) (by omega)).mono ?_
      rintro e wp ⟨⟨y, cp, rfl, hy, hcp, hcur⟩, hb⟩
      have hxp : wp.heap[tb]? = some (.cells #[v1, .slice a2 n cap2] 26 (0, 0)) := (hb.block tb (heap_lt (unhide HX)) (.inr (by omega))).trans (unhide HX)
      have HWP := hide ((unhide HW).from (w' := wp) (fun b h1 h2 => hb.block b h2 (.inr (by omega))))
      have HGP := hide ((unhide HG).trans (Chg.of_betw hb (.inl rfl)))
      have hsp : wa.heap.size ≤ wp.heap.size := hb.size
      have HCP := hide hcur
      have HAT := hide (show cp.at_ ≤ c.at_ + 10 by omega)
      clear hcur hb
      obtain ⟨N, hN⟩ : ∃ N, N = y * 300 := ⟨_, rfl⟩
      have hN6 : N ≤ 600 := by omega
      have wm : IntKind.i64.wrap ((y : Int) * 300) = (N : Int) := by rw [IntKind.wrap_i64]; omega
      clear hN
      have z1 : wp.cell? ⟨tb, 1, none⟩ = some (.slice a2 n cap2) := by rw [cell_of_row _ _ 1 _ _ _ hxp]; rfl
      have z0 : wp.cell? ⟨tb, 0, none⟩ = some v1 := by rw [cell_of_row _ _ 0 _ _ _ hxp]; rfl
      obtain ⟨mc, hmc⟩ : ∃ mc, mc = madeCells #[Value.string ⟨#[]⟩] N := ⟨_, rfl⟩
      have hmk : ∀ w, (Instr.makeSlice 23 (.int .i64 N) (.int .i64 N)).run Tryz.prog w = .ok (.slice (some ⟨w.heap.size, 0, none⟩) N N) (w.alloc (.cells mc 9)) := fun w => by
        rw [hmc]
        have := run_make_many (P := Tryz.prog) 23 9 _ _ _ Tryz.underlying23 info_stringS N (by omega) (by omega) w
        rw [Nat.mul_one] at this
        exact this
      have BA := hide (below_new wp (.cells mc 9))
      have q0 := cell_below (unhide BA) z0
      have q1 := cell_below (unhide BA) z1
      have hlt : tb < wp.heap.size := heap_lt hxp
      have hxa := ((unhide BA).block tb hlt).trans hxp
      have f0 : (wp.alloc (.cells mc 9)).frozen? ⟨tb, 0, none⟩ = false := by simp [World.frozen?, hxa]
      have HXA := hide hxa
      have HMC := hide hmc
      clear hmc hxa hxp
      go_wp2
      refine bodyPost_ret (results_none rfl _ _ _) rfl ?_
      rw [← World.setCell_alloc_past (w := wp) (.cells mc 9) tb 0 (.slice (some ⟨wp.heap.size, 0, none⟩) N N) hlt]
      exact ⟨rfl, spoil_fns (unhide HWP) (unhide HGP) (unhide HCP) (unhide HAT) (unhide HXA) (unhide HMC) hN6 (by omega) (by omega) (by omega)⟩
    · have hxb : ((x : Int) == 0) = false := by simp; omega
      have z1 : wa.cell? ⟨tb, 1, none⟩ = some (.slice a2 n cap2) := by rw [cell_of_row _ _ 1 _ _ _ (unhide HX)]; rfl
      go_wp2_with fail
      refine (pick_w K pc len ca n _ (unhide HC) (by omega) (by omega)).mono ?_
      rintro e wb ⟨⟨i, cb, rfl, hi, hcb, hcur⟩, hb⟩
      have hin : i < n := by omega
      have HXb := hide ((hb.block tb (heap_lt (unhide HX)) (.inr (by omega))).trans (unhide HX))
      have HWb := hide ((unhide HW).from (w' := wb) (fun b h1 h2 => hb.block b h2 (.inr (by omega))))
      have HGb := hide ((unhide HG).trans (Chg.of_betw hb (.inl rfl)))
      have hsb : wa.heap.size ≤ wb.heap.size := hb.size
      have HCb := hide hcur
      clear hcur hb HX HW HG HC z1 hi
      have hil : i < ms.length := by rw [← unhide HN]; exact hin
      have hrow := (unhide HWb).mom.row
      rw [← unhide HN] at hrow
      obtain ⟨g, cap', eg, hBg⟩ := owns_at hrow (by omega)
      cases eg
      obtain ⟨e0, e1, e2, e3, e4, e5⟩ := momCells_get ms i hil
      have c0 := (owns_cell hrow _ _ e0).1
      have c1 := (owns_cell hrow _ _ e1).1
      have c2 := (owns_cell hrow _ _ e2).1
      have c3 := (owns_cell hrow _ _ e3).1
      have c4 := (owns_cell hrow _ _ e4).1
      have c5 := (owns_cell hrow _ _ e5).1
      have hva := (unhide HWb).mom.vars ms[i] (List.getElem_mem hil)
      obtain ⟨⟨mk, mt, mf, ml, mx, mv, mls⟩, hm⟩ : ∃ m, m = ms[i] := ⟨_, rfl⟩
      rw [← hm] at c0 c1 c2 c3 c4 c5 hva
      dsimp only at c0 c1 c2 c3 c4 c5 hva
      have HVA := hide hva
      obtain ⟨va, vc, rfl⟩ := owns_slice hva.1
      have HGG : Hid (wb.heap.size ≠ g) := hide (by have := (hrow.lt g rfl).2; omega)
      have HTG : Hid (tb ≠ g) := hide (fun e => by
        obtain ⟨_, cs, fr, hg⟩ := owns_kind hrow g rfl
        rw [← e, unhide HXb] at hg
        simp only [Option.some.injEq, Obj.cells.injEq] at hg
        exact absurd hg.2.1 (by decide))
      clear hm e0 e1 e2 e3 e4 e5 hrow hva
      have z1 : wb.cell? ⟨tb, 1, none⟩ = some (.slice (some ⟨g, 0, none⟩) n cap2) := by rw [cell_of_row _ _ 1 _ _ _ (unhide HXb)]; rfl
      have i0' : (0 : Int) ≤ (i : Int) := by omega
      have i1' : (i : Int) < (n : Int) := by omega
      have HBA := hide (below_new wb (.cells #[.int .i64 mk, .int .i64 mt, .int .i64 mf, .int .i64 ml, .string mx, .slice va mls.length vc] 108))
      have HXA := hide (heap_alloc_new wb (.cells #[.int .i64 mk, .int .i64 mt, .int .i64 mf, .int .i64 ml, .string mx, .slice va mls.length vc] 108))
      go_wp2_with fail
      refine (pick_w K pc len cb 7 _ ((unhide HCb).below ((unhide HBA).mono (by omega))) (by omega) (by omega)).mono ?_
      rintro e wc ⟨⟨k, cc, rfl, hk, hcc, hcur⟩, hb⟩
      have HXc := hide ((hb.block tb (by have := heap_lt (unhide HXb); have := (unhide HBA).size; omega) (.inr (by omega))).trans (((unhide HBA).block tb (heap_lt (unhide HXb))).trans (unhide HXb)))
      have HMc := hide ((hb.block wb.heap.size (heap_lt (unhide HXA)) (.inr (by omega))).trans (unhide HXA))
      have HKc : Hid (∀ b, B ≤ b → b < wb.heap.size → wc.heap[b]? = wb.heap[b]?) := hide (fun b h1 h2 => (hb.block b (by simp; omega) (.inr (by omega))).trans ((unhide HBA).block b h2))
      have HTL := hide (heap_lt (unhide HXb))
      have HGc := hide (((unhide HGb).trans (Chg.of_below (unhide HBA))).trans (Chg.of_betw hb (.inl rfl)))
      have hsc : wb.heap.size + 1 ≤ wc.heap.size := by have := hb.size; simpa using this
      have HCc := hide hcur
      clear hcur hb HXb HGb HCb HBA HXA z1 c0 c1 c2 c3 c4 c5
      rcases (show k = 0 ∨ k = 1 ∨ k = 2 ∨ k = 3 ∨ k = 4 ∨ k = 5 ∨ k = 6 by omega) with rfl | rfl | rfl | rfl | rfl | rfl | rfl
      · go_wp2_with fail
        refine (pick_w K pc len cc 9 _ (unhide HCc) (by omega) (by omega)).mono ?_
        rintro e wd ⟨⟨y, cd, rfl, hy, hcd, hcur⟩, hb⟩
        have HXd := hide ((hb.block tb (heap_lt (unhide HXc)) (.inr (by omega))).trans (unhide HXc))
        have HMd := hide ((hb.block wb.heap.size (heap_lt (unhide HMc)) (.inr (by omega))).trans (unhide HMc))
        have HKd : Hid (∀ b, B ≤ b → b < wb.heap.size → wd.heap[b]? = wb.heap[b]?) := hide (fun b h1 h2 => (hb.block b (by omega) (.inr (by omega))).trans (unhide HKc b h1 h2))
        have HGd := hide ((unhide HGc).trans (Chg.of_betw hb (.inl rfl)))
        have HCd := hide hcur
        have HAT := hide (show cd.at_ ≤ c.at_ + 10 by omega)
        have hsd : wc.heap.size ≤ wd.heap.size := hb.size
        clear hcur hb HXc HMc HGc HCc HKc
        obtain ⟨z, hz⟩ : ∃ z : Int, z = (y : Int) := ⟨_, rfl⟩
        have wz : (y : Int) = z := hz.symm
        clear hz
        have f0 : wd.frozen? ⟨wb.heap.size, 0, none⟩ = false := by simp [World.frozen?, unhide HMd]
        have zz : wd.cell? ⟨wb.heap.size, 0, none⟩ = some (.int .i64 mk) := by rw [cell_of_row _ _ 0 _ _ _ (unhide HMd)]; rfl
        go_upto_region 17 with fail
        have htw : tb ≠ wb.heap.size := by have := unhide HTL; omega
        have HXe := hide ((heap_setCell_other wd ⟨wb.heap.size, 0, none⟩ tb (.int .i64 z) htw).trans (unhide HXd))
        have HMe : Hid ((wd.setCell ⟨wb.heap.size, 0, none⟩ (.int .i64 z)).heap[wb.heap.size]? = some (.cells #[.int .i64 z, .int .i64 mt, .int .i64 mf, .int .i64 ml, .string mx, .slice va mls.length vc] 108 (0, 0))) := hide (by simp [World.setCell, Array.getElem?_modify, unhide HMd])
        have HKe : Hid (∀ b, B ≤ b → b < wb.heap.size → (wd.setCell ⟨wb.heap.size, 0, none⟩ (.int .i64 z)).heap[b]? = wb.heap[b]?) := hide (fun b h1 h2 => (heap_setCell_other wd ⟨wb.heap.size, 0, none⟩ b (.int .i64 z) (by show b ≠ wb.heap.size; omega)).trans (unhide HKd b h1 h2))
        have HWe := hide ((unhide HWb).from (unhide HKe))
        have HVe := hide (owns_from (unhide HVA).1 (unhide HKe))
        have HGe := hide ((unhide HGd).far (i := 0) (u := .int .i64 z) (show w.heap.size ≤ wb.heap.size by omega))
        have HCe := hide ((unhide HCd).below ((Below.refl _ _).setCell (p := ⟨wb.heap.size, 0, none⟩) (show K ≤ wb.heap.size by omega) (.int .i64 z)))
        clear HXd HMd HKd HGd HCd HKe f0 zz
        obtain ⟨We, hWe⟩ : ∃ We, We = wd.setCell ⟨wb.heap.size, 0, none⟩ (.int .i64 z) := ⟨_, rfl⟩
        rw [← hWe] at HXe HMe HWe HVe HGe HCe ⊢
        clear hWe
        have HSS : Hid (∀ W, Below We.heap.size We W → W.cell? ⟨tb, 1, none⟩ = some (.slice (some ⟨g, 0, none⟩) n cap2) ∧ W.cell? ⟨wb.heap.size, 0, none⟩ = some (.int .i64 z) ∧ W.cell? ⟨wb.heap.size, 1, none⟩ = some (.int .i64 mt) ∧ W.cell? ⟨wb.heap.size, 2, none⟩ = some (.int .i64 mf) ∧ W.cell? ⟨wb.heap.size, 3, none⟩ = some (.int .i64 ml) ∧ W.cell? ⟨wb.heap.size, 4, none⟩ = some (.string mx) ∧ W.cell? ⟨wb.heap.size, 5, none⟩ = some (.slice va mls.length vc)) := hide (fun W hb => ⟨cell_below hb (by rw [cell_of_row _ _ 1 _ _ _ (unhide HXe)]; rfl), cell_below hb (by rw [cell_of_row _ _ 0 _ _ _ (unhide HMe)]; rfl), cell_below hb (by rw [cell_of_row _ _ 1 _ _ _ (unhide HMe)]; rfl), cell_below hb (by rw [cell_of_row _ _ 2 _ _ _ (unhide HMe)]; rfl), cell_below hb (by rw [cell_of_row _ _ 3 _ _ _ (unhide HMe)]; rfl), cell_below hb (by rw [cell_of_row _ _ 4 _ _ _ (unhide HMe)]; rfl), cell_below hb (by rw [cell_of_row _ _ 5 _ _ _ (unhide HMe)]; rfl)⟩)
        refine wp_region_held_drew (S := fun W => W.cell? ⟨tb, 1, none⟩ = some (.slice (some ⟨g, 0, none⟩) n cap2) ∧ W.cell? ⟨wb.heap.size, 0, none⟩ = some (.int .i64 z) ∧ W.cell? ⟨wb.heap.size, 1, none⟩ = some (.int .i64 mt) ∧ W.cell? ⟨wb.heap.size, 2, none⟩ = some (.int .i64 mf) ∧ W.cell? ⟨wb.heap.size, 3, none⟩ = some (.int .i64 ml) ∧ W.cell? ⟨wb.heap.size, 4, none⟩ = some (.string mx) ∧ W.cell? ⟨wb.heap.size, 5, none⟩ = some (.slice va mls.length vc)) (by kernel_rfl) (unhide HSS _ (Below.refl _ _).drew) (fun hHeld => ?_)
        refine takeAt 0 (some 73) (v := ?v0z1x) (by decide) rfl (by kernel_rfl) (by kernel_rfl) (by kernel_rfl) (fun _ _ _ h => h) (by rfl) ?hy0z1x hHeld ?r0z1x
        case hy0z1x => (intro wx hSw; obtain ⟨s0, s1, s2, s3, s4, s5, s6⟩ := hSw; go_simp; with_reducible rfl)
        simp only [Act.put, List.setIfInBounds_toArray, List.set_cons_zero, List.set_cons_succ]
        refine takeAt 1 (some 74) (v := ?v1z1x) (by decide) rfl (by kernel_rfl) (by kernel_rfl) (by kernel_rfl) (fun _ _ _ h => h) (by rfl) ?hy1z1x hHeld ?r1z1x
        case hy1z1x => (intro wx hSw; obtain ⟨s0, s1, s2, s3, s4, s5, s6⟩ := hSw; go_simp; with_reducible rfl)
        simp only [Act.put, List.setIfInBounds_toArray, List.set_cons_zero, List.set_cons_succ]
        refine takeAt 2 (some 75) (v := ?v2z1x) (by decide) rfl (by kernel_rfl) (by kernel_rfl) (by kernel_rfl) (fun _ _ _ h => h) (by rfl) ?hy2z1x hHeld ?r2z1x
        case hy2z1x => (intro wx hSw; obtain ⟨s0, s1, s2, s3, s4, s5, s6⟩ := hSw; go_simp; with_reducible rfl)
        simp only [Act.put, List.setIfInBounds_toArray, List.set_cons_zero, List.set_cons_succ]
        refine takeAt 3 (some 76) (v := ?v3z1x) (by decide) rfl (by kernel_rfl) (by kernel_rfl) (by kernel_rfl) (fun _ _ _ h => h) (by rfl) ?hy3z1x hHeld ?r3z1x
        case hy3z1x => (intro wx hSw; obtain ⟨s0, s1, s2, s3, s4, s5, s6⟩ := hSw; go_simp; with_reducible rfl)
        simp only [Act.put, List.setIfInBounds_toArray, List.set_cons_zero, List.set_cons_succ]
        refine takeAt 4 (some 77) (v := ?v4z1x) (by decide) rfl (by kernel_rfl) (by kernel_rfl) (by kernel_rfl) (fun _ _ _ h => h) (by rfl) ?hy4z1x hHeld ?r4z1x
        case hy4z1x => (intro wx hSw; obtain ⟨s0, s1, s2, s3, s4, s5, s6⟩ := hSw; go_simp; with_reducible rfl)
        simp only [Act.put, List.setIfInBounds_toArray, List.set_cons_zero, List.set_cons_succ]
        refine takeAt 5 (some 78) (v := ?v5z1x) (by decide) rfl (by kernel_rfl) (by kernel_rfl) (by kernel_rfl) (fun _ _ _ h => h) (by rfl) ?hy5z1x hHeld ?r5z1x
        case hy5z1x => (intro wx hSw; obtain ⟨s0, s1, s2, s3, s4, s5, s6⟩ := hSw; go_simp; with_reducible rfl)
        simp only [Act.put, List.setIfInBounds_toArray, List.set_cons_zero, List.set_cons_succ]
        refine takeAt 6 (some 79) (v := ?v6z1x) (by decide) rfl (by kernel_rfl) (by kernel_rfl) (by kernel_rfl) (fun _ _ _ h => h) (by rfl) ?hy6z1x hHeld ?r6z1x
        case hy6z1x => (intro wx hSw; obtain ⟨s0, s1, s2, s3, s4, s5, s6⟩ := hSw; go_simp; with_reducible rfl)
        simp only [Act.put, List.setIfInBounds_toArray, List.set_cons_zero, List.set_cons_succ]
        refine wpAnyH_ready (rs := [7]) (by kernel_rfl) (by simp) ?_
        refine AllReadyH.cons rfl (fun KK hK => ?_) AllReadyH.nil
        obtain ⟨d0, d1, d2, d3, d4, d5⟩ := momCells_get ms i hil
        have hro := (unhide HWe).mom.row
        rw [← unhide HN] at hro
        obtain ⟨u0, k0⟩ : ∃ u, We.cell? ⟨g, i * 6, none⟩ = some u := ⟨_, (owns_cell hro _ _ d0).1⟩
        have l0 := (owns_cell hro _ _ d0).2
        obtain ⟨u1, k1⟩ : ∃ u, We.cell? ⟨g, i * 6 + 1, none⟩ = some u := ⟨_, (owns_cell hro _ _ d1).1⟩
        have l1 := (owns_cell hro _ _ d1).2
        obtain ⟨u2, k2⟩ : ∃ u, We.cell? ⟨g, i * 6 + 2, none⟩ = some u := ⟨_, (owns_cell hro _ _ d2).1⟩
        have l2 := (owns_cell hro _ _ d2).2
        obtain ⟨u3, k3⟩ : ∃ u, We.cell? ⟨g, i * 6 + 3, none⟩ = some u := ⟨_, (owns_cell hro _ _ d3).1⟩
        have l3 := (owns_cell hro _ _ d3).2
        obtain ⟨u4, k4⟩ : ∃ u, We.cell? ⟨g, i * 6 + 4, none⟩ = some u := ⟨_, (owns_cell hro _ _ d4).1⟩
        have l4 := (owns_cell hro _ _ d4).2
        obtain ⟨u5, k5⟩ : ∃ u, We.cell? ⟨g, i * 6 + 5, none⟩ = some u := ⟨_, (owns_cell hro _ _ d5).1⟩
        have l5 := (owns_cell hro _ _ d5).2
        clear d0 d1 d2 d3 d4 d5 hro
        go_simp
        have hXp := (putMom_other We g i (⟨z, mt, mf, ml, mx, .slice va mls.length vc, mls⟩ : Mo) tb (unhide HTG)).trans (unhide HXe)
        have hMp := (putMom_other We g i (⟨z, mt, mf, ml, mx, .slice va mls.length vc, mls⟩ : Mo) wb.heap.size (unhide HGG)).trans (unhide HMe)
        have hdr := (Below.refl (putMom We g i (⟨z, mt, mf, ml, mx, .slice va mls.length vc, mls⟩ : Mo)).heap.size (putMom We g i (⟨z, mt, mf, ml, mx, .slice va mls.length vc, mls⟩ : Mo))).drew
        refine hK.out _ _ ⟨cell_below hdr (by rw [cell_of_row _ _ 1 _ _ _ hXp]; rfl), cell_below hdr (by rw [cell_of_row _ _ 0 _ _ _ hMp]; rfl), cell_below hdr (by rw [cell_of_row _ _ 1 _ _ _ hMp]; rfl), cell_below hdr (by rw [cell_of_row _ _ 2 _ _ _ hMp]; rfl), cell_below hdr (by rw [cell_of_row _ _ 3 _ _ _ hMp]; rfl), cell_below hdr (by rw [cell_of_row _ _ 4 _ _ _ hMp]; rfl), cell_below hdr (by rw [cell_of_row _ _ 5 _ _ _ hMp]; rfl)⟩ (fun hHeld => ?_)
        clear hK KK hHeld k0 k1 k2 k3 k4 k5 l0 l1 l2 l3 l4 l5
        try simp only [Act.put, List.setIfInBounds_toArray, List.getElem_toArray, List.getElem_cons_succ, List.getElem_cons_zero, List.set_cons_zero, List.set_cons_succ]
        refine wpAnyH_done (by kernel_rfl) ?_ _
        have hsW : K ≤ We.heap.size := by have := heap_lt (unhide HMe); omega
        have hsP : We.heap.size ≤ (putMom We g i (⟨z, mt, mf, ml, mx, .slice va mls.length vc, mls⟩ : Mo)).heap.size := (putMom_chg (D := fun _ => True) We g i _ trivial).size
        go_wp2
        go_end0
        exact ⟨rfl, (spoil_end (x := (⟨z, mt, mf, ml, mx, .slice va mls.length vc, mls⟩ : Mo)) (unhide HWe) (unhide HGe) (unhide HCe) (unhide HAT) (unhide HXe) hnf (unhide HN).symm hin hKB ⟨unhide HVe, (unhide HVA).2⟩).on hdr (Nat.le_trans hsW hsP)⟩
      · go_wp2_with fail
        refine (pick_w K pc len cc 9 _ (unhide HCc) (by omega) (by omega)).mono ?_
        rintro e wd ⟨⟨y, cd, rfl, hy, hcd, hcur⟩, hb⟩
        have HXd := hide ((hb.block tb (heap_lt (unhide HXc)) (.inr (by omega))).trans (unhide HXc))
        have HMd := hide ((hb.block wb.heap.size (heap_lt (unhide HMc)) (.inr (by omega))).trans (unhide HMc))
        have HKd : Hid (∀ b, B ≤ b → b < wb.heap.size → wd.heap[b]? = wb.heap[b]?) := hide (fun b h1 h2 => (hb.block b (by omega) (.inr (by omega))).trans (unhide HKc b h1 h2))
        have HGd := hide ((unhide HGc).trans (Chg.of_betw hb (.inl rfl)))
        have HCd := hide hcur
        have HAT := hide (show cd.at_ ≤ c.at_ + 10 by omega)
        have hsd : wc.heap.size ≤ wd.heap.size := hb.size
        clear hcur hb HXc HMc HGc HCc HKc
        obtain ⟨z, hz⟩ : ∃ z : Int, z = (y : Int) := ⟨_, rfl⟩
        have wz : (y : Int) = z := hz.symm
        clear hz
        have f0 : wd.frozen? ⟨wb.heap.size, 0, none⟩ = false := by simp [World.frozen?, unhide HMd]
        have zz : wd.cell? ⟨wb.heap.size, 0, none⟩ = some (.int .i64 mk) := by rw [cell_of_row _ _ 0 _ _ _ (unhide HMd)]; rfl
        go_upto_region 17 with fail
        have htw : tb ≠ wb.heap.size := by have := unhide HTL; omega
        have HXe := hide ((heap_setCell_other wd ⟨wb.heap.size, 0, none⟩ tb (.int .i64 z) htw).trans (unhide HXd))
        have HMe : Hid ((wd.setCell ⟨wb.heap.size, 0, none⟩ (.int .i64 z)).heap[wb.heap.size]? = some (.cells #[.int .i64 z, .int .i64 mt, .int .i64 mf, .int .i64 ml, .string mx, .slice va mls.length vc] 108 (0, 0))) := hide (by simp [World.setCell, Array.getElem?_modify, unhide HMd])
        have HKe : Hid (∀ b, B ≤ b → b < wb.heap.size → (wd.setCell ⟨wb.heap.size, 0, none⟩ (.int .i64 z)).heap[b]? = wb.heap[b]?) := hide (fun b h1 h2 => (heap_setCell_other wd ⟨wb.heap.size, 0, none⟩ b (.int .i64 z) (by show b ≠ wb.heap.size; omega)).trans (unhide HKd b h1 h2))
        have HWe := hide ((unhide HWb).from (unhide HKe))
        have HVe := hide (owns_from (unhide HVA).1 (unhide HKe))
        have HGe := hide ((unhide HGd).far (i := 0) (u := .int .i64 z) (show w.heap.size ≤ wb.heap.size by omega))
        have HCe := hide ((unhide HCd).below ((Below.refl _ _).setCell (p := ⟨wb.heap.size, 0, none⟩) (show K ≤ wb.heap.size by omega) (.int .i64 z)))
        clear HXd HMd HKd HGd HCd HKe f0 zz
        obtain ⟨We, hWe⟩ : ∃ We, We = wd.setCell ⟨wb.heap.size, 0, none⟩ (.int .i64 z) := ⟨_, rfl⟩
        rw [← hWe] at HXe HMe HWe HVe HGe HCe ⊢
        clear hWe
        have HSS : Hid (∀ W, Below We.heap.size We W → W.cell? ⟨tb, 1, none⟩ = some (.slice (some ⟨g, 0, none⟩) n cap2) ∧ W.cell? ⟨wb.heap.size, 0, none⟩ = some (.int .i64 z) ∧ W.cell? ⟨wb.heap.size, 1, none⟩ = some (.int .i64 mt) ∧ W.cell? ⟨wb.heap.size, 2, none⟩ = some (.int .i64 mf) ∧ W.cell? ⟨wb.heap.size, 3, none⟩ = some (.int .i64 ml) ∧ W.cell? ⟨wb.heap.size, 4, none⟩ = some (.string mx) ∧ W.cell? ⟨wb.heap.size, 5, none⟩ = some (.slice va mls.length vc)) := hide (fun W hb => ⟨cell_below hb (by rw [cell_of_row _ _ 1 _ _ _ (unhide HXe)]; rfl), cell_below hb (by rw [cell_of_row _ _ 0 _ _ _ (unhide HMe)]; rfl), cell_below hb (by rw [cell_of_row _ _ 1 _ _ _ (unhide HMe)]; rfl), cell_below hb (by rw [cell_of_row _ _ 2 _ _ _ (unhide HMe)]; rfl), cell_below hb (by rw [cell_of_row _ _ 3 _ _ _ (unhide HMe)]; rfl), cell_below hb (by rw [cell_of_row _ _ 4 _ _ _ (unhide HMe)]; rfl), cell_below hb (by rw [cell_of_row _ _ 5 _ _ _ (unhide HMe)]; rfl)⟩)
        refine wp_region_held_drew (S := fun W => W.cell? ⟨tb, 1, none⟩ = some (.slice (some ⟨g, 0, none⟩) n cap2) ∧ W.cell? ⟨wb.heap.size, 0, none⟩ = some (.int .i64 z) ∧ W.cell? ⟨wb.heap.size, 1, none⟩ = some (.int .i64 mt) ∧ W.cell? ⟨wb.heap.size, 2, none⟩ = some (.int .i64 mf) ∧ W.cell? ⟨wb.heap.size, 3, none⟩ = some (.int .i64 ml) ∧ W.cell? ⟨wb.heap.size, 4, none⟩ = some (.string mx) ∧ W.cell? ⟨wb.heap.size, 5, none⟩ = some (.slice va mls.length vc)) (by kernel_rfl) (unhide HSS _ (Below.refl _ _).drew) (fun hHeld => ?_)
        refine takeAt 0 (some 73) (v := ?v0z2x) (by decide) rfl (by kernel_rfl) (by kernel_rfl) (by kernel_rfl) (fun _ _ _ h => h) (by rfl) ?hy0z2x hHeld ?r0z2x
        case hy0z2x => (intro wx hSw; obtain ⟨s0, s1, s2, s3, s4, s5, s6⟩ := hSw; go_simp; with_reducible rfl)
        simp only [Act.put, List.setIfInBounds_toArray, List.set_cons_zero, List.set_cons_succ]
        refine takeAt 1 (some 74) (v := ?v1z2x) (by decide) rfl (by kernel_rfl) (by kernel_rfl) (by kernel_rfl) (fun _ _ _ h => h) (by rfl) ?hy1z2x hHeld ?r1z2x
        case hy1z2x => (intro wx hSw; obtain ⟨s0, s1, s2, s3, s4, s5, s6⟩ := hSw; go_simp; with_reducible rfl)
        simp only [Act.put, List.setIfInBounds_toArray, List.set_cons_zero, List.set_cons_succ]
        refine takeAt 2 (some 75) (v := ?v2z2x) (by decide) rfl (by kernel_rfl) (by kernel_rfl) (by kernel_rfl) (fun _ _ _ h => h) (by rfl) ?hy2z2x hHeld ?r2z2x
        case hy2z2x => (intro wx hSw; obtain ⟨s0, s1, s2, s3, s4, s5, s6⟩ := hSw; go_simp; with_reducible rfl)
        simp only [Act.put, List.setIfInBounds_toArray, List.set_cons_zero, List.set_cons_succ]
        refine takeAt 3 (some 76) (v := ?v3z2x) (by decide) rfl (by kernel_rfl) (by kernel_rfl) (by kernel_rfl) (fun _ _ _ h => h) (by rfl) ?hy3z2x hHeld ?r3z2x
        case hy3z2x => (intro wx hSw; obtain ⟨s0, s1, s2, s3, s4, s5, s6⟩ := hSw; go_simp; with_reducible rfl)
        simp only [Act.put, List.setIfInBounds_toArray, List.set_cons_zero, List.set_cons_succ]
        refine takeAt 4 (some 77) (v := ?v4z2x) (by decide) rfl (by kernel_rfl) (by kernel_rfl) (by kernel_rfl) (fun _ _ _ h => h) (by rfl) ?hy4z2x hHeld ?r4z2x
        case hy4z2x => (intro wx hSw; obtain ⟨s0, s1, s2, s3, s4, s5, s6⟩ := hSw; go_simp; with_reducible rfl)
        simp only [Act.put, List.setIfInBounds_toArray, List.set_cons_zero, List.set_cons_succ]
        refine takeAt 5 (some 78) (v := ?v5z2x) (by decide) rfl (by kernel_rfl) (by kernel_rfl) (by kernel_rfl) (fun _ _ _ h => h) (by rfl) ?hy5z2x hHeld ?r5z2x
        case hy5z2x => (intro wx hSw; obtain ⟨s0, s1, s2, s3, s4, s5, s6⟩ := hSw; go_simp; with_reducible rfl)
        simp only [Act.put, List.setIfInBounds_toArray, List.set_cons_zero, List.set_cons_succ]
        refine takeAt 6 (some 79) (v := ?v6z2x) (by decide) rfl (by kernel_rfl) (by kernel_rfl) (by kernel_rfl) (fun _ _ _ h => h) (by rfl) ?hy6z2x hHeld ?r6z2x
        case hy6z2x => (intro wx hSw; obtain ⟨s0, s1, s2, s3, s4, s5, s6⟩ := hSw; go_simp; with_reducible rfl)
        simp only [Act.put, List.setIfInBounds_toArray, List.set_cons_zero, List.set_cons_succ]
        refine wpAnyH_ready (rs := [7]) (by kernel_rfl) (by simp) ?_
        refine AllReadyH.cons rfl (fun KK hK => ?_) AllReadyH.nil
        obtain ⟨d0, d1, d2, d3, d4, d5⟩ := momCells_get ms i hil
        have hro := (unhide HWe).mom.row
        rw [← unhide HN] at hro
        obtain ⟨u0, k0⟩ : ∃ u, We.cell? ⟨g, i * 6, none⟩ = some u := ⟨_, (owns_cell hro _ _ d0).1⟩
        have l0 := (owns_cell hro _ _ d0).2
        obtain ⟨u1, k1⟩ : ∃ u, We.cell? ⟨g, i * 6 + 1, none⟩ = some u := ⟨_, (owns_cell hro _ _ d1).1⟩
        have l1 := (owns_cell hro _ _ d1).2
        obtain ⟨u2, k2⟩ : ∃ u, We.cell? ⟨g, i * 6 + 2, none⟩ = some u := ⟨_, (owns_cell hro _ _ d2).1⟩
        have l2 := (owns_cell hro _ _ d2).2
        obtain ⟨u3, k3⟩ : ∃ u, We.cell? ⟨g, i * 6 + 3, none⟩ = some u := ⟨_, (owns_cell hro _ _ d3).1⟩
        have l3 := (owns_cell hro _ _ d3).2
        obtain ⟨u4, k4⟩ : ∃ u, We.cell? ⟨g, i * 6 + 4, none⟩ = some u := ⟨_, (owns_cell hro _ _ d4).1⟩
        have l4 := (owns_cell hro _ _ d4).2
        obtain ⟨u5, k5⟩ : ∃ u, We.cell? ⟨g, i * 6 + 5, none⟩ = some u := ⟨_, (owns_cell hro _ _ d5).1⟩
        have l5 := (owns_cell hro _ _ d5).2
        clear d0 d1 d2 d3 d4 d5 hro
        go_simp
        have hXp := (putMom_other We g i (⟨z, mt, mf, ml, mx, .slice va mls.length vc, mls⟩ : Mo) tb (unhide HTG)).trans (unhide HXe)
        have hMp := (putMom_other We g i (⟨z, mt, mf, ml, mx, .slice va mls.length vc, mls⟩ : Mo) wb.heap.size (unhide HGG)).trans (unhide HMe)
        have hdr := (Below.refl (putMom We g i (⟨z, mt, mf, ml, mx, .slice va mls.length vc, mls⟩ : Mo)).heap.size (putMom We g i (⟨z, mt, mf, ml, mx, .slice va mls.length vc, mls⟩ : Mo))).drew
        refine hK.out _ _ ⟨cell_below hdr (by rw [cell_of_row _ _ 1 _ _ _ hXp]; rfl), cell_below hdr (by rw [cell_of_row _ _ 0 _ _ _ hMp]; rfl), cell_below hdr (by rw [cell_of_row _ _ 1 _ _ _ hMp]; rfl), cell_below hdr (by rw [cell_of_row _ _ 2 _ _ _ hMp]; rfl), cell_below hdr (by rw [cell_of_row _ _ 3 _ _ _ hMp]; rfl), cell_below hdr (by rw [cell_of_row _ _ 4 _ _ _ hMp]; rfl), cell_below hdr (by rw [cell_of_row _ _ 5 _ _ _ hMp]; rfl)⟩ (fun hHeld => ?_)
        clear hK KK hHeld k0 k1 k2 k3 k4 k5 l0 l1 l2 l3 l4 l5
        try simp only [Act.put, List.setIfInBounds_toArray, List.getElem_toArray, List.getElem_cons_succ, List.getElem_cons_zero, List.set_cons_zero, List.set_cons_succ]
        refine wpAnyH_done (by kernel_rfl) ?_ _
        have hsW : K ≤ We.heap.size := by have := heap_lt (unhide HMe); omega
        have hsP : We.heap.size ≤ (putMom We g i (⟨z, mt, mf, ml, mx, .slice va mls.length vc, mls⟩ : Mo)).heap.size := (putMom_chg (D := fun _ => True) We g i _ trivial).size
        go_wp2
        go_end0
        exact ⟨rfl, (spoil_end (x := (⟨z, mt, mf, ml, mx, .slice va mls.length vc, mls⟩ : Mo)) (unhide HWe) (unhide HGe) (unhide HCe) (unhide HAT) (unhide HXe) hnf (unhide HN).symm hin hKB ⟨unhide HVe, (unhide HVA).2⟩).on hdr (Nat.le_trans hsW hsP)⟩
      · go_wp2_with fail
        refine (pick_w K pc len cc 6 _ (unhide HCc) (by omega) (by omega)).mono ?_
        rintro e wd ⟨⟨y, cd, rfl, hy, hcd, hcur⟩, hb⟩
        have HXd := hide ((hb.block tb (heap_lt (unhide HXc)) (.inr (by omega))).trans (unhide HXc))
        have HMd := hide ((hb.block wb.heap.size (heap_lt (unhide HMc)) (.inr (by omega))).trans (unhide HMc))
        have HKd : Hid (∀ b, B ≤ b → b < wb.heap.size → wd.heap[b]? = wb.heap[b]?) := hide (fun b h1 h2 => (hb.block b (by omega) (.inr (by omega))).trans (unhide HKc b h1 h2))
        have HGd := hide ((unhide HGc).trans (Chg.of_betw hb (.inl rfl)))
        have HCd := hide hcur
        have HAT := hide (show cd.at_ ≤ c.at_ + 10 by omega)
        have hsd : wc.heap.size ≤ wd.heap.size := hb.size
        clear hcur hb HXc HMc HGc HCc HKc
        obtain ⟨z, hz⟩ : ∃ z : Int, z = (y : Int) - 1 := ⟨_, rfl⟩
        have wz : IntKind.i64.wrap ((y : Int) - 1) = z := by rw [IntKind.wrap_i64]; omega
        clear hz
        have f0 : wd.frozen? ⟨wb.heap.size, 1, none⟩ = false := by simp [World.frozen?, unhide HMd]
        have zz : wd.cell? ⟨wb.heap.size, 1, none⟩ = some (.int .i64 mt) := by rw [cell_of_row _ _ 1 _ _ _ (unhide HMd)]; rfl
        go_upto_region 17 with fail
        have htw : tb ≠ wb.heap.size := by have := unhide HTL; omega
        have HXe := hide ((heap_setCell_other wd ⟨wb.heap.size, 1, none⟩ tb (.int .i64 z) htw).trans (unhide HXd))
        have HMe : Hid ((wd.setCell ⟨wb.heap.size, 1, none⟩ (.int .i64 z)).heap[wb.heap.size]? = some (.cells #[.int .i64 mk, .int .i64 z, .int .i64 mf, .int .i64 ml, .string mx, .slice va mls.length vc] 108 (0, 0))) := hide (by simp [World.setCell, Array.getElem?_modify, unhide HMd])
        have HKe : Hid (∀ b, B ≤ b → b < wb.heap.size → (wd.setCell ⟨wb.heap.size, 1, none⟩ (.int .i64 z)).heap[b]? = wb.heap[b]?) := hide (fun b h1 h2 => (heap_setCell_other wd ⟨wb.heap.size, 1, none⟩ b (.int .i64 z) (by show b ≠ wb.heap.size; omega)).trans (unhide HKd b h1 h2))
        have HWe := hide ((unhide HWb).from (unhide HKe))
        have HVe := hide (owns_from (unhide HVA).1 (unhide HKe))
        have HGe := hide ((unhide HGd).far (i := 1) (u := .int .i64 z) (show w.heap.size ≤ wb.heap.size by omega))
        have HCe := hide ((unhide HCd).below ((Below.refl _ _).setCell (p := ⟨wb.heap.size, 1, none⟩) (show K ≤ wb.heap.size by omega) (.int .i64 z)))
        clear HXd HMd HKd HGd HCd HKe f0 zz
        obtain ⟨We, hWe⟩ : ∃ We, We = wd.setCell ⟨wb.heap.size, 1, none⟩ (.int .i64 z) := ⟨_, rfl⟩
        rw [← hWe] at HXe HMe HWe HVe HGe HCe ⊢
        clear hWe
        have HSS : Hid (∀ W, Below We.heap.size We W → W.cell? ⟨tb, 1, none⟩ = some (.slice (some ⟨g, 0, none⟩) n cap2) ∧ W.cell? ⟨wb.heap.size, 0, none⟩ = some (.int .i64 mk) ∧ W.cell? ⟨wb.heap.size, 1, none⟩ = some (.int .i64 z) ∧ W.cell? ⟨wb.heap.size, 2, none⟩ = some (.int .i64 mf) ∧ W.cell? ⟨wb.heap.size, 3, none⟩ = some (.int .i64 ml) ∧ W.cell? ⟨wb.heap.size, 4, none⟩ = some (.string mx) ∧ W.cell? ⟨wb.heap.size, 5, none⟩ = some (.slice va mls.length vc)) := hide (fun W hb => ⟨cell_below hb (by rw [cell_of_row _ _ 1 _ _ _ (unhide HXe)]; rfl), cell_below hb (by rw [cell_of_row _ _ 0 _ _ _ (unhide HMe)]; rfl), cell_below hb (by rw [cell_of_row _ _ 1 _ _ _ (unhide HMe)]; rfl), cell_below hb (by rw [cell_of_row _ _ 2 _ _ _ (unhide HMe)]; rfl), cell_below hb (by rw [cell_of_row _ _ 3 _ _ _ (unhide HMe)]; rfl), cell_below hb (by rw [cell_of_row _ _ 4 _ _ _ (unhide HMe)]; rfl), cell_below hb (by rw [cell_of_row _ _ 5 _ _ _ (unhide HMe)]; rfl)⟩)
        refine wp_region_held_drew (S := fun W => W.cell? ⟨tb, 1, none⟩ = some (.slice (some ⟨g, 0, none⟩) n cap2) ∧ W.cell? ⟨wb.heap.size, 0, none⟩ = some (.int .i64 mk) ∧ W.cell? ⟨wb.heap.size, 1, none⟩ = some (.int .i64 z) ∧ W.cell? ⟨wb.heap.size, 2, none⟩ = some (.int .i64 mf) ∧ W.cell? ⟨wb.heap.size, 3, none⟩ = some (.int .i64 ml) ∧ W.cell? ⟨wb.heap.size, 4, none⟩ = some (.string mx) ∧ W.cell? ⟨wb.heap.size, 5, none⟩ = some (.slice va mls.length vc)) (by kernel_rfl) (unhide HSS _ (Below.refl _ _).drew) (fun hHeld => ?_)
        refine takeAt 0 (some 73) (v := ?v0z3x) (by decide) rfl (by kernel_rfl) (by kernel_rfl) (by kernel_rfl) (fun _ _ _ h => h) (by rfl) ?hy0z3x hHeld ?r0z3x
        case hy0z3x => (intro wx hSw; obtain ⟨s0, s1, s2, s3, s4, s5, s6⟩ := hSw; go_simp; with_reducible rfl)
        simp only [Act.put, List.setIfInBounds_toArray, List.set_cons_zero, List.set_cons_succ]
        refine takeAt 1 (some 74) (v := ?v1z3x) (by decide) rfl (by kernel_rfl) (by kernel_rfl) (by kernel_rfl) (fun _ _ _ h => h) (by rfl) ?hy1z3x hHeld ?r1z3x
        case hy1z3x => (intro wx hSw; obtain ⟨s0, s1, s2, s3, s4, s5, s6⟩ := hSw; go_simp; with_reducible rfl)
        simp only [Act.put, List.setIfInBounds_toArray, List.set_cons_zero, List.set_cons_succ]
        refine takeAt 2 (some 75) (v := ?v2z3x) (by decide) rfl (by kernel_rfl) (by kernel_rfl) (by kernel_rfl) (fun _ _ _ h => h) (by rfl) ?hy2z3x hHeld ?r2z3x
        case hy2z3x => (intro wx hSw; obtain ⟨s0, s1, s2, s3, s4, s5, s6⟩ := hSw; go_simp; with_reducible rfl)
        simp only [Act.put, List.setIfInBounds_toArray, List.set_cons_zero, List.set_cons_succ]
        refine takeAt 3 (some 76) (v := ?v3z3x) (by decide) rfl (by kernel_rfl) (by kernel_rfl) (by kernel_rfl) (fun _ _ _ h => h) (by rfl) ?hy3z3x hHeld ?r3z3x
        case hy3z3x => (intro wx hSw; obtain ⟨s0, s1, s2, s3, s4, s5, s6⟩ := hSw; go_simp; with_reducible rfl)
        simp only [Act.put, List.setIfInBounds_toArray, List.set_cons_zero, List.set_cons_succ]
        refine takeAt 4 (some 77) (v := ?v4z3x) (by decide) rfl (by kernel_rfl) (by kernel_rfl) (by kernel_rfl) (fun _ _ _ h => h) (by rfl) ?hy4z3x hHeld ?r4z3x
        case hy4z3x => (intro wx hSw; obtain ⟨s0, s1, s2, s3, s4, s5, s6⟩ := hSw; go_simp; with_reducible rfl)
        simp only [Act.put, List.setIfInBounds_toArray, List.set_cons_zero, List.set_cons_succ]
        refine takeAt 5 (some 78) (v := ?v5z3x) (by decide) rfl (by kernel_rfl) (by kernel_rfl) (by kernel_rfl) (fun _ _ _ h => h) (by rfl) ?hy5z3x hHeld ?r5z3x
        case hy5z3x => (intro wx hSw; obtain ⟨s0, s1, s2, s3, s4, s5, s6⟩ := hSw; go_simp; with_reducible rfl)
        simp only [Act.put, List.setIfInBounds_toArray, List.set_cons_zero, List.set_cons_succ]
        refine takeAt 6 (some 79) (v := ?v6z3x) (by decide) rfl (by kernel_rfl) (by kernel_rfl) (by kernel_rfl) (fun _ _ _ h => h) (by rfl) ?hy6z3x hHeld ?r6z3x
        case hy6z3x => (intro wx hSw; obtain ⟨s0, s1, s2, s3, s4, s5, s6⟩ := hSw; go_simp; with_reducible rfl)
        simp only [Act.put, List.setIfInBounds_toArray, List.set_cons_zero, List.set_cons_succ]
        refine wpAnyH_ready (rs := [7]) (by kernel_rfl) (by simp) ?_
        refine AllReadyH.cons rfl (fun KK hK => ?_) AllReadyH.nil
        obtain ⟨d0, d1, d2, d3, d4, d5⟩ := momCells_get ms i hil
        have hro := (unhide HWe).mom.row
        rw [← unhide HN] at hro
        obtain ⟨u0, k0⟩ : ∃ u, We.cell? ⟨g, i * 6, none⟩ = some u := ⟨_, (owns_cell hro _ _ d0).1⟩
        have l0 := (owns_cell hro _ _ d0).2
        obtain ⟨u1, k1⟩ : ∃ u, We.cell? ⟨g, i * 6 + 1, none⟩ = some u := ⟨_, (owns_cell hro _ _ d1).1⟩
        have l1 := (owns_cell hro _ _ d1).2
        obtain ⟨u2, k2⟩ : ∃ u, We.cell? ⟨g, i * 6 + 2, none⟩ = some u := ⟨_, (owns_cell hro _ _ d2).1⟩
        have l2 := (owns_cell hro _ _ d2).2
        obtain ⟨u3, k3⟩ : ∃ u, We.cell? ⟨g, i * 6 + 3, none⟩ = some u := ⟨_, (owns_cell hro _ _ d3).1⟩
        have l3 := (owns_cell hro _ _ d3).2
        obtain ⟨u4, k4⟩ : ∃ u, We.cell? ⟨g, i * 6 + 4, none⟩ = some u := ⟨_, (owns_cell hro _ _ d4).1⟩
        have l4 := (owns_cell hro _ _ d4).2
        obtain ⟨u5, k5⟩ : ∃ u, We.cell? ⟨g, i * 6 + 5, none⟩ = some u := ⟨_, (owns_cell hro _ _ d5).1⟩
        have l5 := (owns_cell hro _ _ d5).2
        clear d0 d1 d2 d3 d4 d5 hro
        go_simp
        have hXp := (putMom_other We g i (⟨mk, z, mf, ml, mx, .slice va mls.length vc, mls⟩ : Mo) tb (unhide HTG)).trans (unhide HXe)
        have hMp := (putMom_other We g i (⟨mk, z, mf, ml, mx, .slice va mls.length vc, mls⟩ : Mo) wb.heap.size (unhide HGG)).trans (unhide HMe)
        have hdr := (Below.refl (putMom We g i (⟨mk, z, mf, ml, mx, .slice va mls.length vc, mls⟩ : Mo)).heap.size (putMom We g i (⟨mk, z, mf, ml, mx, .slice va mls.length vc, mls⟩ : Mo))).drew
        refine hK.out _ _ ⟨cell_below hdr (by rw [cell_of_row _ _ 1 _ _ _ hXp]; rfl), cell_below hdr (by rw [cell_of_row _ _ 0 _ _ _ hMp]; rfl), cell_below hdr (by rw [cell_of_row _ _ 1 _ _ _ hMp]; rfl), cell_below hdr (by rw [cell_of_row _ _ 2 _ _ _ hMp]; rfl), cell_below hdr (by rw [cell_of_row _ _ 3 _ _ _ hMp]; rfl), cell_below hdr (by rw [cell_of_row _ _ 4 _ _ _ hMp]; rfl), cell_below hdr (by rw [cell_of_row _ _ 5 _ _ _ hMp]; rfl)⟩ (fun hHeld => ?_)
        clear hK KK hHeld k0 k1 k2 k3 k4 k5 l0 l1 l2 l3 l4 l5
        try simp only [Act.put, List.setIfInBounds_toArray, List.getElem_toArray, List.getElem_cons_succ, List.getElem_cons_zero, List.set_cons_zero, List.set_cons_succ]
        refine wpAnyH_done (by kernel_rfl) ?_ _
        have hsW : K ≤ We.heap.size := by have := heap_lt (unhide HMe); omega
        have hsP : We.heap.size ≤ (putMom We g i (⟨mk, z, mf, ml, mx, .slice va mls.length vc, mls⟩ : Mo)).heap.size := (putMom_chg (D := fun _ => True) We g i _ trivial).size
        go_wp2
        go_end0
        exact ⟨rfl, (spoil_end (x := (⟨mk, z, mf, ml, mx, .slice va mls.length vc, mls⟩ : Mo)) (unhide HWe) (unhide HGe) (unhide HCe) (unhide HAT) (unhide HXe) hnf (unhide HN).symm hin hKB ⟨unhide HVe, (unhide HVA).2⟩).on hdr (Nat.le_trans hsW hsP)⟩
      · go_wp2_with fail
        refine (pick_w K pc len cc 6 _ (unhide HCc) (by omega) (by omega)).mono ?_
        rintro e wd ⟨⟨y, cd, rfl, hy, hcd, hcur⟩, hb⟩
        have HXd := hide ((hb.block tb (heap_lt (unhide HXc)) (.inr (by omega))).trans (unhide HXc))
        have HMd := hide ((hb.block wb.heap.size (heap_lt (unhide HMc)) (.inr (by omega))).trans (unhide HMc))
        have HKd : Hid (∀ b, B ≤ b → b < wb.heap.size → wd.heap[b]? = wb.heap[b]?) := hide (fun b h1 h2 => (hb.block b (by omega) (.inr (by omega))).trans (unhide HKc b h1 h2))
        have HGd := hide ((unhide HGc).trans (Chg.of_betw hb (.inl rfl)))
        have HCd := hide hcur
        have HAT := hide (show cd.at_ ≤ c.at_ + 10 by omega)
        have hsd : wc.heap.size ≤ wd.heap.size := hb.size
        clear hcur hb HXc HMc HGc HCc HKc
        obtain ⟨z, hz⟩ : ∃ z : Int, z = (y : Int) - 1 := ⟨_, rfl⟩
        have wz : IntKind.i64.wrap ((y : Int) - 1) = z := by rw [IntKind.wrap_i64]; omega
        clear hz
        have f0 : wd.frozen? ⟨wb.heap.size, 2, none⟩ = false := by simp [World.frozen?, unhide HMd]
        have zz : wd.cell? ⟨wb.heap.size, 2, none⟩ = some (.int .i64 mf) := by rw [cell_of_row _ _ 2 _ _ _ (unhide HMd)]; rfl
        go_upto_region 17 with fail
        have htw : tb ≠ wb.heap.size := by have := unhide HTL; omega
        have HXe := hide ((heap_setCell_other wd ⟨wb.heap.size, 2, none⟩ tb (.int .i64 z) htw).trans (unhide HXd))
        have HMe : Hid ((wd.setCell ⟨wb.heap.size, 2, none⟩ (.int .i64 z)).heap[wb.heap.size]? = some (.cells #[.int .i64 mk, .int .i64 mt, .int .i64 z, .int .i64 ml, .string mx, .slice va mls.length vc] 108 (0, 0))) := hide (by simp [World.setCell, Array.getElem?_modify, unhide HMd])
        have HKe : Hid (∀ b, B ≤ b → b < wb.heap.size → (wd.setCell ⟨wb.heap.size, 2, none⟩ (.int .i64 z)).heap[b]? = wb.heap[b]?) := hide (fun b h1 h2 => (heap_setCell_other wd ⟨wb.heap.size, 2, none⟩ b (.int .i64 z) (by show b ≠ wb.heap.size; omega)).trans (unhide HKd b h1 h2))
        have HWe := hide ((unhide HWb).from (unhide HKe))
        have HVe := hide (owns_from (unhide HVA).1 (unhide HKe))
        have HGe := hide ((unhide HGd).far (i := 2) (u := .int .i64 z) (show w.heap.size ≤ wb.heap.size by omega))
        have HCe := hide ((unhide HCd).below ((Below.refl _ _).setCell (p := ⟨wb.heap.size, 2, none⟩) (show K ≤ wb.heap.size by omega) (.int .i64 z)))
        clear HXd HMd HKd HGd HCd HKe f0 zz
        obtain ⟨We, hWe⟩ : ∃ We, We = wd.setCell ⟨wb.heap.size, 2, none⟩ (.int .i64 z) := ⟨_, rfl⟩
        rw [← hWe] at HXe HMe HWe HVe HGe HCe ⊢
        clear hWe
        have HSS : Hid (∀ W, Below We.heap.size We W → W.cell? ⟨tb, 1, none⟩ = some (.slice (some ⟨g, 0, none⟩) n cap2) ∧ W.cell? ⟨wb.heap.size, 0, none⟩ = some (.int .i64 mk) ∧ W.cell? ⟨wb.heap.size, 1, none⟩ = some (.int .i64 mt) ∧ W.cell? ⟨wb.heap.size, 2, none⟩ = some (.int .i64 z) ∧ W.cell? ⟨wb.heap.size, 3, none⟩ = some (.int .i64 ml) ∧ W.cell? ⟨wb.heap.size, 4, none⟩ = some (.string mx) ∧ W.cell? ⟨wb.heap.size, 5, none⟩ = some (.slice va mls.length vc)) := hide (fun W hb => ⟨cell_below hb (by rw [cell_of_row _ _ 1 _ _ _ (unhide HXe)]; rfl), cell_below hb (by rw [cell_of_row _ _ 0 _ _ _ (unhide HMe)]; rfl), cell_below hb (by rw [cell_of_row _ _ 1 _ _ _ (unhide HMe)]; rfl), cell_below hb (by rw [cell_of_row _ _ 2 _ _ _ (unhide HMe)]; rfl), cell_below hb (by rw [cell_of_row _ _ 3 _ _ _ (unhide HMe)]; rfl), cell_below hb (by rw [cell_of_row _ _ 4 _ _ _ (unhide HMe)]; rfl), cell_below hb (by rw [cell_of_row _ _ 5 _ _ _ (unhide HMe)]; rfl)⟩)
        refine wp_region_held_drew (S := fun W => W.cell? ⟨tb, 1, none⟩ = some (.slice (some ⟨g, 0, none⟩) n cap2) ∧ W.cell? ⟨wb.heap.size, 0, none⟩ = some (.int .i64 mk) ∧ W.cell? ⟨wb.heap.size, 1, none⟩ = some (.int .i64 mt) ∧ W.cell? ⟨wb.heap.size, 2, none⟩ = some (.int .i64 z) ∧ W.cell? ⟨wb.heap.size, 3, none⟩ = some (.int .i64 ml) ∧ W.cell? ⟨wb.heap.size, 4, none⟩ = some (.string mx) ∧ W.cell? ⟨wb.heap.size, 5, none⟩ = some (.slice va mls.length vc)) (by kernel_rfl) (unhide HSS _ (Below.refl _ _).drew) (fun hHeld => ?_)
        refine takeAt 0 (some 73) (v := ?v0z4x) (by decide) rfl (by kernel_rfl) (by kernel_rfl) (by kernel_rfl) (fun _ _ _ h => h) (by rfl) ?hy0z4x hHeld ?r0z4x
        case hy0z4x => (intro wx hSw; obtain ⟨s0, s1, s2, s3, s4, s5, s6⟩ := hSw; go_simp; with_reducible rfl)
        simp only [Act.put, List.setIfInBounds_toArray, List.set_cons_zero, List.set_cons_succ]
        refine takeAt 1 (some 74) (v := ?v1z4x) (by decide) rfl (by kernel_rfl) (by kernel_rfl) (by kernel_rfl) (fun _ _ _ h => h) (by rfl) ?hy1z4x hHeld ?r1z4x
        case hy1z4x => (intro wx hSw; obtain ⟨s0, s1, s2, s3, s4, s5, s6⟩ := hSw; go_simp; with_reducible rfl)
        simp only [Act.put, List.setIfInBounds_toArray, List.set_cons_zero, List.set_cons_succ]
        refine takeAt 2 (some 75) (v := ?v2z4x) (by decide) rfl (by kernel_rfl) (by kernel_rfl) (by kernel_rfl) (fun _ _ _ h => h) (by rfl) ?hy2z4x hHeld ?r2z4x
        case hy2z4x => (intro wx hSw; obtain ⟨s0, s1, s2, s3, s4, s5, s6⟩ := hSw; go_simp; with_reducible rfl)
        simp only [Act.put, List.setIfInBounds_toArray, List.set_cons_zero, List.set_cons_succ]
        refine takeAt 3 (some 76) (v := ?v3z4x) (by decide) rfl (by kernel_rfl) (by kernel_rfl) (by kernel_rfl) (fun _ _ _ h => h) (by rfl) ?hy3z4x hHeld ?r3z4x
        case hy3z4x => (intro wx hSw; obtain ⟨s0, s1, s2, s3, s4, s5, s6⟩ := hSw; go_simp; with_reducible rfl)
        simp only [Act.put, List.setIfInBounds_toArray, List.set_cons_zero, List.set_cons_succ]
        refine takeAt 4 (some 77) (v := ?v4z4x) (by decide) rfl (by kernel_rfl) (by kernel_rfl) (by kernel_rfl) (fun _ _ _ h => h) (by rfl) ?hy4z4x hHeld ?r4z4x
        case hy4z4x => (intro wx hSw; obtain ⟨s0, s1, s2, s3, s4, s5, s6⟩ := hSw; go_simp; with_reducible rfl)
        simp only [Act.put, List.setIfInBounds_toArray, List.set_cons_zero, List.set_cons_succ]
        refine takeAt 5 (some 78) (v := ?v5z4x) (by decide) rfl (by kernel_rfl) (by kernel_rfl) (by kernel_rfl) (fun _ _ _ h => h) (by rfl) ?hy5z4x hHeld ?r5z4x
        case hy5z4x => (intro wx hSw; obtain ⟨s0, s1, s2, s3, s4, s5, s6⟩ := hSw; go_simp; with_reducible rfl)
        simp only [Act.put, List.setIfInBounds_toArray, List.set_cons_zero, List.set_cons_succ]
        refine takeAt 6 (some 79) (v := ?v6z4x) (by decide) rfl (by kernel_rfl) (by kernel_rfl) (by kernel_rfl) (fun _ _ _ h => h) (by rfl) ?hy6z4x hHeld ?r6z4x
        case hy6z4x => (intro wx hSw; obtain ⟨s0, s1, s2, s3, s4, s5, s6⟩ := hSw; go_simp; with_reducible rfl)
        simp only [Act.put, List.setIfInBounds_toArray, List.set_cons_zero, List.set_cons_succ]
        refine wpAnyH_ready (rs := [7]) (by kernel_rfl) (by simp) ?_
        refine AllReadyH.cons rfl (fun KK hK => ?_) AllReadyH.nil
        obtain ⟨d0, d1, d2, d3, d4, d5⟩ := momCells_get ms i hil
        have hro := (unhide HWe).mom.row
        rw [← unhide HN] at hro
        obtain ⟨u0, k0⟩ : ∃ u, We.cell? ⟨g, i * 6, none⟩ = some u := ⟨_, (owns_cell hro _ _ d0).1⟩
        have l0 := (owns_cell hro _ _ d0).2
        obtain ⟨u1, k1⟩ : ∃ u, We.cell? ⟨g, i * 6 + 1, none⟩ = some u := ⟨_, (owns_cell hro _ _ d1).1⟩
        have l1 := (owns_cell hro _ _ d1).2
        obtain ⟨u2, k2⟩ : ∃ u, We.cell? ⟨g, i * 6 + 2, none⟩ = some u := ⟨_, (owns_cell hro _ _ d2).1⟩
        have l2 := (owns_cell hro _ _ d2).2
        obtain ⟨u3, k3⟩ : ∃ u, We.cell? ⟨g, i * 6 + 3, none⟩ = some u := ⟨_, (owns_cell hro _ _ d3).1⟩
        have l3 := (owns_cell hro _ _ d3).2
        obtain ⟨u4, k4⟩ : ∃ u, We.cell? ⟨g, i * 6 + 4, none⟩ = some u := ⟨_, (owns_cell hro _ _ d4).1⟩
        have l4 := (owns_cell hro _ _ d4).2
        obtain ⟨u5, k5⟩ : ∃ u, We.cell? ⟨g, i * 6 + 5, none⟩ = some u := ⟨_, (owns_cell hro _ _ d5).1⟩
        have l5 := (owns_cell hro _ _ d5).2
        clear d0 d1 d2 d3 d4 d5 hro
        go_simp
        have hXp := (putMom_other We g i (⟨mk, mt, z, ml, mx, .slice va mls.length vc, mls⟩ : Mo) tb (unhide HTG)).trans (unhide HXe)
        have hMp := (putMom_other We g i (⟨mk, mt, z, ml, mx, .slice va mls.length vc, mls⟩ : Mo) wb.heap.size (unhide HGG)).trans (unhide HMe)
        have hdr := (Below.refl (putMom We g i (⟨mk, mt, z, ml, mx, .slice va mls.length vc, mls⟩ : Mo)).heap.size (putMom We g i (⟨mk, mt, z, ml, mx, .slice va mls.length vc, mls⟩ : Mo))).drew
        refine hK.out _ _ ⟨cell_below hdr (by rw [cell_of_row _ _ 1 _ _ _ hXp]; rfl), cell_below hdr (by rw [cell_of_row _ _ 0 _ _ _ hMp]; rfl), cell_below hdr (by rw [cell_of_row _ _ 1 _ _ _ hMp]; rfl), cell_below hdr (by rw [cell_of_row _ _ 2 _ _ _ hMp]; rfl), cell_below hdr (by rw [cell_of_row _ _ 3 _ _ _ hMp]; rfl), cell_below hdr (by rw [cell_of_row _ _ 4 _ _ _ hMp]; rfl), cell_below hdr (by rw [cell_of_row _ _ 5 _ _ _ hMp]; rfl)⟩ (fun hHeld => ?_)
        clear hK KK hHeld k0 k1 k2 k3 k4 k5 l0 l1 l2 l3 l4 l5
        try simp only [Act.put, List.setIfInBounds_toArray, List.getElem_toArray, List.getElem_cons_succ, List.getElem_cons_zero, List.set_cons_zero, List.set_cons_succ]
        refine wpAnyH_done (by kernel_rfl) ?_ _
        have hsW : K ≤ We.heap.size := by have := heap_lt (unhide HMe); omega
        have hsP : We.heap.size ≤ (putMom We g i (⟨mk, mt, z, ml, mx, .slice va mls.length vc, mls⟩ : Mo)).heap.size := (putMom_chg (D := fun _ => True) We g i _ trivial).size
        go_wp2
        go_end0
        exact ⟨rfl, (spoil_end (x := (⟨mk, mt, z, ml, mx, .slice va mls.length vc, mls⟩ : Mo)) (unhide HWe) (unhide HGe) (unhide HCe) (unhide HAT) (unhide HXe) hnf (unhide HN).symm hin hKB ⟨unhide HVe, (unhide HVA).2⟩).on hdr (Nat.le_trans hsW hsP)⟩
      · go_wp2_with fail
        refine (pick_w K pc len cc 4 _ (unhide HCc) (by omega) (by omega)).mono ?_
        rintro e wd ⟨⟨y, cd, rfl, hy, hcd, hcur⟩, hb⟩
        have HXd := hide ((hb.block tb (heap_lt (unhide HXc)) (.inr (by omega))).trans (unhide HXc))
        have HMd := hide ((hb.block wb.heap.size (heap_lt (unhide HMc)) (.inr (by omega))).trans (unhide HMc))
        have HKd : Hid (∀ b, B ≤ b → b < wb.heap.size → wd.heap[b]? = wb.heap[b]?) := hide (fun b h1 h2 => (hb.block b (by omega) (.inr (by omega))).trans (unhide HKc b h1 h2))
        have HGd := hide ((unhide HGc).trans (Chg.of_betw hb (.inl rfl)))
        have HCd := hide hcur
        have HAT := hide (show cd.at_ ≤ c.at_ + 10 by omega)
        have hsd : wc.heap.size ≤ wd.heap.size := hb.size
        clear hcur hb HXc HMc HGc HCc HKc
        obtain ⟨z, hz⟩ : ∃ z : Int, z = (y : Int) - 1 := ⟨_, rfl⟩
        have wz : IntKind.i64.wrap ((y : Int) - 1) = z := by rw [IntKind.wrap_i64]; omega
        clear hz
        have f0 : wd.frozen? ⟨wb.heap.size, 3, none⟩ = false := by simp [World.frozen?, unhide HMd]
        have zz : wd.cell? ⟨wb.heap.size, 3, none⟩ = some (.int .i64 ml) := by rw [cell_of_row _ _ 3 _ _ _ (unhide HMd)]; rfl
        go_upto_region 17 with fail
        have htw : tb ≠ wb.heap.size := by have := unhide HTL; omega
        have HXe := hide ((heap_setCell_other wd ⟨wb.heap.size, 3, none⟩ tb (.int .i64 z) htw).trans (unhide HXd))
        have HMe : Hid ((wd.setCell ⟨wb.heap.size, 3, none⟩ (.int .i64 z)).heap[wb.heap.size]? = some (.cells #[.int .i64 mk, .int .i64 mt, .int .i64 mf, .int .i64 z, .string mx, .slice va mls.length vc] 108 (0, 0))) := hide (by simp [World.setCell, Array.getElem?_modify, unhide HMd])
        have HKe : Hid (∀ b, B ≤ b → b < wb.heap.size → (wd.setCell ⟨wb.heap.size, 3, none⟩ (.int .i64 z)).heap[b]? = wb.heap[b]?) := hide (fun b h1 h2 => (heap_setCell_other wd ⟨wb.heap.size, 3, none⟩ b (.int .i64 z) (by show b ≠ wb.heap.size; omega)).trans (unhide HKd b h1 h2))
        have HWe := hide ((unhide HWb).from (unhide HKe))
        have HVe := hide (owns_from (unhide HVA).1 (unhide HKe))
        have HGe := hide ((unhide HGd).far (i := 3) (u := .int .i64 z) (show w.heap.size ≤ wb.heap.size by omega))
        have HCe := hide ((unhide HCd).below ((Below.refl _ _).setCell (p := ⟨wb.heap.size, 3, none⟩) (show K ≤ wb.heap.size by omega) (.int .i64 z)))
        clear HXd HMd HKd HGd HCd HKe f0 zz
        obtain ⟨We, hWe⟩ : ∃ We, We = wd.setCell ⟨wb.heap.size, 3, none⟩ (.int .i64 z) := ⟨_, rfl⟩
        rw [← hWe] at HXe HMe HWe HVe HGe HCe ⊢
        clear hWe
        have HSS : Hid (∀ W, Below We.heap.size We W → W.cell? ⟨tb, 1, none⟩ = some (.slice (some ⟨g, 0, none⟩) n cap2) ∧ W.cell? ⟨wb.heap.size, 0, none⟩ = some (.int .i64 mk) ∧ W.cell? ⟨wb.heap.size, 1, none⟩ = some (.int .i64 mt) ∧ W.cell? ⟨wb.heap.size, 2, none⟩ = some (.int .i64 mf) ∧ W.cell? ⟨wb.heap.size, 3, none⟩ = some (.int .i64 z) ∧ W.cell? ⟨wb.heap.size, 4, none⟩ = some (.string mx) ∧ W.cell? ⟨wb.heap.size, 5, none⟩ = some (.slice va mls.length vc)) := hide (fun W hb => ⟨cell_below hb (by rw [cell_of_row _ _ 1 _ _ _ (unhide HXe)]; rfl), cell_below hb (by rw [cell_of_row _ _ 0 _ _ _ (unhide HMe)]; rfl), cell_below hb (by rw [cell_of_row _ _ 1 _ _ _ (unhide HMe)]; rfl), cell_below hb (by rw [cell_of_row _ _ 2 _ _ _ (unhide HMe)]; rfl), cell_below hb (by rw [cell_of_row _ _ 3 _ _ _ (unhide HMe)]; rfl), cell_below hb (by rw [cell_of_row _ _ 4 _ _ _ (unhide HMe)]; rfl), cell_below hb (by rw [cell_of_row _ _ 5 _ _ _ (unhide HMe)]; rfl)⟩)
        refine wp_region_held_drew (S := fun W => W.cell? ⟨tb, 1, none⟩ = some (.slice (some ⟨g, 0, none⟩) n cap2) ∧ W.cell? ⟨wb.heap.size, 0, none⟩ = some (.int .i64 mk) ∧ W.cell? ⟨wb.heap.size, 1, none⟩ = some (.int .i64 mt) ∧ W.cell? ⟨wb.heap.size, 2, none⟩ = some (.int .i64 mf) ∧ W.cell? ⟨wb.heap.size, 3, none⟩ = some (.int .i64 z) ∧ W.cell? ⟨wb.heap.size, 4, none⟩ = some (.string mx) ∧ W.cell? ⟨wb.heap.size, 5, none⟩ = some (.slice va mls.length vc)) (by kernel_rfl) (unhide HSS _ (Below.refl _ _).drew) (fun hHeld => ?_)
        refine takeAt 0 (some 73) (v := ?v0z5x) (by decide) rfl (by kernel_rfl) (by kernel_rfl) (by kernel_rfl) (fun _ _ _ h => h) (by rfl) ?hy0z5x hHeld ?r0z5x
        case hy0z5x => (intro wx hSw; obtain ⟨s0, s1, s2, s3, s4, s5, s6⟩ := hSw; go_simp; with_reducible rfl)
        simp only [Act.put, List.setIfInBounds_toArray, List.set_cons_zero, List.set_cons_succ]
        refine takeAt 1 (some 74) (v := ?v1z5x) (by decide) rfl (by kernel_rfl) (by kernel_rfl) (by kernel_rfl) (fun _ _ _ h => h) (by rfl) ?hy1z5x hHeld ?r1z5x
        case hy1z5x => (intro wx hSw; obtain ⟨s0, s1, s2, s3, s4, s5, s6⟩ := hSw; go_simp; with_reducible rfl)
        simp only [Act.put, List.setIfInBounds_toArray, List.set_cons_zero, List.set_cons_succ]
        refine takeAt 2 (some 75) (v := ?v2z5x) (by decide) rfl (by kernel_rfl) (by kernel_rfl) (by kernel_rfl) (fun _ _ _ h => h) (by rfl) ?hy2z5x hHeld ?r2z5x
        case hy2z5x => (intro wx hSw; obtain ⟨s0, s1, s2, s3, s4, s5, s6⟩ := hSw; go_simp; with_reducible rfl)
        simp only [Act.put, List.setIfInBounds_toArray, List.set_cons_zero, List.set_cons_succ]
        refine takeAt 3 (some 76) (v := ?v3z5x) (by decide) rfl (by kernel_rfl) (by kernel_rfl) (by kernel_rfl) (fun _ _ _ h => h) (by rfl) ?hy3z5x hHeld ?r3z5x
        case hy3z5x => (intro wx hSw; obtain ⟨s0, s1, s2, s3, s4, s5, s6⟩ := hSw; go_simp; with_reducible rfl)
        simp only [Act.put, List.setIfInBounds_toArray, List.set_cons_zero, List.set_cons_succ]
        refine takeAt 4 (some 77) (v := ?v4z5x) (by decide) rfl (by kernel_rfl) (by kernel_rfl) (by kernel_rfl) (fun _ _ _ h => h) (by rfl) ?hy4z5x hHeld ?r4z5x
        case hy4z5x => (intro wx hSw; obtain ⟨s0, s1, s2, s3, s4, s5, s6⟩ := hSw; go_simp; with_reducible rfl)
        simp only [Act.put, List.setIfInBounds_toArray, List.set_cons_zero, List.set_cons_succ]
        refine takeAt 5 (some 78) (v := ?v5z5x) (by decide) rfl (by kernel_rfl) (by kernel_rfl) (by kernel_rfl) (fun _ _ _ h => h) (by rfl) ?hy5z5x hHeld ?r5z5x
        case hy5z5x => (intro wx hSw; obtain ⟨s0, s1, s2, s3, s4, s5, s6⟩ := hSw; go_simp; with_reducible rfl)
        simp only [Act.put, List.setIfInBounds_toArray, List.set_cons_zero, List.set_cons_succ]
        refine takeAt 6 (some 79) (v := ?v6z5x) (by decide) rfl (by kernel_rfl) (by kernel_rfl) (by kernel_rfl) (fun _ _ _ h => h) (by rfl) ?hy6z5x hHeld ?r6z5x
        case hy6z5x => (intro wx hSw; obtain ⟨s0, s1, s2, s3, s4, s5, s6⟩ := hSw; go_simp; with_reducible rfl)
        simp only [Act.put, List.setIfInBounds_toArray, List.set_cons_zero, List.set_cons_succ]
        refine wpAnyH_ready (rs := [7]) (by kernel_rfl) (by simp) ?_
        refine AllReadyH.cons rfl (fun KK hK => ?_) AllReadyH.nil
        obtain ⟨d0, d1, d2, d3, d4, d5⟩ := momCells_get ms i hil
        have hro := (unhide HWe).mom.row
        rw [← unhide HN] at hro
        obtain ⟨u0, k0⟩ : ∃ u, We.cell? ⟨g, i * 6, none⟩ = some u := ⟨_, (owns_cell hro _ _ d0).1⟩
        have l0 := (owns_cell hro _ _ d0).2
        obtain ⟨u1, k1⟩ : ∃ u, We.cell? ⟨g, i * 6 + 1, none⟩ = some u := ⟨_, (owns_cell hro _ _ d1).1⟩
        have l1 := (owns_cell hro _ _ d1).2
        obtain ⟨u2, k2⟩ : ∃ u, We.cell? ⟨g, i * 6 + 2, none⟩ = some u := ⟨_, (owns_cell hro _ _ d2).1⟩
        have l2 := (owns_cell hro _ _ d2).2
        obtain ⟨u3, k3⟩ : ∃ u, We.cell? ⟨g, i * 6 + 3, none⟩ = some u := ⟨_, (owns_cell hro _ _ d3).1⟩
        have l3 := (owns_cell hro _ _ d3).2
        obtain ⟨u4, k4⟩ : ∃ u, We.cell? ⟨g, i * 6 + 4, none⟩ = some u := ⟨_, (owns_cell hro _ _ d4).1⟩
        have l4 := (owns_cell hro _ _ d4).2
        obtain ⟨u5, k5⟩ : ∃ u, We.cell? ⟨g, i * 6 + 5, none⟩ = some u := ⟨_, (owns_cell hro _ _ d5).1⟩
        have l5 := (owns_cell hro _ _ d5).2
        clear d0 d1 d2 d3 d4 d5 hro
        go_simp
        have hXp := (putMom_other We g i (⟨mk, mt, mf, z, mx, .slice va mls.length vc, mls⟩ : Mo) tb (unhide HTG)).trans (unhide HXe)
        have hMp := (putMom_other We g i (⟨mk, mt, mf, z, mx, .slice va mls.length vc, mls⟩ : Mo) wb.heap.size (unhide HGG)).trans (unhide HMe)
        have hdr := (Below.refl (putMom We g i (⟨mk, mt, mf, z, mx, .slice va mls.length vc, mls⟩ : Mo)).heap.size (putMom We g i (⟨mk, mt, mf, z, mx, .slice va mls.length vc, mls⟩ : Mo))).drew
        refine hK.out _ _ ⟨cell_below hdr (by rw [cell_of_row _ _ 1 _ _ _ hXp]; rfl), cell_below hdr (by rw [cell_of_row _ _ 0 _ _ _ hMp]; rfl), cell_below hdr (by rw [cell_of_row _ _ 1 _ _ _ hMp]; rfl), cell_below hdr (by rw [cell_of_row _ _ 2 _ _ _ hMp]; rfl), cell_below hdr (by rw [cell_of_row _ _ 3 _ _ _ hMp]; rfl), cell_below hdr (by rw [cell_of_row _ _ 4 _ _ _ hMp]; rfl), cell_below hdr (by rw [cell_of_row _ _ 5 _ _ _ hMp]; rfl)⟩ (fun hHeld => ?_)
        clear hK KK hHeld k0 k1 k2 k3 k4 k5 l0 l1 l2 l3 l4 l5
        try simp only [Act.put, List.setIfInBounds_toArray, List.getElem_toArray, List.getElem_cons_succ, List.getElem_cons_zero, List.set_cons_zero, List.set_cons_succ]
        refine wpAnyH_done (by kernel_rfl) ?_ _
        have hsW : K ≤ We.heap.size := by have := heap_lt (unhide HMe); omega
        have hsP : We.heap.size ≤ (putMom We g i (⟨mk, mt, mf, z, mx, .slice va mls.length vc, mls⟩ : Mo)).heap.size := (putMom_chg (D := fun _ => True) We g i _ trivial).size
        go_wp2
        go_end0
        exact ⟨rfl, (spoil_end (x := (⟨mk, mt, mf, z, mx, .slice va mls.length vc, mls⟩ : Mo)) (unhide HWe) (unhide HGe) (unhide HCe) (unhide HAT) (unhide HXe) hnf (unhide HN).symm hin hKB ⟨unhide HVe, (unhide HVA).2⟩).on hdr (Nat.le_trans hsW hsP)⟩
      · have f0 : wc.frozen? ⟨wb.heap.size, 5, none⟩ = false := by simp [World.frozen?, unhide HMc]
        have zz : wc.cell? ⟨wb.heap.size, 5, none⟩ = some (.slice va mls.length vc) := by rw [cell_of_row _ _ 5 _ _ _ (unhide HMc)]; rfl
        have hlt5 : wb.heap.size < wc.heap.size := by omega
        have hma := ((below_new wc (.cells #[.string ⟨#[]⟩, .string ⟨#[120]⟩] 40)).block wb.heap.size hlt5).trans (unhide HMc)
        have fz' : (wc.alloc (.cells #[.string ⟨#[]⟩, .string ⟨#[120]⟩] 40)).frozen? ⟨wb.heap.size, 5, none⟩ = false := by simp [World.frozen?, hma]
        have zz' := cell_below (below_new wc (.cells #[.string ⟨#[]⟩, .string ⟨#[120]⟩] 40)) zz
        clear hma
        go_upto_region 17 with fail
        have htw : tb ≠ wb.heap.size := by have := unhide HTL; omega
        have hss : (wc.setCell ⟨wb.heap.size, 5, none⟩ (.slice (some ⟨wc.heap.size, 0, none⟩) 1 1)).heap.size = wc.heap.size := by simp [World.setCell]
        have hba := below_new (wc.setCell ⟨wb.heap.size, 5, none⟩ (.slice (some ⟨wc.heap.size, 0, none⟩) 1 1)) (.cells #[.string ⟨#[]⟩, .string ⟨#[120]⟩] 40)
        have hnw := heap_alloc_new (wc.setCell ⟨wb.heap.size, 5, none⟩ (.slice (some ⟨wc.heap.size, 0, none⟩) 1 1)) (.cells #[.string ⟨#[]⟩, .string ⟨#[120]⟩] 40)
        rw [hss] at hba hnw
        have HXe := hide ((hba.block tb (heap_lt (unhide HXc))).trans ((heap_setCell_other wc ⟨wb.heap.size, 5, none⟩ tb (.slice (some ⟨wc.heap.size, 0, none⟩) 1 1) htw).trans (unhide HXc)))
        have HMe : Hid (((wc.setCell ⟨wb.heap.size, 5, none⟩ (.slice (some ⟨wc.heap.size, 0, none⟩) 1 1)).alloc (.cells #[.string ⟨#[]⟩, .string ⟨#[120]⟩] 40)).heap[wb.heap.size]? = some (.cells #[.int .i64 mk, .int .i64 mt, .int .i64 mf, .int .i64 ml, .string mx, .slice (some ⟨wc.heap.size, 0, none⟩) 1 1] 108 (0, 0))) := hide ((hba.block wb.heap.size (by omega)).trans (by simp [World.setCell, Array.getElem?_modify, unhide HMc]))
        have HKe : Hid (∀ b, B ≤ b → b < wb.heap.size → ((wc.setCell ⟨wb.heap.size, 5, none⟩ (.slice (some ⟨wc.heap.size, 0, none⟩) 1 1)).alloc (.cells #[.string ⟨#[]⟩, .string ⟨#[120]⟩] 40)).heap[b]? = wb.heap[b]?) := hide (fun b h1 h2 => (hba.block b (by omega)).trans ((heap_setCell_other wc ⟨wb.heap.size, 5, none⟩ b (.slice (some ⟨wc.heap.size, 0, none⟩) 1 1) (by show b ≠ wb.heap.size; omega)).trans (unhide HKc b h1 h2)))
        have HWe := hide ((unhide HWb).from (unhide HKe))
        have HVe : Hid (((wc.setCell ⟨wb.heap.size, 5, none⟩ (.slice (some ⟨wc.heap.size, 0, none⟩) 1 1)).alloc (.cells #[.string ⟨#[]⟩, .string ⟨#[120]⟩] 40)).ownsRow B 40 2 (.slice (some ⟨wc.heap.size, 0, none⟩) 1 1) ([⟨⟨#[]⟩, ⟨#[120]⟩⟩] : List V).length (varCells [⟨⟨#[]⟩, ⟨#[120]⟩⟩])) := hide ⟨rfl, .inr ⟨wc.heap.size, 1, _, rfl, by omega, hnw, Nat.le_refl _, by unfold maxLen; omega, rfl, rfl⟩⟩
        have HGe := hide (((unhide HGc).far (i := 5) (u := .slice (some ⟨wc.heap.size, 0, none⟩) 1 1) (show w.heap.size ≤ wb.heap.size by omega)).trans (Chg.of_below (below_new (wc.setCell ⟨wb.heap.size, 5, none⟩ (.slice (some ⟨wc.heap.size, 0, none⟩) 1 1)) (.cells #[.string ⟨#[]⟩, .string ⟨#[120]⟩] 40))))
        have HCe := hide (((unhide HCc).below ((Below.refl _ _).setCell (p := ⟨wb.heap.size, 5, none⟩) (show K ≤ wb.heap.size by omega) (.slice (some ⟨wc.heap.size, 0, none⟩) 1 1))).below ((below_new (wc.setCell ⟨wb.heap.size, 5, none⟩ (.slice (some ⟨wc.heap.size, 0, none⟩) 1 1)) (.cells #[.string ⟨#[]⟩, .string ⟨#[120]⟩] 40)).mono (by rw [hss]; omega)))
        have HAT := hide (show cc.at_ ≤ c.at_ + 10 by omega)
        clear HXc HMc HKc HGc HCc HKe f0 zz fz' zz' hba hnw hss
        obtain ⟨We, hWe⟩ : ∃ We, We = ((wc.setCell ⟨wb.heap.size, 5, none⟩ (.slice (some ⟨wc.heap.size, 0, none⟩) 1 1)).alloc (.cells #[.string ⟨#[]⟩, .string ⟨#[120]⟩] 40)) := ⟨_, rfl⟩
        rw [← hWe] at HXe HMe HWe HVe HGe HCe ⊢
        clear hWe
        have HSS : Hid (∀ W, Below We.heap.size We W → W.cell? ⟨tb, 1, none⟩ = some (.slice (some ⟨g, 0, none⟩) n cap2) ∧ W.cell? ⟨wb.heap.size, 0, none⟩ = some (.int .i64 mk) ∧ W.cell? ⟨wb.heap.size, 1, none⟩ = some (.int .i64 mt) ∧ W.cell? ⟨wb.heap.size, 2, none⟩ = some (.int .i64 mf) ∧ W.cell? ⟨wb.heap.size, 3, none⟩ = some (.int .i64 ml) ∧ W.cell? ⟨wb.heap.size, 4, none⟩ = some (.string mx) ∧ W.cell? ⟨wb.heap.size, 5, none⟩ = some (.slice (some ⟨wc.heap.size, 0, none⟩) 1 1)) := hide (fun W hb => ⟨cell_below hb (by rw [cell_of_row _ _ 1 _ _ _ (unhide HXe)]; rfl), cell_below hb (by rw [cell_of_row _ _ 0 _ _ _ (unhide HMe)]; rfl), cell_below hb (by rw [cell_of_row _ _ 1 _ _ _ (unhide HMe)]; rfl), cell_below hb (by rw [cell_of_row _ _ 2 _ _ _ (unhide HMe)]; rfl), cell_below hb (by rw [cell_of_row _ _ 3 _ _ _ (unhide HMe)]; rfl), cell_below hb (by rw [cell_of_row _ _ 4 _ _ _ (unhide HMe)]; rfl), cell_below hb (by rw [cell_of_row _ _ 5 _ _ _ (unhide HMe)]; rfl)⟩)
        refine wp_region_held_drew (S := fun W => W.cell? ⟨tb, 1, none⟩ = some (.slice (some ⟨g, 0, none⟩) n cap2) ∧ W.cell? ⟨wb.heap.size, 0, none⟩ = some (.int .i64 mk) ∧ W.cell? ⟨wb.heap.size, 1, none⟩ = some (.int .i64 mt) ∧ W.cell? ⟨wb.heap.size, 2, none⟩ = some (.int .i64 mf) ∧ W.cell? ⟨wb.heap.size, 3, none⟩ = some (.int .i64 ml) ∧ W.cell? ⟨wb.heap.size, 4, none⟩ = some (.string mx) ∧ W.cell? ⟨wb.heap.size, 5, none⟩ = some (.slice (some ⟨wc.heap.size, 0, none⟩) 1 1)) (by kernel_rfl) (unhide HSS _ (Below.refl _ _).drew) (fun hHeld => ?_)
        refine takeAt 0 (some 73) (v := ?v0z6x) (by decide) rfl (by kernel_rfl) (by kernel_rfl) (by kernel_rfl) (fun _ _ _ h => h) (by rfl) ?hy0z6x hHeld ?r0z6x
        case hy0z6x => (intro wx hSw; obtain ⟨s0, s1, s2, s3, s4, s5, s6⟩ := hSw; go_simp; with_reducible rfl)
        simp only [Act.put, List.setIfInBounds_toArray, List.set_cons_zero, List.set_cons_succ]
        refine takeAt 1 (some 74) (v := ?v1z6x) (by decide) rfl (by kernel_rfl) (by kernel_rfl) (by kernel_rfl) (fun _ _ _ h => h) (by rfl) ?hy1z6x hHeld ?r1z6x
        case hy1z6x => (intro wx hSw; obtain ⟨s0, s1, s2, s3, s4, s5, s6⟩ := hSw; go_simp; with_reducible rfl)
        simp only [Act.put, List.setIfInBounds_toArray, List.set_cons_zero, List.set_cons_succ]
        refine takeAt 2 (some 75) (v := ?v2z6x) (by decide) rfl (by kernel_rfl) (by kernel_rfl) (by kernel_rfl) (fun _ _ _ h => h) (by rfl) ?hy2z6x hHeld ?r2z6x
        case hy2z6x => (intro wx hSw; obtain ⟨s0, s1, s2, s3, s4, s5, s6⟩ := hSw; go_simp; with_reducible rfl)
        simp only [Act.put, List.setIfInBounds_toArray, List.set_cons_zero, List.set_cons_succ]
        refine takeAt 3 (some 76) (v := ?v3z6x) (by decide) rfl (by kernel_rfl) (by kernel_rfl) (by kernel_rfl) (fun _ _ _ h => h) (by rfl) ?hy3z6x hHeld ?r3z6x
        case hy3z6x => (intro wx hSw; obtain ⟨s0, s1, s2, s3, s4, s5, s6⟩ := hSw; go_simp; with_reducible rfl)
        simp only [Act.put, List.setIfInBounds_toArray, List.set_cons_zero, List.set_cons_succ]
        refine takeAt 4 (some 77) (v := ?v4z6x) (by decide) rfl (by kernel_rfl) (by kernel_rfl) (by kernel_rfl) (fun _ _ _ h => h) (by rfl) ?hy4z6x hHeld ?r4z6x
        case hy4z6x => (intro wx hSw; obtain ⟨s0, s1, s2, s3, s4, s5, s6⟩ := hSw; go_simp; with_reducible rfl)
        simp only [Act.put, List.setIfInBounds_toArray, List.set_cons_zero, List.set_cons_succ]
        refine takeAt 5 (some 78) (v := ?v5z6x) (by decide) rfl (by kernel_rfl) (by kernel_rfl) (by kernel_rfl) (fun _ _ _ h => h) (by rfl) ?hy5z6x hHeld ?r5z6x
        case hy5z6x => (intro wx hSw; obtain ⟨s0, s1, s2, s3, s4, s5, s6⟩ := hSw; go_simp; with_reducible rfl)
        simp only [Act.put, List.setIfInBounds_toArray, List.set_cons_zero, List.set_cons_succ]
        refine takeAt 6 (some 79) (v := ?v6z6x) (by decide) rfl (by kernel_rfl) (by kernel_rfl) (by kernel_rfl) (fun _ _ _ h => h) (by rfl) ?hy6z6x hHeld ?r6z6x
        case hy6z6x => (intro wx hSw; obtain ⟨s0, s1, s2, s3, s4, s5, s6⟩ := hSw; go_simp; with_reducible rfl)
        simp only [Act.put, List.setIfInBounds_toArray, List.set_cons_zero, List.set_cons_succ]
        refine wpAnyH_ready (rs := [7]) (by kernel_rfl) (by simp) ?_
        refine AllReadyH.cons rfl (fun KK hK => ?_) AllReadyH.nil
        obtain ⟨d0, d1, d2, d3, d4, d5⟩ := momCells_get ms i hil
        have hro := (unhide HWe).mom.row
        rw [← unhide HN] at hro
        obtain ⟨u0, k0⟩ : ∃ u, We.cell? ⟨g, i * 6, none⟩ = some u := ⟨_, (owns_cell hro _ _ d0).1⟩
        have l0 := (owns_cell hro _ _ d0).2
        obtain ⟨u1, k1⟩ : ∃ u, We.cell? ⟨g, i * 6 + 1, none⟩ = some u := ⟨_, (owns_cell hro _ _ d1).1⟩
        have l1 := (owns_cell hro _ _ d1).2
        obtain ⟨u2, k2⟩ : ∃ u, We.cell? ⟨g, i * 6 + 2, none⟩ = some u := ⟨_, (owns_cell hro _ _ d2).1⟩
        have l2 := (owns_cell hro _ _ d2).2
        obtain ⟨u3, k3⟩ : ∃ u, We.cell? ⟨g, i * 6 + 3, none⟩ = some u := ⟨_, (owns_cell hro _ _ d3).1⟩
        have l3 := (owns_cell hro _ _ d3).2
        obtain ⟨u4, k4⟩ : ∃ u, We.cell? ⟨g, i * 6 + 4, none⟩ = some u := ⟨_, (owns_cell hro _ _ d4).1⟩
        have l4 := (owns_cell hro _ _ d4).2
        obtain ⟨u5, k5⟩ : ∃ u, We.cell? ⟨g, i * 6 + 5, none⟩ = some u := ⟨_, (owns_cell hro _ _ d5).1⟩
        have l5 := (owns_cell hro _ _ d5).2
        clear d0 d1 d2 d3 d4 d5 hro
        go_simp
        have hXp := (putMom_other We g i (⟨mk, mt, mf, ml, mx, .slice (some ⟨wc.heap.size, 0, none⟩) 1 1, [⟨⟨#[]⟩, ⟨#[120]⟩⟩]⟩ : Mo) tb (unhide HTG)).trans (unhide HXe)
        have hMp := (putMom_other We g i (⟨mk, mt, mf, ml, mx, .slice (some ⟨wc.heap.size, 0, none⟩) 1 1, [⟨⟨#[]⟩, ⟨#[120]⟩⟩]⟩ : Mo) wb.heap.size (unhide HGG)).trans (unhide HMe)
        have hdr := (Below.refl (putMom We g i (⟨mk, mt, mf, ml, mx, .slice (some ⟨wc.heap.size, 0, none⟩) 1 1, [⟨⟨#[]⟩, ⟨#[120]⟩⟩]⟩ : Mo)).heap.size (putMom We g i (⟨mk, mt, mf, ml, mx, .slice (some ⟨wc.heap.size, 0, none⟩) 1 1, [⟨⟨#[]⟩, ⟨#[120]⟩⟩]⟩ : Mo))).drew
        refine hK.out _ _ ⟨cell_below hdr (by rw [cell_of_row _ _ 1 _ _ _ hXp]; rfl), cell_below hdr (by rw [cell_of_row _ _ 0 _ _ _ hMp]; rfl), cell_below hdr (by rw [cell_of_row _ _ 1 _ _ _ hMp]; rfl), cell_below hdr (by rw [cell_of_row _ _ 2 _ _ _ hMp]; rfl), cell_below hdr (by rw [cell_of_row _ _ 3 _ _ _ hMp]; rfl), cell_below hdr (by rw [cell_of_row _ _ 4 _ _ _ hMp]; rfl), cell_below hdr (by rw [cell_of_row _ _ 5 _ _ _ hMp]; rfl)⟩ (fun hHeld => ?_)
        clear hK KK hHeld k0 k1 k2 k3 k4 k5 l0 l1 l2 l3 l4 l5
        try simp only [Act.put, List.setIfInBounds_toArray, List.getElem_toArray, List.getElem_cons_succ, List.getElem_cons_zero, List.set_cons_zero, List.set_cons_succ]
        refine wpAnyH_done (by kernel_rfl) ?_ _
        have hsW : K ≤ We.heap.size := by have := heap_lt (unhide HMe); omega
        have hsP : We.heap.size ≤ (putMom We g i (⟨mk, mt, mf, ml, mx, .slice (some ⟨wc.heap.size, 0, none⟩) 1 1, [⟨⟨#[]⟩, ⟨#[120]⟩⟩]⟩ : Mo)).heap.size := (putMom_chg (D := fun _ => True) We g i _ trivial).size
        go_wp2
        go_end0
        exact ⟨rfl, (spoil_end (x := (⟨mk, mt, mf, ml, mx, .slice (some ⟨wc.heap.size, 0, none⟩) 1 1, [⟨⟨#[]⟩, ⟨#[120]⟩⟩]⟩ : Mo)) (unhide HWe) (unhide HGe) (unhide HCe) (unhide HAT) (unhide HXe) hnf (unhide HN).symm hin hKB ⟨unhide HVe, by show 1 ≤ 3; omega, (unhide HVA).2.2.1, by intro y hy; rw [List.mem_singleton.1 hy]; decide⟩).on hdr (Nat.le_trans hsW hsP)⟩
      · go_wp2_with fail
        refine (pick_w K pc len cc 2 _ (unhide HCc) (by omega) (by omega)).mono ?_
        rintro e wd ⟨⟨y, cd, rfl, hy, hcd, hcur⟩, hb⟩
        have HXd := hide ((hb.block tb (heap_lt (unhide HXc)) (.inr (by omega))).trans (unhide HXc))
        have HMd := hide ((hb.block wb.heap.size (heap_lt (unhide HMc)) (.inr (by omega))).trans (unhide HMc))
        have HKd : Hid (∀ b, B ≤ b → b < wb.heap.size → wd.heap[b]? = wb.heap[b]?) := hide (fun b h1 h2 => (hb.block b (by omega) (.inr (by omega))).trans (unhide HKc b h1 h2))
        have HGd := hide ((unhide HGc).trans (Chg.of_betw hb (.inl rfl)))
        have HCd := hide hcur
        have HAT := hide (show cd.at_ ≤ c.at_ + 10 by omega)
        have hsd : wc.heap.size ≤ wd.heap.size := hb.size
        clear hcur hb HXc HMc HGc HCc HKc
        obtain ⟨z, hz⟩ : ∃ z : Int, z = 100000 + (y : Int) := ⟨_, rfl⟩
        have wz : IntKind.i64.wrap (100000 + (y : Int)) = z := by rw [IntKind.wrap_i64]; omega
        clear hz
        have f0 : wd.frozen? ⟨wb.heap.size, 3, none⟩ = false := by simp [World.frozen?, unhide HMd]
        have zz : wd.cell? ⟨wb.heap.size, 3, none⟩ = some (.int .i64 ml) := by rw [cell_of_row _ _ 3 _ _ _ (unhide HMd)]; rfl
        go_upto_region 17 with fail
        have htw : tb ≠ wb.heap.size := by have := unhide HTL; omega
        have HXe := hide ((heap_setCell_other wd ⟨wb.heap.size, 3, none⟩ tb (.int .i64 z) htw).trans (unhide HXd))
        have HMe : Hid ((wd.setCell ⟨wb.heap.size, 3, none⟩ (.int .i64 z)).heap[wb.heap.size]? = some (.cells #[.int .i64 mk, .int .i64 mt, .int .i64 mf, .int .i64 z, .string mx, .slice va mls.length vc] 108 (0, 0))) := hide (by simp [World.setCell, Array.getElem?_modify, unhide HMd])
        have HKe : Hid (∀ b, B ≤ b → b < wb.heap.size → (wd.setCell ⟨wb.heap.size, 3, none⟩ (.int .i64 z)).heap[b]? = wb.heap[b]?) := hide (fun b h1 h2 => (heap_setCell_other wd ⟨wb.heap.size, 3, none⟩ b (.int .i64 z) (by show b ≠ wb.heap.size; omega)).trans (unhide HKd b h1 h2))
        have HWe := hide ((unhide HWb).from (unhide HKe))
        have HVe := hide (owns_from (unhide HVA).1 (unhide HKe))
        have HGe := hide ((unhide HGd).far (i := 3) (u := .int .i64 z) (show w.heap.size ≤ wb.heap.size by omega))
        have HCe := hide ((unhide HCd).below ((Below.refl _ _).setCell (p := ⟨wb.heap.size, 3, none⟩) (show K ≤ wb.heap.size by omega) (.int .i64 z)))
        clear HXd HMd HKd HGd HCd HKe f0 zz
        obtain ⟨We, hWe⟩ : ∃ We, We = wd.setCell ⟨wb.heap.size, 3, none⟩ (.int .i64 z) := ⟨_, rfl⟩
        rw [← hWe] at HXe HMe HWe HVe HGe HCe ⊢
        clear hWe
        have HSS : Hid (∀ W, Below We.heap.size We W → W.cell? ⟨tb, 1, none⟩ = some (.slice (some ⟨g, 0, none⟩) n cap2) ∧ W.cell? ⟨wb.heap.size, 0, none⟩ = some (.int .i64 mk) ∧ W.cell? ⟨wb.heap.size, 1, none⟩ = some (.int .i64 mt) ∧ W.cell? ⟨wb.heap.size, 2, none⟩ = some (.int .i64 mf) ∧ W.cell? ⟨wb.heap.size, 3, none⟩ = some (.int .i64 z) ∧ W.cell? ⟨wb.heap.size, 4, none⟩ = some (.string mx) ∧ W.cell? ⟨wb.heap.size, 5, none⟩ = some (.slice va mls.length vc)) := hide (fun W hb => ⟨cell_below hb (by rw [cell_of_row _ _ 1 _ _ _ (unhide HXe)]; rfl), cell_below hb (by rw [cell_of_row _ _ 0 _ _ _ (unhide HMe)]; rfl), cell_below hb (by rw [cell_of_row _ _ 1 _ _ _ (unhide HMe)]; rfl), cell_below hb (by rw [cell_of_row _ _ 2 _ _ _ (unhide HMe)]; rfl), cell_below hb (by rw [cell_of_row _ _ 3 _ _ _ (unhide HMe)]; rfl), cell_below hb (by rw [cell_of_row _ _ 4 _ _ _ (unhide HMe)]; rfl), cell_below hb (by rw [cell_of_row _ _ 5 _ _ _ (unhide HMe)]; rfl)⟩)
        refine wp_region_held_drew (S := fun W => W.cell? ⟨tb, 1, none⟩ = some (.slice (some ⟨g, 0, none⟩) n cap2) ∧ W.cell? ⟨wb.heap.size, 0, none⟩ = some (.int .i64 mk) ∧ W.cell? ⟨wb.heap.size, 1, none⟩ = some (.int .i64 mt) ∧ W.cell? ⟨wb.heap.size, 2, none⟩ = some (.int .i64 mf) ∧ W.cell? ⟨wb.heap.size, 3, none⟩ = some (.int .i64 z) ∧ W.cell? ⟨wb.heap.size, 4, none⟩ = some (.string mx) ∧ W.cell? ⟨wb.heap.size, 5, none⟩ = some (.slice va mls.length vc)) (by kernel_rfl) (unhide HSS _ (Below.refl _ _).drew) (fun hHeld => ?_)
        refine takeAt 0 (some 73) (v := ?v0z7x) (by decide) rfl (by kernel_rfl) (by kernel_rfl) (by kernel_rfl) (fun _ _ _ h => h) (by rfl) ?hy0z7x hHeld ?r0z7x
        case hy0z7x => (intro wx hSw; obtain ⟨s0, s1, s2, s3, s4, s5, s6⟩ := hSw; go_simp; with_reducible rfl)
        simp only [Act.put, List.setIfInBounds_toArray, List.set_cons_zero, List.set_cons_succ]
        refine takeAt 1 (some 74) (v := ?v1z7x) (by decide) rfl (by kernel_rfl) (by kernel_rfl) (by kernel_rfl) (fun _ _ _ h => h) (by rfl) ?hy1z7x hHeld ?r1z7x
        case hy1z7x => (intro wx hSw; obtain ⟨s0, s1, s2, s3, s4, s5, s6⟩ := hSw; go_simp; with_reducible rfl)
        simp only [Act.put, List.setIfInBounds_toArray, List.set_cons_zero, List.set_cons_succ]
        refine takeAt 2 (some 75) (v := ?v2z7x) (by decide) rfl (by kernel_rfl) (by kernel_rfl) (by kernel_rfl) (fun _ _ _ h => h) (by rfl) ?hy2z7x hHeld ?r2z7x
        case hy2z7x => (intro wx hSw; obtain ⟨s0, s1, s2, s3, s4, s5, s6⟩ := hSw; go_simp; with_reducible rfl)
        simp only [Act.put, List.setIfInBounds_toArray, List.set_cons_zero, List.set_cons_succ]
        refine takeAt 3 (some 76) (v := ?v3z7x) (by decide) rfl (by kernel_rfl) (by kernel_rfl) (by kernel_rfl) (fun _ _ _ h => h) (by rfl) ?hy3z7x hHeld ?r3z7x
        case hy3z7x => (intro wx hSw; obtain ⟨s0, s1, s2, s3, s4, s5, s6⟩ := hSw; go_simp; with_reducible rfl)
        simp only [Act.put, List.setIfInBounds_toArray, List.set_cons_zero, List.set_cons_succ]
        refine takeAt 4 (some 77) (v := ?v4z7x) (by decide) rfl (by kernel_rfl) (by kernel_rfl) (by kernel_rfl) (fun _ _ _ h => h) (by rfl) ?hy4z7x hHeld ?r4z7x
        case hy4z7x => (intro wx hSw; obtain ⟨s0, s1, s2, s3, s4, s5, s6⟩ := hSw; go_simp; with_reducible rfl)
        simp only [Act.put, List.setIfInBounds_toArray, List.set_cons_zero, List.set_cons_succ]
        refine takeAt 5 (some 78) (v := ?v5z7x) (by decide) rfl (by kernel_rfl) (by kernel_rfl) (by kernel_rfl) (fun _ _ _ h => h) (by rfl) ?hy5z7x hHeld ?r5z7x
        case hy5z7x => (intro wx hSw; obtain ⟨s0, s1, s2, s3, s4, s5, s6⟩ := hSw; go_simp; with_reducible rfl)
        simp only [Act.put, List.setIfInBounds_toArray, List.set_cons_zero, List.set_cons_succ]
        refine takeAt 6 (some 79) (v := ?v6z7x) (by decide) rfl (by kernel_rfl) (by kernel_rfl) (by kernel_rfl) (fun _ _ _ h => h) (by rfl) ?hy6z7x hHeld ?r6z7x
        case hy6z7x => (intro wx hSw; obtain ⟨s0, s1, s2, s3, s4, s5, s6⟩ := hSw; go_simp; with_reducible rfl)
        simp only [Act.put, List.setIfInBounds_toArray, List.set_cons_zero, List.set_cons_succ]
        refine wpAnyH_ready (rs := [7]) (by kernel_rfl) (by simp) ?_
        refine AllReadyH.cons rfl (fun KK hK => ?_) AllReadyH.nil
        obtain ⟨d0, d1, d2, d3, d4, d5⟩ := momCells_get ms i hil
        have hro := (unhide HWe).mom.row
        rw [← unhide HN] at hro
        obtain ⟨u0, k0⟩ : ∃ u, We.cell? ⟨g, i * 6, none⟩ = some u := ⟨_, (owns_cell hro _ _ d0).1⟩
        have l0 := (owns_cell hro _ _ d0).2
        obtain ⟨u1, k1⟩ : ∃ u, We.cell? ⟨g, i * 6 + 1, none⟩ = some u := ⟨_, (owns_cell hro _ _ d1).1⟩
        have l1 := (owns_cell hro _ _ d1).2
        obtain ⟨u2, k2⟩ : ∃ u, We.cell? ⟨g, i * 6 + 2, none⟩ = some u := ⟨_, (owns_cell hro _ _ d2).1⟩
        have l2 := (owns_cell hro _ _ d2).2
        obtain ⟨u3, k3⟩ : ∃ u, We.cell? ⟨g, i * 6 + 3, none⟩ = some u := ⟨_, (owns_cell hro _ _ d3).1⟩
        have l3 := (owns_cell hro _ _ d3).2
        obtain ⟨u4, k4⟩ : ∃ u, We.cell? ⟨g, i * 6 + 4, none⟩ = some u := ⟨_, (owns_cell hro _ _ d4).1⟩
        have l4 := (owns_cell hro _ _ d4).2
        obtain ⟨u5, k5⟩ : ∃ u, We.cell? ⟨g, i * 6 + 5, none⟩ = some u := ⟨_, (owns_cell hro _ _ d5).1⟩
        have l5 := (owns_cell hro _ _ d5).2
        clear d0 d1 d2 d3 d4 d5 hro
        go_simp
        have hXp := (putMom_other We g i (⟨mk, mt, mf, z, mx, .slice va mls.length vc, mls⟩ : Mo) tb (unhide HTG)).trans (unhide HXe)
        have hMp := (putMom_other We g i (⟨mk, mt, mf, z, mx, .slice va mls.length vc, mls⟩ : Mo) wb.heap.size (unhide HGG)).trans (unhide HMe)
        have hdr := (Below.refl (putMom We g i (⟨mk, mt, mf, z, mx, .slice va mls.length vc, mls⟩ : Mo)).heap.size (putMom We g i (⟨mk, mt, mf, z, mx, .slice va mls.length vc, mls⟩ : Mo))).drew
        refine hK.out _ _ ⟨cell_below hdr (by rw [cell_of_row _ _ 1 _ _ _ hXp]; rfl), cell_below hdr (by rw [cell_of_row _ _ 0 _ _ _ hMp]; rfl), cell_below hdr (by rw [cell_of_row _ _ 1 _ _ _ hMp]; rfl), cell_below hdr (by rw [cell_of_row _ _ 2 _ _ _ hMp]; rfl), cell_below hdr (by rw [cell_of_row _ _ 3 _ _ _ hMp]; rfl), cell_below hdr (by rw [cell_of_row _ _ 4 _ _ _ hMp]; rfl), cell_below hdr (by rw [cell_of_row _ _ 5 _ _ _ hMp]; rfl)⟩ (fun hHeld => ?_)
        clear hK KK hHeld k0 k1 k2 k3 k4 k5 l0 l1 l2 l3 l4 l5
        try simp only [Act.put, List.setIfInBounds_toArray, List.getElem_toArray, List.getElem_cons_succ, List.getElem_cons_zero, List.set_cons_zero, List.set_cons_succ]
        refine wpAnyH_done (by kernel_rfl) ?_ _
        have hsW : K ≤ We.heap.size := by have := heap_lt (unhide HMe); omega
        have hsP : We.heap.size ≤ (putMom We g i (⟨mk, mt, mf, z, mx, .slice va mls.length vc, mls⟩ : Mo)).heap.size := (putMom_chg (D := fun _ => True) We g i _ trivial).size
        go_wp2
        go_end0
        exact ⟨rfl, (spoil_end (x := (⟨mk, mt, mf, z, mx, .slice va mls.length vc, mls⟩ : Mo)) (unhide HWe) (unhide HGe) (unhide HCe) (unhide HAT) (unhide HXe) hnf (unhide HN).symm hin hKB ⟨unhide HVe, (unhide HVA).2⟩).on hdr (Nat.le_trans hsW hsP)⟩
end Go.Proofs.YtmnmeaeicjhkhaaGreatDoor
