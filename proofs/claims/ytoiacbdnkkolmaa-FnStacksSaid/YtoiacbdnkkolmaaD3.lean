import Derived.Test.YtoiacbdnkkolmaaD2
import Derived.Deep.RegionLaw
namespace Go.Proofs.Ytoiacbdnkkolmaa
open Go.RowKit

attribute [local go_sem ↓] Go.wp_at_zero Go.wp_at_succ

def varCells (l : List V) : List Value := l.flatMap fun v => [.string v.name, .string v.text]

theorem varCells_app (a b : List V) : varCells (a ++ b) = varCells a ++ varCells b := List.flatMap_append ..

/-- A slice of variables of the drawing's own. -/
def OwnV (B : Nat) (w : World) (v : Value) (l : List V) : Prop := w.ownsRow B 64 2 v l.length (varCells l) ∧ ∀ x, x ∈ l → x.name.size = 1 ∧ x.text.size = 1

theorem Betw.onw {lo hi : Nat} {a w w' : World} (h : Betw lo hi a w) (hb : Below a.heap.size w w') : Betw lo hi a w' := by
  refine ⟨hb.os.trans h.os, hb.tape.trans h.tape, hb.output.trans h.output, Nat.le_trans h.size hb.size, fun b hb' hr => (hb.block b hb').trans (h.block b hb' hr), fun p hp => (hb.frozen hp).trans (h.fz p hp), fun p u hu e => ?_, fun p u hu e => ?_⟩
  · obtain ⟨u', h1, e1⟩ := h.pl p u hu e
    exact ⟨u', by rw [hb.cell (cell_lt hu)]; exact h1, e1⟩
  · rw [hb.cell (cell_lt hu)]; exact h.fix p u hu e

theorem owns_betw {lo hi B : Nat} {w w' : World} {e : TypeId} {z : Nat} {v : Value} {n : Nat} {xs : List Value} (h : w.ownsRow B e z v n xs) (hb : Betw lo hi w w') (hB : hi ≤ B) : w'.ownsRow B e z v n xs := by
  obtain ⟨h1, h2⟩ := h
  refine ⟨h1, ?_⟩
  rcases h2 with h2 | ⟨g, cap, cur, hv, hg, hh, r⟩
  · exact .inl h2
  · exact .inr ⟨g, cap, cur, hv, hg, by rw [hb.block g (Array.getElem?_eq_some_iff.1 hh).1 (.inr (by omega))]; exact hh, r⟩

theorem Betw.cell {lo hi : Nat} {w w' : World} (h : Betw lo hi w w') {b o : Nat} {u : Value} (hb : hi ≤ b) (hc : w.cell? ⟨b, o, none⟩ = some u) : w'.cell? ⟨b, o, none⟩ = some u := by
  have hl : b < w.heap.size := cell_lt hc
  rw [World.cell?_of_block (h.block b hl (.inr hb))]; exact hc

theorem wrap_u8' (n : Int) : IntKind.u8.wrap n = n % 256 := by simp [IntKind.wrap, IntKind.bits, IntKind.signed]

theorem conv_one (W : World) (b : Nat) (d : Int) (h : W.cell? ⟨b, 0, none⟩ = some (.int .u8 d)) : Sem.run Try.prog (convert 22 9 (.slice (some ⟨b, 0, none⟩) 1 1)) W = .ok (.string (strOfNums [d])) W := by
  refine run_convert_bytes_arg (P := Try.prog) (w := W) 22 5 Try.underlying22 Try.underlying5 b 0 1 1 [d] rfl (fun i hi => ?_) 9 Try.underlying9
  have e : i = 0 := by omega
  subst e
  exact h

/-- What is held may be made more on the way. -/
theorem wpAnyH_more {P : Program} {md : Region.Mode} {ops : Array Oper} {Q : Exit → Act → World → Prop} {S S' : World → Prop} (hs : ∀ w, S' w → S w) : ∀ (fuel : Nat) (listed : Array Bool) (a : Act) (w : World), wpAnyH P md ops Q S' fuel listed a w → wpAnyH P md ops Q S fuel listed a w
  | 0, _, _, _, h => h
  | fuel + 1, _, _, _, h => ⟨h.1, fun i hi => wpOp_mono (fun a' w' h' => ⟨hs w' h'.1, wpAnyH_more hs fuel _ a' w' h'.2⟩) (h.2 i hi)⟩

set_option maxRecDepth 100000 in
set_option maxHeartbeats 4000000 in
theorem vars_any (K pc len : Nat) (c : Cu) (w : World) (h : Cur K w pc len c) (hK : K ≤ w.heap.size) (hat : c.at_ < 4611686018427387800) :
    Calls Try.prog 89 #[.pointer (some ⟨pc, 0, none⟩)] w fun e w' => (∃ v l c', e = .returned v ∧ l.length ≤ 3 ∧ OwnV w.heap.size w' v l ∧ Draws len (1 + 2 * l.length) c c' ∧ Cur K w' pc len c') ∧ Betw pc (pc + 1) w w' := by
  have H := hide h
  clear h
  obtain ⟨i0, hi0, hz0, hz1, hz2⟩ := info_parts info_Var
  have II := hide (And.intro hi0 (And.intro hz0 (And.intro hz1 hz2))); clear hi0 hz0 hz1 hz2
  go_enter Try.func89, Try.ntmps89
  go_wp2_with fail
  refine (pick_any K pc len c 4 _ (unhide H) (by omega) (by omega) (by omega)).mono ?_
  rintro e w0 ⟨⟨x, c0, rfl, hd, hc⟩, hb⟩
  obtain ⟨n, hn⟩ : ∃ n, n = x % 4 := ⟨_, rfl⟩
  have hn3 : n ≤ 3 := by omega
  rw [← hn]
  have HD := hide ((Draws.refl len c).next hd)
  have HC := hide hc
  have HB := hide hb
  clear hd hc hb hn
  go_wp2
  go_loopw [3, 4] (fun o i wr => ∃ (l : List V) (c1 : Cu) (a : Option Addr) (oc m : Nat), l.length + m = n ∧ i = .int .i64 (m : Int) ∧ o = .slice a l.length oc ∧ OwnV w.heap.size wr o l ∧ Draws len (1 + 2 * l.length) c c1 ∧ Cur K wr pc len c1 ∧ Betw pc (pc + 1) w wr) (fun _ i _ => (intOf i).toNat)
  case atStart => exact ⟨[], c0, none, 0, n, by simp, rfl, rfl, ⟨World.ownsRow_nil _ _ _ _, by simp⟩, unhide HD, unhide HC, unhide HB⟩
  case round =>
    obtain ⟨l, c1, oa, oc, m, hl, rfl, rfl, ho, hd, hc, hb⟩ := hrel
    have HO := hide ho
    have HD1 := hide hd
    have HC1 := hide hc
    have HB1 := hide hb
    have hat1 : c1.at_ < 4611686018427387900 := by rw [hd.at1]; omega
    have hs1 : w.heap.size ≤ wr.heap.size := hb.size
    have hpk : pc < K := hc.hk
    clear ho hd hc hb HD HC HB
    obtain ⟨ln, hln⟩ : ∃ ln, ln = l.length := ⟨_, rfl⟩
    rw [← hln] at hl
    rw [← hln]
    have HLN := hide hln
    clear hln
    have hln3 : ln ≤ 3 := by omega
    by_cases hlt : 0 < m
    · have hi1 : (0 : Int) < (m : Int) := by omega
      go_wp2_with fail
      refine wp_region_held_drew (S := fun _ => True) (by kernel_rfl) trivial (fun hHeld => ?_)
      refine takeAt 0 (some 11) (v := ?v0z) (by decide) rfl (by kernel_rfl) (by kernel_rfl) (by kernel_rfl) (fun _ _ _ h => h) (by rfl) ?hy0z hHeld ?r0z
      case hy0z => (intro wx hSw; go_simp; with_reducible rfl)
      simp only [Act.put, List.setIfInBounds_toArray, List.set_cons_zero, List.set_cons_succ]
      refine takeAt 1 (some 12) (v := ?v1z) (by decide) rfl (by kernel_rfl) (by kernel_rfl) (by kernel_rfl) (fun _ _ _ h => h) (by rfl) ?hy1z hHeld ?r1z
      case hy1z => (intro wx hSw; go_simp; with_reducible rfl)
      simp only [Act.put, List.setIfInBounds_toArray, List.set_cons_zero, List.set_cons_succ]
      refine takeAt 7 (some 18) (v := ?v7z) (by decide) rfl (by kernel_rfl) (by kernel_rfl) (by kernel_rfl) (fun _ _ _ h => h) (by rfl) ?hy7z hHeld ?r7z
      case hy7z => (intro wx hSw; go_simp; with_reducible rfl)
      simp only [Act.put, List.setIfInBounds_toArray, List.set_cons_zero, List.set_cons_succ]
      refine wpAnyH_ready (rs := [2]) (by kernel_rfl) (by simp) ?_
      refine AllReadyH.cons rfl (fun KK hK => ?_) AllReadyH.nil
      go_simp
      refine (pick_any K pc len c1 3 _ ((unhide HC1).below (Below.refl _ _).drew) (by omega) (by omega) (by omega)).mono ?_
      rintro e wa ⟨⟨xa, ca, rfl, hda, hca⟩, hba⟩
      obtain ⟨ra, hra⟩ : ∃ ra, ra = xa % 3 := ⟨_, rfl⟩
      rw [← hra]
      have hra3 : (ra : Int) < 3 := by omega
      have HDA := hide hda.at1
      have HDD := hide ((unhide HD1).next hda)
      have HCA := hide hca
      have HBA := hide ((Betw.of_below pc (pc + 1) (Below.refl wr.heap.size wr).drew).trans hba)
      have hsa : wr.heap.size ≤ wa.heap.size := by simpa using hba.size
      clear hda hca hba hra
      have wr1 : IntKind.i64.wrap (97 + (ra : Int)) = 97 + ra := by rw [IntKind.wrap_i64]; omega
      have wu1 : IntKind.u8.wrap (97 + (ra : Int)) = 97 + ra := by rw [wrap_u8']; omega
      refine hK.out _ _ trivial (fun hHeld => ?_)
      clear hK KK
      try simp only [Act.put, List.setIfInBounds_toArray, List.getElem_toArray, List.getElem_cons_succ, List.getElem_cons_zero, List.set_cons_zero, List.set_cons_succ]
      refine takeAt 3 (some 14) (v := ?v3z) (by decide) rfl (by kernel_rfl) (by kernel_rfl) (by kernel_rfl) (fun _ _ _ h => h) (by rfl) ?hy3z hHeld ?r3z
      case hy3z => (intro wx hSw; go_simp; with_reducible rfl)
      simp only [Act.put, List.setIfInBounds_toArray, List.set_cons_zero, List.set_cons_succ]
      refine takeAt 4 (some 15) (v := ?v4z) (by decide) rfl (by kernel_rfl) (by kernel_rfl) (by kernel_rfl) (fun _ _ _ h => h) (by rfl) ?hy4z hHeld ?r4z
      case hy4z => (intro wx hSw; go_simp; with_reducible rfl)
      simp only [Act.put, List.setIfInBounds_toArray, List.set_cons_zero, List.set_cons_succ]
      have NB : Hid (∀ b, wr.heap.size ≤ b → (Value.slice oa ln oc).ownBlock ≠ some b) := hide (fun b hb e => by have := ((unhide HO).1.lt b (by rw [← unhide HLN]; exact e)).2; omega)
      refine wpAnyH_ready (rs := [5, 8]) (by kernel_rfl) (by simp) ?_
      refine AllReadyH.cons rfl (fun KK hK => ?_) (AllReadyH.cons rfl (fun KK hK => ?_) AllReadyH.nil)
      · go_simp
        have BL1 := hide (below_new wa (.cells #[.int .u8 (97 + (ra : Int))] 5))
        refine hK.out _ _ trivial (fun hHeld => ?_)
        clear hK KK
        try simp only [Act.put, List.setIfInBounds_toArray, List.getElem_toArray, List.getElem_cons_succ, List.getElem_cons_zero, List.set_cons_zero, List.set_cons_succ]
        refine wpAnyH_more (S' := fun W => W.cell? ⟨wa.heap.size, 0, none⟩ = some (.int .u8 (97 + (ra : Int)))) (fun _ _ => trivial) _ _ _ _ ?_
        replace hHeld : (wa.alloc (.cells #[.int .u8 (97 + (ra : Int))] 5)).cell? ⟨wa.heap.size, 0, none⟩ = some (.int .u8 (97 + (ra : Int))) := by rw [cell_alloc_at _ _ _ _ _ rfl]; rfl
        refine takeAt 6 (some 17) (v := ?v6a) (by decide) rfl (by kernel_rfl) (by kernel_rfl) (by kernel_rfl) (fun _ _ _ h => h) (by rfl) ?hy6a hHeld ?r6a
        case hy6a => (intro wx hSw; have ec := conv_one wx _ _ hSw; go_simp; with_reducible rfl)
        simp only [Act.put, List.setIfInBounds_toArray, List.set_cons_zero, List.set_cons_succ]
        refine wpAnyH_ready (rs := [8]) (by kernel_rfl) (by simp) ?_
        refine AllReadyH.cons rfl (fun KK hK => ?_) AllReadyH.nil
        have HC2 := hide ((unhide HCA).below ((unhide BL1).mono (by omega)))
        go_simp
        refine (pick_any K pc len ca 3 _ (unhide HC2) (by rw [unhide HDA]; omega) (by omega) (by omega)).mono ?_
        rintro e wb ⟨⟨xb, cb, rfl, hdb, hcb⟩, hbb⟩
        obtain ⟨rb, hrb⟩ : ∃ rb, rb = xb % 3 := ⟨_, rfl⟩
        rw [← hrb]
        have hrb3 : (rb : Int) < 3 := by omega
        have HDB := hide hdb
        have HCB := hide hcb
        have HBB := hide hbb
        clear hdb hcb hbb hrb
        have wr2 : IntKind.i64.wrap (48 + (rb : Int)) = 48 + rb := by rw [IntKind.wrap_i64]; omega
        have wu2 : IntKind.u8.wrap (48 + (rb : Int)) = 48 + rb := by rw [wrap_u8']; omega
        have HB2 := hide ((unhide HBA).trans ((Betw.of_below pc (pc + 1) (unhide BL1)).trans (unhide HBB)))
        have hsb : wa.heap.size + 1 ≤ wb.heap.size := by simpa using (unhide HBB).size
        refine hK.out _ _ ((unhide HBB).cell (by omega) hHeld) (fun hHeld => ?_)
        clear hK KK
        try simp only [Act.put, List.setIfInBounds_toArray, List.getElem_toArray, List.getElem_cons_succ, List.getElem_cons_zero, List.set_cons_zero, List.set_cons_succ]
        refine takeAt 9 (some 20) (v := ?v9a) (by decide) rfl (by kernel_rfl) (by kernel_rfl) (by kernel_rfl) (fun _ _ _ h => h) (by rfl) ?hy9a hHeld ?r9a
        case hy9a => (intro wx hSw; go_simp; with_reducible rfl)
        simp only [Act.put, List.setIfInBounds_toArray, List.set_cons_zero, List.set_cons_succ]
        refine takeAt 10 (some 21) (v := ?v10a) (by decide) rfl (by kernel_rfl) (by kernel_rfl) (by kernel_rfl) (fun _ _ _ h => h) (by rfl) ?hy10a hHeld ?r10a
        case hy10a => (intro wx hSw; go_simp; with_reducible rfl)
        simp only [Act.put, List.setIfInBounds_toArray, List.set_cons_zero, List.set_cons_succ]
        refine wpAnyH_ready (rs := [11]) (by kernel_rfl) (by simp) ?_
        refine AllReadyH.cons rfl (fun KK hK => ?_) AllReadyH.nil
        go_simp
        have BL2 := hide (below_new wb (.cells #[.int .u8 (48 + (rb : Int))] 5))
        refine hK.out _ _ (cell_below (unhide BL2) hHeld) (fun hHeld => ?_)
        clear hK KK
        try simp only [Act.put, List.setIfInBounds_toArray, List.getElem_toArray, List.getElem_cons_succ, List.getElem_cons_zero, List.set_cons_zero, List.set_cons_succ]
        refine wpAnyH_more (S' := fun W => W.cell? ⟨wa.heap.size, 0, none⟩ = some (.int .u8 (97 + (ra : Int))) ∧ W.cell? ⟨wb.heap.size, 0, none⟩ = some (.int .u8 (48 + (rb : Int)))) (fun _ h => h.1) _ _ _ _ ?_
        replace hHeld : (wb.alloc (.cells #[.int .u8 (48 + (rb : Int))] 5)).cell? ⟨wa.heap.size, 0, none⟩ = some (.int .u8 (97 + (ra : Int))) ∧ (wb.alloc (.cells #[.int .u8 (48 + (rb : Int))] 5)).cell? ⟨wb.heap.size, 0, none⟩ = some (.int .u8 (48 + (rb : Int))) := ⟨hHeld, by rw [cell_alloc_at _ _ _ _ _ rfl]; rfl⟩
        refine takeAt 12 (some 23) (v := ?v12a) (by decide) rfl (by kernel_rfl) (by kernel_rfl) (by kernel_rfl) (fun _ _ _ h => h) (by rfl) ?hy12a hHeld ?r12a
        case hy12a => (intro wx hSw; have ec := conv_one wx _ _ hSw.2; go_simp; with_reducible rfl)
        simp only [Act.put, List.setIfInBounds_toArray, List.set_cons_zero, List.set_cons_succ]
        have HCW := hide ((unhide HCB).below ((unhide BL2).mono (by omega)))
        have HBW := hide ((unhide HB2).trans (Betw.of_below pc (pc + 1) (unhide BL2)))
        refine takeAt 13 (some 24) (v := ?v13a) (by decide) rfl (by kernel_rfl) (by kernel_rfl) (by kernel_rfl) (fun _ _ _ h => h) (by rfl) ?hy13a hHeld ?r13a
        case hy13a => (intro wx hSw; go_simp; with_reducible rfl)
        simp only [Act.put, List.setIfInBounds_toArray, List.set_cons_zero, List.set_cons_succ]
        refine wpAnyH_ready (rs := [14]) (by kernel_rfl) (by simp) ?_
        refine AllReadyH.cons rfl (fun KK hK => ?_) AllReadyH.nil
        go_simp
        have BL := hide (below_new (wb.alloc (.cells #[.int .u8 (48 + (rb : Int))] 5)) (.cells #[.string (strOfNums [97 + (ra : Int)]), .string (strOfNums [48 + (rb : Int)])] 64))
        refine hK.out _ _ ⟨cell_below (unhide BL) hHeld.1, cell_below (unhide BL) hHeld.2⟩ (fun hHeld => ?_)
        clear hK KK
        try simp only [Act.put, List.setIfInBounds_toArray, List.getElem_toArray, List.getElem_cons_succ, List.getElem_cons_zero, List.set_cons_zero, List.set_cons_succ]
        refine wpAnyH_ready (rs := [15]) (by kernel_rfl) (by simp) ?_
        refine AllReadyH.cons rfl (fun KK hK => ?_) AllReadyH.nil
        have HOW := hide (owns_below (owns_betw (unhide HO).1 (unhide HBW) (by omega)) (unhide BL))
        have hszW : wr.heap.size ≤ (wb.alloc (.cells #[.int .u8 (48 + (rb : Int))] 5)).heap.size := (unhide HBW).size
        refine step_append_lies _ (by rfl) _ _ _ (by rfl) w.heap.size 64 i0 _ 2 32 Try.underlying28 (unhide II).1 (unhide II).2.1 (unhide II).2.2.1 (unhide II).2.2.2 rfl (by omega) (.slice oa ln oc) ln (varCells l) (by rfl) (by rw [unhide HLN]; exact unhide HOW)
          ⟨wb.heap.size + 1, 0, none⟩ 1 1 [.string (strOfNums [97 + (ra : Int)]), .string (strOfNums [48 + (rb : Int)])] (by rfl) (by rfl) (World.news_of_block (cs := #[.string (strOfNums [97 + (ra : Int)]), .string (strOfNums [48 + (rb : Int)])]) (t := 64) (fr := (0, 0)) (by have := heap_alloc_new (wb.alloc (.cells #[.int .u8 (48 + (rb : Int))] 5)) (.cells #[.string (strOfNums [97 + (ra : Int)]), .string (strOfNums [48 + (rb : Int)])] 64); simpa using this)) (by simp [Value.oneCell'])
          (by omega) (by unfold maxLen; omega) (by omega) (by simp; omega) ((wb.alloc (.cells #[.int .u8 (48 + (rb : Int))] 5)).heap.size + 1) (by simp) ?_
        intro g cap' w7 hown1 hgrow _ _
        have HBG : Hid (Below w.heap.size (wb.alloc (.cells #[.int .u8 (48 + (rb : Int))] 5)) w7) := hide (Below.grown ((unhide BL).mono (by omega)) hgrow (by simp; omega) (fun k hk => ((unhide HO).1.lt k (by rw [← unhide HLN]; exact hk)).1))
        have HW := hide hown1
        have hx1 := (hgrow.cell_far ⟨wa.heap.size, 0, none⟩ (by simp <;> omega) (Ne.symm (unhide NB (wa.heap.size) (by omega)))).trans hHeld.1
        have hx2 := (hgrow.cell_far ⟨wb.heap.size, 0, none⟩ (by simp <;> omega) (Ne.symm (unhide NB (wb.heap.size) (by omega)))).trans hHeld.2
        refine hK.out _ _ ⟨hx1, hx2⟩ (fun hHeld => ?_)
        clear hK KK
        try simp only [Act.put, List.setIfInBounds_toArray, List.getElem_toArray, List.getElem_cons_succ, List.getElem_cons_zero, List.set_cons_zero, List.set_cons_succ]
        refine takeAt 16 (some 3) (v := ?v16a) (by decide) rfl (by kernel_rfl) (by kernel_rfl) (by kernel_rfl) (fun _ _ _ h => h) (by rfl) ?hy16a hHeld ?r16a
        case hy16a => (intro wx hSw; go_simp; with_reducible rfl)
        simp only [Act.put, List.setIfInBounds_toArray, List.set_cons_zero, List.set_cons_succ]
        refine wpAnyH_done (by kernel_rfl) ?_ _
        have HCG := hide ((unhide HCW).below ((unhide HBG).mono hK))
        have HBB2 := hide (((unhide HB1).trans (unhide HBW)).onw (unhide HBG))
        clear hown1 hgrow hx1 hx2 hHeld
        go_wp2
        go_roundw
        case rel =>
          refine ⟨l ++ [⟨strOfNums [97 + (ra : Int)], strOfNums [48 + (rb : Int)]⟩], cb, some ⟨g, 0, none⟩, cap', m - 1, ?_, ?_, ?_, ⟨?_, ?_⟩, ?_, unhide HCG, unhide HBB2⟩
          · rw [List.length_append, ← unhide HLN, List.length_singleton]; omega
          · congr 1; omega
          · rw [List.length_append, ← unhide HLN, List.length_singleton]
          · rw [List.length_append, ← unhide HLN, List.length_singleton, varCells_app]; exact unhide HW
          · intro x hx
            rcases List.mem_append.1 hx with hx | hx
            · exact (unhide HO).2 x hx
            · rw [List.mem_singleton.1 hx]; exact ⟨strOfNums_size _, strOfNums_size _⟩
          · rw [List.length_append, List.length_singleton, show 1 + 2 * (l.length + 1) = 1 + 2 * l.length + 1 + 1 by omega]; exact (unhide HDD).next (unhide HDB)
        case measure => simp [intOf]; omega
      · have HC2 := HCA
        go_simp
        refine (pick_any K pc len ca 3 _ (unhide HC2) (by rw [unhide HDA]; omega) (by omega) (by omega)).mono ?_
        rintro e wb ⟨⟨xb, cb, rfl, hdb, hcb⟩, hbb⟩
        obtain ⟨rb, hrb⟩ : ∃ rb, rb = xb % 3 := ⟨_, rfl⟩
        rw [← hrb]
        have hrb3 : (rb : Int) < 3 := by omega
        have HDB := hide hdb
        have HCB := hide hcb
        have HBB := hide hbb
        clear hdb hcb hbb hrb
        have wr2 : IntKind.i64.wrap (48 + (rb : Int)) = 48 + rb := by rw [IntKind.wrap_i64]; omega
        have wu2 : IntKind.u8.wrap (48 + (rb : Int)) = 48 + rb := by rw [wrap_u8']; omega
        have HB2 := hide ((unhide HBA).trans (unhide HBB))
        have hsb : wa.heap.size ≤ wb.heap.size := (unhide HBB).size
        refine hK.out _ _ trivial (fun hHeld => ?_)
        clear hK KK
        try simp only [Act.put, List.setIfInBounds_toArray, List.getElem_toArray, List.getElem_cons_succ, List.getElem_cons_zero, List.set_cons_zero, List.set_cons_succ]
        refine takeAt 9 (some 20) (v := ?v9b) (by decide) rfl (by kernel_rfl) (by kernel_rfl) (by kernel_rfl) (fun _ _ _ h => h) (by rfl) ?hy9b hHeld ?r9b
        case hy9b => (intro wx hSw; go_simp; with_reducible rfl)
        simp only [Act.put, List.setIfInBounds_toArray, List.set_cons_zero, List.set_cons_succ]
        refine takeAt 10 (some 21) (v := ?v10b) (by decide) rfl (by kernel_rfl) (by kernel_rfl) (by kernel_rfl) (fun _ _ _ h => h) (by rfl) ?hy10b hHeld ?r10b
        case hy10b => (intro wx hSw; go_simp; with_reducible rfl)
        simp only [Act.put, List.setIfInBounds_toArray, List.set_cons_zero, List.set_cons_succ]
        refine wpAnyH_ready (rs := [5, 11]) (by kernel_rfl) (by simp) ?_
        refine AllReadyH.cons rfl (fun KK hK => ?_) (AllReadyH.cons rfl (fun KK hK => ?_) AllReadyH.nil)
        · go_simp
          have BL1 := hide (below_new wb (.cells #[.int .u8 (97 + (ra : Int))] 5))
          refine hK.out _ _ trivial (fun hHeld => ?_)
          clear hK KK
          try simp only [Act.put, List.setIfInBounds_toArray, List.getElem_toArray, List.getElem_cons_succ, List.getElem_cons_zero, List.set_cons_zero, List.set_cons_succ]
          refine wpAnyH_more (S' := fun W => W.cell? ⟨wb.heap.size, 0, none⟩ = some (.int .u8 (97 + (ra : Int)))) (fun _ _ => trivial) _ _ _ _ ?_
          replace hHeld : (wb.alloc (.cells #[.int .u8 (97 + (ra : Int))] 5)).cell? ⟨wb.heap.size, 0, none⟩ = some (.int .u8 (97 + (ra : Int))) := by rw [cell_alloc_at _ _ _ _ _ rfl]; rfl
          refine takeAt 6 (some 17) (v := ?v6c) (by decide) rfl (by kernel_rfl) (by kernel_rfl) (by kernel_rfl) (fun _ _ _ h => h) (by rfl) ?hy6c hHeld ?r6c
          case hy6c => (intro wx hSw; have ec := conv_one wx _ _ hSw; go_simp; with_reducible rfl)
          simp only [Act.put, List.setIfInBounds_toArray, List.set_cons_zero, List.set_cons_succ]
          refine wpAnyH_ready (rs := [11]) (by kernel_rfl) (by simp) ?_
          refine AllReadyH.cons rfl (fun KK hK => ?_) AllReadyH.nil
          go_simp
          have BL2 := hide (below_new (wb.alloc (.cells #[.int .u8 (97 + (ra : Int))] 5)) (.cells #[.int .u8 (48 + (rb : Int))] 5))
          refine hK.out _ _ (cell_below (unhide BL2) hHeld) (fun hHeld => ?_)
          clear hK KK
          try simp only [Act.put, List.setIfInBounds_toArray, List.getElem_toArray, List.getElem_cons_succ, List.getElem_cons_zero, List.set_cons_zero, List.set_cons_succ]
          refine wpAnyH_more (S' := fun W => W.cell? ⟨wb.heap.size, 0, none⟩ = some (.int .u8 (97 + (ra : Int))) ∧ W.cell? ⟨wb.heap.size + 1, 0, none⟩ = some (.int .u8 (48 + (rb : Int)))) (fun _ h => h.1) _ _ _ _ ?_
          replace hHeld : ((wb.alloc (.cells #[.int .u8 (97 + (ra : Int))] 5)).alloc (.cells #[.int .u8 (48 + (rb : Int))] 5)).cell? ⟨wb.heap.size, 0, none⟩ = some (.int .u8 (97 + (ra : Int))) ∧ ((wb.alloc (.cells #[.int .u8 (97 + (ra : Int))] 5)).alloc (.cells #[.int .u8 (48 + (rb : Int))] 5)).cell? ⟨wb.heap.size + 1, 0, none⟩ = some (.int .u8 (48 + (rb : Int))) := ⟨hHeld, by rw [cell_alloc_at _ _ _ _ _ (by simp)]; rfl⟩
          refine takeAt 12 (some 23) (v := ?v12c) (by decide) rfl (by kernel_rfl) (by kernel_rfl) (by kernel_rfl) (fun _ _ _ h => h) (by rfl) ?hy12c hHeld ?r12c
          case hy12c => (intro wx hSw; have ec := conv_one wx _ _ hSw.2; go_simp; with_reducible rfl)
          simp only [Act.put, List.setIfInBounds_toArray, List.set_cons_zero, List.set_cons_succ]
          have HCW := hide (((unhide HCB).below ((unhide BL1).mono (by omega))).below ((unhide BL2).mono (by simp; omega)))
          have HBW := hide ((unhide HB2).trans ((Betw.of_below pc (pc + 1) (unhide BL1)).trans (Betw.of_below pc (pc + 1) (unhide BL2))))
          refine takeAt 13 (some 24) (v := ?v13c) (by decide) rfl (by kernel_rfl) (by kernel_rfl) (by kernel_rfl) (fun _ _ _ h => h) (by rfl) ?hy13c hHeld ?r13c
          case hy13c => (intro wx hSw; go_simp; with_reducible rfl)
          simp only [Act.put, List.setIfInBounds_toArray, List.set_cons_zero, List.set_cons_succ]
          refine wpAnyH_ready (rs := [14]) (by kernel_rfl) (by simp) ?_
          refine AllReadyH.cons rfl (fun KK hK => ?_) AllReadyH.nil
          go_simp
          have BL := hide (below_new ((wb.alloc (.cells #[.int .u8 (97 + (ra : Int))] 5)).alloc (.cells #[.int .u8 (48 + (rb : Int))] 5)) (.cells #[.string (strOfNums [97 + (ra : Int)]), .string (strOfNums [48 + (rb : Int)])] 64))
          refine hK.out _ _ ⟨cell_below (unhide BL) hHeld.1, cell_below (unhide BL) hHeld.2⟩ (fun hHeld => ?_)
          clear hK KK
          try simp only [Act.put, List.setIfInBounds_toArray, List.getElem_toArray, List.getElem_cons_succ, List.getElem_cons_zero, List.set_cons_zero, List.set_cons_succ]
          refine wpAnyH_ready (rs := [15]) (by kernel_rfl) (by simp) ?_
          refine AllReadyH.cons rfl (fun KK hK => ?_) AllReadyH.nil
          have HOW := hide (owns_below (owns_betw (unhide HO).1 (unhide HBW) (by omega)) (unhide BL))
          have hszW : wr.heap.size ≤ ((wb.alloc (.cells #[.int .u8 (97 + (ra : Int))] 5)).alloc (.cells #[.int .u8 (48 + (rb : Int))] 5)).heap.size := (unhide HBW).size
          refine step_append_lies _ (by rfl) _ _ _ (by rfl) w.heap.size 64 i0 _ 2 32 Try.underlying28 (unhide II).1 (unhide II).2.1 (unhide II).2.2.1 (unhide II).2.2.2 rfl (by omega) (.slice oa ln oc) ln (varCells l) (by rfl) (by rw [unhide HLN]; exact unhide HOW)
            ⟨wb.heap.size + 1 + 1, 0, none⟩ 1 1 [.string (strOfNums [97 + (ra : Int)]), .string (strOfNums [48 + (rb : Int)])] (by rfl) (by rfl) (World.news_of_block (cs := #[.string (strOfNums [97 + (ra : Int)]), .string (strOfNums [48 + (rb : Int)])]) (t := 64) (fr := (0, 0)) (by have := heap_alloc_new ((wb.alloc (.cells #[.int .u8 (97 + (ra : Int))] 5)).alloc (.cells #[.int .u8 (48 + (rb : Int))] 5)) (.cells #[.string (strOfNums [97 + (ra : Int)]), .string (strOfNums [48 + (rb : Int)])] 64); simpa using this)) (by simp [Value.oneCell'])
            (by omega) (by unfold maxLen; omega) (by omega) (by simp; omega) (((wb.alloc (.cells #[.int .u8 (97 + (ra : Int))] 5)).alloc (.cells #[.int .u8 (48 + (rb : Int))] 5)).heap.size + 1) (by simp) ?_
          intro g cap' w7 hown1 hgrow _ _
          have HBG : Hid (Below w.heap.size ((wb.alloc (.cells #[.int .u8 (97 + (ra : Int))] 5)).alloc (.cells #[.int .u8 (48 + (rb : Int))] 5)) w7) := hide (Below.grown ((unhide BL).mono (by omega)) hgrow (by simp; omega) (fun k hk => ((unhide HO).1.lt k (by rw [← unhide HLN]; exact hk)).1))
          have HW := hide hown1
          have hx1 := (hgrow.cell_far ⟨wb.heap.size, 0, none⟩ (by simp <;> omega) (Ne.symm (unhide NB (wb.heap.size) (by omega)))).trans hHeld.1
          have hx2 := (hgrow.cell_far ⟨wb.heap.size + 1, 0, none⟩ (by simp <;> omega) (Ne.symm (unhide NB (wb.heap.size + 1) (by omega)))).trans hHeld.2
          refine hK.out _ _ ⟨hx1, hx2⟩ (fun hHeld => ?_)
          clear hK KK
          try simp only [Act.put, List.setIfInBounds_toArray, List.getElem_toArray, List.getElem_cons_succ, List.getElem_cons_zero, List.set_cons_zero, List.set_cons_succ]
          refine takeAt 16 (some 3) (v := ?v16c) (by decide) rfl (by kernel_rfl) (by kernel_rfl) (by kernel_rfl) (fun _ _ _ h => h) (by rfl) ?hy16c hHeld ?r16c
          case hy16c => (intro wx hSw; go_simp; with_reducible rfl)
          simp only [Act.put, List.setIfInBounds_toArray, List.set_cons_zero, List.set_cons_succ]
          refine wpAnyH_done (by kernel_rfl) ?_ _
          have HCG := hide ((unhide HCW).below ((unhide HBG).mono hK))
          have HBB2 := hide (((unhide HB1).trans (unhide HBW)).onw (unhide HBG))
          clear hown1 hgrow hx1 hx2 hHeld
          go_wp2
          go_roundw
          case rel =>
            refine ⟨l ++ [⟨strOfNums [97 + (ra : Int)], strOfNums [48 + (rb : Int)]⟩], cb, some ⟨g, 0, none⟩, cap', m - 1, ?_, ?_, ?_, ⟨?_, ?_⟩, ?_, unhide HCG, unhide HBB2⟩
            · rw [List.length_append, ← unhide HLN, List.length_singleton]; omega
            · congr 1; omega
            · rw [List.length_append, ← unhide HLN, List.length_singleton]
            · rw [List.length_append, ← unhide HLN, List.length_singleton, varCells_app]; exact unhide HW
            · intro x hx
              rcases List.mem_append.1 hx with hx | hx
              · exact (unhide HO).2 x hx
              · rw [List.mem_singleton.1 hx]; exact ⟨strOfNums_size _, strOfNums_size _⟩
            · rw [List.length_append, List.length_singleton, show 1 + 2 * (l.length + 1) = 1 + 2 * l.length + 1 + 1 by omega]; exact (unhide HDD).next (unhide HDB)
          case measure => simp [intOf]; omega
        · go_simp
          have BL1 := hide (below_new wb (.cells #[.int .u8 (48 + (rb : Int))] 5))
          refine hK.out _ _ trivial (fun hHeld => ?_)
          clear hK KK
          try simp only [Act.put, List.setIfInBounds_toArray, List.getElem_toArray, List.getElem_cons_succ, List.getElem_cons_zero, List.set_cons_zero, List.set_cons_succ]
          refine wpAnyH_more (S' := fun W => W.cell? ⟨wb.heap.size, 0, none⟩ = some (.int .u8 (48 + (rb : Int)))) (fun _ _ => trivial) _ _ _ _ ?_
          replace hHeld : (wb.alloc (.cells #[.int .u8 (48 + (rb : Int))] 5)).cell? ⟨wb.heap.size, 0, none⟩ = some (.int .u8 (48 + (rb : Int))) := by rw [cell_alloc_at _ _ _ _ _ rfl]; rfl
          refine takeAt 12 (some 23) (v := ?v12d) (by decide) rfl (by kernel_rfl) (by kernel_rfl) (by kernel_rfl) (fun _ _ _ h => h) (by rfl) ?hy12d hHeld ?r12d
          case hy12d => (intro wx hSw; have ec := conv_one wx _ _ hSw; go_simp; with_reducible rfl)
          simp only [Act.put, List.setIfInBounds_toArray, List.set_cons_zero, List.set_cons_succ]
          refine wpAnyH_ready (rs := [5]) (by kernel_rfl) (by simp) ?_
          refine AllReadyH.cons rfl (fun KK hK => ?_) AllReadyH.nil
          go_simp
          have BL2 := hide (below_new (wb.alloc (.cells #[.int .u8 (48 + (rb : Int))] 5)) (.cells #[.int .u8 (97 + (ra : Int))] 5))
          refine hK.out _ _ (cell_below (unhide BL2) hHeld) (fun hHeld => ?_)
          clear hK KK
          try simp only [Act.put, List.setIfInBounds_toArray, List.getElem_toArray, List.getElem_cons_succ, List.getElem_cons_zero, List.set_cons_zero, List.set_cons_succ]
          refine wpAnyH_more (S' := fun W => W.cell? ⟨wb.heap.size, 0, none⟩ = some (.int .u8 (48 + (rb : Int))) ∧ W.cell? ⟨wb.heap.size + 1, 0, none⟩ = some (.int .u8 (97 + (ra : Int)))) (fun _ h => h.1) _ _ _ _ ?_
          replace hHeld : ((wb.alloc (.cells #[.int .u8 (48 + (rb : Int))] 5)).alloc (.cells #[.int .u8 (97 + (ra : Int))] 5)).cell? ⟨wb.heap.size, 0, none⟩ = some (.int .u8 (48 + (rb : Int))) ∧ ((wb.alloc (.cells #[.int .u8 (48 + (rb : Int))] 5)).alloc (.cells #[.int .u8 (97 + (ra : Int))] 5)).cell? ⟨wb.heap.size + 1, 0, none⟩ = some (.int .u8 (97 + (ra : Int))) := ⟨hHeld, by rw [cell_alloc_at _ _ _ _ _ (by simp)]; rfl⟩
          refine takeAt 6 (some 17) (v := ?v6d) (by decide) rfl (by kernel_rfl) (by kernel_rfl) (by kernel_rfl) (fun _ _ _ h => h) (by rfl) ?hy6d hHeld ?r6d
          case hy6d => (intro wx hSw; have ec := conv_one wx _ _ hSw.2; go_simp; with_reducible rfl)
          simp only [Act.put, List.setIfInBounds_toArray, List.set_cons_zero, List.set_cons_succ]
          have HCW := hide (((unhide HCB).below ((unhide BL1).mono (by omega))).below ((unhide BL2).mono (by simp; omega)))
          have HBW := hide ((unhide HB2).trans ((Betw.of_below pc (pc + 1) (unhide BL1)).trans (Betw.of_below pc (pc + 1) (unhide BL2))))
          refine takeAt 13 (some 24) (v := ?v13d) (by decide) rfl (by kernel_rfl) (by kernel_rfl) (by kernel_rfl) (fun _ _ _ h => h) (by rfl) ?hy13d hHeld ?r13d
          case hy13d => (intro wx hSw; go_simp; with_reducible rfl)
          simp only [Act.put, List.setIfInBounds_toArray, List.set_cons_zero, List.set_cons_succ]
          refine wpAnyH_ready (rs := [14]) (by kernel_rfl) (by simp) ?_
          refine AllReadyH.cons rfl (fun KK hK => ?_) AllReadyH.nil
          go_simp
          have BL := hide (below_new ((wb.alloc (.cells #[.int .u8 (48 + (rb : Int))] 5)).alloc (.cells #[.int .u8 (97 + (ra : Int))] 5)) (.cells #[.string (strOfNums [97 + (ra : Int)]), .string (strOfNums [48 + (rb : Int)])] 64))
          refine hK.out _ _ ⟨cell_below (unhide BL) hHeld.1, cell_below (unhide BL) hHeld.2⟩ (fun hHeld => ?_)
          clear hK KK
          try simp only [Act.put, List.setIfInBounds_toArray, List.getElem_toArray, List.getElem_cons_succ, List.getElem_cons_zero, List.set_cons_zero, List.set_cons_succ]
          refine wpAnyH_ready (rs := [15]) (by kernel_rfl) (by simp) ?_
          refine AllReadyH.cons rfl (fun KK hK => ?_) AllReadyH.nil
          have HOW := hide (owns_below (owns_betw (unhide HO).1 (unhide HBW) (by omega)) (unhide BL))
          have hszW : wr.heap.size ≤ ((wb.alloc (.cells #[.int .u8 (48 + (rb : Int))] 5)).alloc (.cells #[.int .u8 (97 + (ra : Int))] 5)).heap.size := (unhide HBW).size
          refine step_append_lies _ (by rfl) _ _ _ (by rfl) w.heap.size 64 i0 _ 2 32 Try.underlying28 (unhide II).1 (unhide II).2.1 (unhide II).2.2.1 (unhide II).2.2.2 rfl (by omega) (.slice oa ln oc) ln (varCells l) (by rfl) (by rw [unhide HLN]; exact unhide HOW)
            ⟨wb.heap.size + 1 + 1, 0, none⟩ 1 1 [.string (strOfNums [97 + (ra : Int)]), .string (strOfNums [48 + (rb : Int)])] (by rfl) (by rfl) (World.news_of_block (cs := #[.string (strOfNums [97 + (ra : Int)]), .string (strOfNums [48 + (rb : Int)])]) (t := 64) (fr := (0, 0)) (by have := heap_alloc_new ((wb.alloc (.cells #[.int .u8 (48 + (rb : Int))] 5)).alloc (.cells #[.int .u8 (97 + (ra : Int))] 5)) (.cells #[.string (strOfNums [97 + (ra : Int)]), .string (strOfNums [48 + (rb : Int)])] 64); simpa using this)) (by simp [Value.oneCell'])
            (by omega) (by unfold maxLen; omega) (by omega) (by simp; omega) (((wb.alloc (.cells #[.int .u8 (48 + (rb : Int))] 5)).alloc (.cells #[.int .u8 (97 + (ra : Int))] 5)).heap.size + 1) (by simp) ?_
          intro g cap' w7 hown1 hgrow _ _
          have HBG : Hid (Below w.heap.size ((wb.alloc (.cells #[.int .u8 (48 + (rb : Int))] 5)).alloc (.cells #[.int .u8 (97 + (ra : Int))] 5)) w7) := hide (Below.grown ((unhide BL).mono (by omega)) hgrow (by simp; omega) (fun k hk => ((unhide HO).1.lt k (by rw [← unhide HLN]; exact hk)).1))
          have HW := hide hown1
          have hx1 := (hgrow.cell_far ⟨wb.heap.size, 0, none⟩ (by simp <;> omega) (Ne.symm (unhide NB (wb.heap.size) (by omega)))).trans hHeld.1
          have hx2 := (hgrow.cell_far ⟨wb.heap.size + 1, 0, none⟩ (by simp <;> omega) (Ne.symm (unhide NB (wb.heap.size + 1) (by omega)))).trans hHeld.2
          refine hK.out _ _ ⟨hx1, hx2⟩ (fun hHeld => ?_)
          clear hK KK
          try simp only [Act.put, List.setIfInBounds_toArray, List.getElem_toArray, List.getElem_cons_succ, List.getElem_cons_zero, List.set_cons_zero, List.set_cons_succ]
          refine takeAt 16 (some 3) (v := ?v16d) (by decide) rfl (by kernel_rfl) (by kernel_rfl) (by kernel_rfl) (fun _ _ _ h => h) (by rfl) ?hy16d hHeld ?r16d
          case hy16d => (intro wx hSw; go_simp; with_reducible rfl)
          simp only [Act.put, List.setIfInBounds_toArray, List.set_cons_zero, List.set_cons_succ]
          refine wpAnyH_done (by kernel_rfl) ?_ _
          have HCG := hide ((unhide HCW).below ((unhide HBG).mono hK))
          have HBB2 := hide (((unhide HB1).trans (unhide HBW)).onw (unhide HBG))
          clear hown1 hgrow hx1 hx2 hHeld
          go_wp2
          go_roundw
          case rel =>
            refine ⟨l ++ [⟨strOfNums [97 + (ra : Int)], strOfNums [48 + (rb : Int)]⟩], cb, some ⟨g, 0, none⟩, cap', m - 1, ?_, ?_, ?_, ⟨?_, ?_⟩, ?_, unhide HCG, unhide HBB2⟩
            · rw [List.length_append, ← unhide HLN, List.length_singleton]; omega
            · congr 1; omega
            · rw [List.length_append, ← unhide HLN, List.length_singleton]
            · rw [List.length_append, ← unhide HLN, List.length_singleton, varCells_app]; exact unhide HW
            · intro x hx
              rcases List.mem_append.1 hx with hx | hx
              · exact (unhide HO).2 x hx
              · rw [List.mem_singleton.1 hx]; exact ⟨strOfNums_size _, strOfNums_size _⟩
            · rw [List.length_append, List.length_singleton, show 1 + 2 * (l.length + 1) = 1 + 2 * l.length + 1 + 1 by omega]; exact (unhide HDD).next (unhide HDB)
          case measure => simp [intOf]; omega
    · have e : m = 0 := by omega
      subst e
      go_wp2
      go_ret
      exact ⟨⟨_, l, c1, rfl, by rw [← unhide HLN]; omega, by rw [← unhide HLN] at HO; exact unhide HO, unhide HD1, unhide HC1⟩, unhide HB1⟩
end Go.Proofs.Ytoiacbdnkkolmaa
