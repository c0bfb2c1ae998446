import Derived.Test.YtoiacbdnkkolmaaW2
import Derived.Test.YtoiacbdnkkolmaaD8
import Derived.Deep.DeepCutAuto
import Derived.Deep.RegionLaw
import Derived.Deep.LoopGhost
namespace Go.Proofs.Ytoiacbdnkkolmaa
open Go.RowKit

attribute [local go_sem ↓] Go.wp_at_zero Go.wp_at_succ

theorem IsStack.sound {nf : Nat} {fns : Nat → ByteArray} {n : Nat} {f : Nat → M} {k t : Int} {l : List Fr} (h : IsStack nf fns n f k t l) (hs : Sound nf fns n f) (hk : -1 ≤ k ∧ k ≤ n) (ht : 0 ≤ t ∧ t ≤ 100) : l = (St.after f (upto n k)).tasks t.toNat := by
  rcases h with ⟨_, _, _, e⟩ | ⟨e, _⟩
  · exact e
  · exact absurd ⟨hs, hk, ht⟩ e

theorem Running.sound {nf : Nat} {fns : Nat → ByteArray} {n : Nat} {f : Nat → M} {k : Int} {e : Ending} (h : Running nf fns n f k e) (hs : Sound nf fns n f) (hk : -1 ≤ k ∧ k ≤ n) : e = .returned (.int .i64 (St.after f (upto n k)).cur) := by
  rcases h with ⟨_, _, e⟩ | ⟨e, _⟩
  · exact e
  · exact absurd ⟨hs, hk⟩ e

theorem made3 : madeCells (Value.slice none 0 0).cells (3 * 1) = #[.slice none 0 0, .slice none 0 0, .slice none 0 0] := by
  apply Array.ext
  · rw [size_madeCells]; rfl
  · intro i h1 h2
    have h3 : i < 3 := by rw [size_madeCells] at h1; omega
    rcases (show i = 0 ∨ i = 1 ∨ i = 2 by omega) with rfl | rfl | rfl
    all_goals simp [madeCells, Value.cells]

theorem upto_at (n k : Nat) (h : k < n) : upto n (k : Int) = k + 1 := by unfold upto; omega

theorem cell_add {w : World} {B : Nat} {e : TypeId} {z : Nat} {g : Nat} {n cap : Nat} {xs : List Value} (h : w.ownsRow B e z (.slice (some ⟨g, 0, none⟩) n cap) n xs) (j : Nat) (u : Value) (hu : xs[j]? = some u) : w.cell? ((⟨g, 0, none⟩ : Addr).add j) = some u := by
  have e : (⟨g, 0, none⟩ : Addr).add j = ⟨g, j, none⟩ := by unfold Addr.add; split <;> simp_all
  rw [e]
  exact (owns_cell h j u hu).1

theorem frCells_one (l : List Fr) : ∀ u, u ∈ frCells l → u.oneCell' = true := by
  induction l with
  | nil => intro u hu; cases hu
  | cons f r ih =>
    intro u hu
    have e : frCells (f :: r) = .int .i64 f.fn :: .int .i64 f.line :: .int .i64 f.frm :: frCells r := rfl
    rw [e] at hu
    rcases List.mem_cons.1 hu with h | hu
    · rw [h]; rfl
    rcases List.mem_cons.1 hu with h | hu
    · rw [h]; rfl
    rcases List.mem_cons.1 hu with h | hu
    · rw [h]; rfl
    exact ih u hu

/-- One frame, just made. -/
theorem FrsAt.one (w : World) (a b c : Int) : FrsAt w.heap.size (w.alloc (.cells #[.int .i64 a, .int .i64 b, .int .i64 c] 48)) (.slice (some ⟨w.heap.size, 0, none⟩) 1 1) [⟨a, b, c⟩] :=
  ⟨rfl, .inr ⟨w.heap.size, 1, #[.int .i64 a, .int .i64 b, .int .i64 c], rfl, Nat.le_refl _, heap_alloc_new w _, Nat.le_refl _, by unfold maxLen; omega, rfl, rfl⟩⟩

theorem run_append_want (w : World) (ty : TypeId) (g : Nat) (f0 : Fr) (xo : Option Addr) (c : Nat) (l : List Fr) (hown : FrsAt g w (.slice (some ⟨g, 0, none⟩) 1 1) [f0]) (hnews : ∀ ad, xo = some ad → ∀ j u, (frCells l)[j]? = some u → w.cell? (ad.add j) = some u) (hnone : xo = none → l = []) (hl : l.length ≤ 200) (hg : g ≤ w.heap.size) :
    ∃ v' w', (Builtin.append_ #[45, 45] ty #[.slice (some ⟨g, 0, none⟩) 1 1, .slice xo l.length c]).run Try.prog w = .ok v' w' ∧ FrsAt g w' v' (f0 :: l) ∧ w.grownBy w' (some g) := by
  obtain ⟨i0, hi0, hz0, hz1, hz2⟩ := info_parts info_Frame
  cases xo with
  | some ad =>
    obtain ⟨v', w', h1, h2, h3, _, _⟩ := run_append_own_at (P := Try.prog) w g 45 ty 48 i0 _ 3 24 Try.underlying45 hi0 hz0 hz1 hz2 rfl (by omega) (.slice (some ⟨g, 0, none⟩) 1 1) 1 (frCells [f0]) hown ad l.length c (frCells l) (frCells_len l) (hnews ad rfl) (frCells_one l) (by unfold maxLen; omega) (by omega) hg
    refine ⟨v', w', h1, ?_, h3⟩
    unfold FrsAt
    rw [show (f0 :: l).length = 1 + l.length by simp [Nat.add_comm], show frCells (f0 :: l) = frCells [f0] ++ frCells l from (frCells_app [f0] l)]
    exact h2
  | none =>
    have e := hnone rfl
    subst e
    refine ⟨.slice (some ⟨g, 0, none⟩) 1 1, w, ?_, hown, ?_⟩
    · simp [Builtin.append_, Builtin.firstCells, storeCells, go_sem]
    · exact World.grownBy.refl _ _

theorem wp_append_want (w : World) {o : Oper} {a : Act} {K : Act → World → Prop} {Q : Exit → Act → World → Prop} (s x : Operand) (ho : o.op = .call { callee := .builtin .append, args := #[s, x], argTypes := #[45, 45] })
    (g : Nat) (f0 : Fr) (xo : Option Addr) (c : Nat) (l : List Fr) (hs : a.eval s = .slice (some ⟨g, 0, none⟩) 1 1) (hx : a.eval x = .slice xo l.length c) (hown : FrsAt g w (.slice (some ⟨g, 0, none⟩) 1 1) [f0]) (hnews : ∀ ad, xo = some ad → ∀ j u, (frCells l)[j]? = some u → w.cell? (ad.add j) = some u) (hnone : xo = none → l = []) (hl : l.length ≤ 200) (hg : g ≤ w.heap.size)
    (h : ∀ v' w', FrsAt g w' v' (f0 :: l) → w.grownBy w' (some g) → K (a.put o.dst v') w') : o.wp Try.prog a w K Q := by
  obtain ⟨v', w', hr, h2, h3⟩ := run_append_want w o.type g f0 xo c l hown hnews hnone hl hg
  unfold Oper.wp execOp
  simp only [ho, resolve, invoke, builtin, Sem.run_bind, Sem.run_pure, Result.andThen_ok, List.map_toArray, List.map_cons, List.map_nil, hs, hx, hr]
  exact h v' w' h2 h3

theorem wpList_append_want (w : World) {ops : Array Oper} {rest : List Oper} {o : Oper} {a : Act} {Q : Exit → Act → World → Prop} (hgd : o.guard = none) (s x : Operand) (ho : o.op = .call { callee := .builtin .append, args := #[s, x], argTypes := #[45, 45] })
    (g : Nat) (f0 : Fr) (xo : Option Addr) (c : Nat) (l : List Fr) (hs : a.eval s = .slice (some ⟨g, 0, none⟩) 1 1) (hx : a.eval x = .slice xo l.length c) (hown : FrsAt g w (.slice (some ⟨g, 0, none⟩) 1 1) [f0]) (hnews : ∀ ad, xo = some ad → ∀ j u, (frCells l)[j]? = some u → w.cell? (ad.add j) = some u) (hnone : xo = none → l = []) (hl : l.length ≤ 200) (hg : g ≤ w.heap.size)
    (h : ∀ v' w', FrsAt g w' v' (f0 :: l) → w.grownBy w' (some g) → wpList Try.prog ops Q rest (a.put o.dst v') w') : wpList Try.prog ops Q (o :: rest) a w :=
  wpList_plain hgd fun _ hK => wp_append_want w s x ho g f0 xo c l hs hx hown hnews hnone hl hg fun v' w' h2 h3 => hK _ _ (h v' w' h2 h3)

theorem step_append_want (w : World) {ops : Array Oper} {o : Oper} {a : Act} {K : Act → World → Prop} {Q : Exit → Act → World → Prop} {E : Prop} (hgd : o.guard = none) (s x : Operand) (ho : o.op = .call { callee := .builtin .append, args := #[s, x], argTypes := #[45, 45] })
    (g : Nat) (f0 : Fr) (xo : Option Addr) (c : Nat) (l : List Fr) (hs : a.eval s = .slice (some ⟨g, 0, none⟩) 1 1) (hx : a.eval x = .slice xo l.length c) (hown : FrsAt g w (.slice (some ⟨g, 0, none⟩) 1 1) [f0]) (hnews : ∀ ad, xo = some ad → ∀ j u, (frCells l)[j]? = some u → w.cell? (ad.add j) = some u) (hnone : xo = none → l = []) (hl : l.length ≤ 200) (hg : g ≤ w.heap.size)
    (h : ∀ v' w', FrsAt g w' v' (f0 :: l) → w.grownBy w' (some g) → K (a.put o.dst v') w') : if Region.wanted o (yielded ops a.tmps) = true then Oper.wp Try.prog o a w K Q else E := by
  have hw : Region.wanted o (yielded ops a.tmps) = true := by simp [Region.wanted, hgd]
  rw [if_pos hw]
  exact wp_append_want w s x ho g f0 xo c l hs hx hown hnews hnone hl hg h

theorem addr_add (g o i : Nat) : (⟨g, o, none⟩ : Addr).add i = ⟨g, o + i, none⟩ := by unfold Addr.add; split <;> simp_all

theorem FrsR.tail {lo g yo : Nat} {w : World} {f0 : Fr} {r : List Fr} (h : FrsAt lo w (.slice (some ⟨g, 0, none⟩) (f0 :: r).length yo) (f0 :: r)) (c : Nat) : FrsR w (.slice (some ⟨g, 3, none⟩) r.length c) r := by
  refine ⟨_, _, rfl, fun i hi => ⟨g, 3, rfl, ?_⟩⟩
  obtain ⟨g', e, -, -, c0, c1, c2⟩ := FrsAt.cells h (i + 1) (by simpa using hi)
  cases e
  have e1 : (i + 1) * 3 = 3 + i * 3 := by omega
  rw [e1] at c0 c1 c2
  exact ⟨c0, c1, c2⟩

set_option maxRecDepth 100000 in
set_option maxHeartbeats 4000000 in
theorem fnStacks_any (hdr : DrawsWell) (v : Value) (len : Nat) (w : World) (h : BytesAt w v len) :
    Calls Try.prog 4 #[v] w fun e w' => e = .returned (.bool true) ∧ Below w.heap.size w w' := by
  have H := hide h
  have HDR := hide hdr
  obtain ⟨a, cap, rfl, _⟩ := h
  clear hdr
  have hmk : ∀ w, (Instr.makeSlice 44 (.int .i64 3) (.int .i64 3)).run Try.prog w = .ok (.slice (some ⟨w.heap.size, 0, none⟩) 3 3) (w.alloc (.cells #[.slice none 0 0, .slice none 0 0, .slice none 0 0] 45)) := fun w => by
    have h3 := run_make_many (P := Try.prog) 44 45 _ _ _ Try.underlying44 info_Frames 3 (by omega) (by omega) w
    have e : madeCells (Value.slice none 0 0).cells (3 * 1) = #[.slice none 0 0, .slice none 0 0, .slice none 0 0] := made3
    rw [e] at h3
    exact h3
  obtain ⟨i0, hi0, hz0, hz1, hz2⟩ := info_parts info_Frame
  have II := hide (And.intro hi0 (And.intro hz0 (And.intro hz1 hz2))); clear hi0 hz0 hz1 hz2
  by_cases hlen : len ≤ 1048576
  · have hle : ¬ ((1048576 : Int) < (len : Int)) := by omega
    have hle2 : decide ((1048576 : Int) < (len : Int)) = false := by simpa using hle
    go_enter Try.func4, Try.ntmps4
    go_wp2_with fail
    refine (unhide HDR _ len _ (unhide H) hlen).mono ?_
    rintro e wd ⟨⟨v1, v2, n, ms, rfl, hn, hs, hm, hso⟩, hb⟩
    obtain ⟨f, hf⟩ : ∃ f, f = momOf ms := ⟨_, rfl⟩
    rw [← hf] at hm hso
    clear hf
    have DS := hide hs
    have DM := hide hm
    have DD := hide hso
    have HB := hide hb
    obtain ⟨a1, cap1, rfl, _⟩ := hs
    obtain ⟨a2, cap2, rfl, _⟩ := hm
    have hsw : w.heap.size ≤ wd.heap.size := hb.size
    clear hso hb hle hle2 H HDR hlen
    have HL0 := hide (L4At.start wd (.slice a1 4 cap1) (.slice a2 n cap2) (fun t => (St.after f 0).tasks t))
    go_wp2_with fail
    go_loopw [6, 20] (fun _ i W => ∃ (k : Nat) (V : Nat → Value), k ≤ 3 ∧ i = .int .i64 k ∧ L4At wd W (.slice a1 4 cap1) (.slice a2 n cap2) V (fun t => (St.after f 0).tasks t) k) (fun _ i _ => 3 - (intOf i).toNat)
    case atStart => exact ⟨0, _, by omega, rfl, unhide HL0⟩
    case round =>
      clear HL0 hmk
      obtain ⟨k, V, hk, rfl, hL⟩ := hrel
      have HL := hide hL
      have b0 := hL.b0
      have b1 := hL.b1
      have hlt := hL.lt
      by_cases hk3 : k < 3
      · as_aux_lemma =>
          have hi0 : (0 : Int) ≤ (k : Int) := by omega
          have hi1 : (k : Int) < 3 := by omega
          clear hL
          go_wp2_with fail
          refine (implStackAt_any w.heap.size _ _ 4 drawnFns n f (-1) k _ ((unhide DS).below (unhide HL).bd) ((unhide DM).below (unhide HL).bd)).mono ?_
          rintro e w2 ⟨⟨v, l, rfl, hst, hfr, hl2⟩, hb2⟩
          have hl0 : l = (St.after f 0).tasks k := by have := hst.sound (unhide DD) (by omega) (by omega); simpa [upto] using this
          have HL2 := hide ((unhide HL).below hb2)
          have HV := hide (owns_low hfr (B' := wd.heap.size + 2) hlt)
          have HL0 := hide hl0
          obtain ⟨va, vc, rfl⟩ := owns_slice hfr
          have hc := (unhide HL2).row.cell hk3
          have hz := (unhide HL2).row.frozen k
          clear hst hfr hb2 hl0 b0 b1
          go_wp2_with fail
          go_roundw
          case rel => exact ⟨k + 1, _, by omega, by go_num, (unhide HL2).put (j := k) (by show FrsAt _ _ _ ((St.after f 0).tasks k); rw [← unhide HL0]; exact unhide HV) (by rw [unhide HL0] at hl2; exact hl2) (fun t ht ne => ⟨by omega, rfl⟩)⟩
          case measure => simp [intOf]; omega
      · obtain rfl : k = 3 := by omega
        have f0 := (hL.fr 0 (by omega)).1
        have f1 := (hL.fr 1 (by omega)).1
        have e0 : (St.after f 0).tasks 0 = [⟨0, 0, -1⟩] := rfl
        have e1 : (St.after f 0).tasks 1 = [] := rfl
        rw [e0] at f0
        rw [e1] at f1
        obtain ⟨x0, y0, hV0⟩ := owns_slice f0
        obtain ⟨x1, y1, hV1⟩ := owns_slice f1
        obtain ⟨g, hx0, -, -, c0, c1, c2⟩ := FrsAt.cells (by rw [hV0] at f0; exact f0) 0 (by simp)
        subst hx0
        have d0 := hL.row.cell (i := 0) (by omega)
        have d1 := hL.row.cell (i := 1) (by omega)
        rw [hV0] at d0
        rw [hV1] at d1
        clear f0 f1 e0 e1 hV0 hV1 hL hk hk3
        go_wp2_with fail
        refine (implRunningAt_any w.heap.size _ _ 4 drawnFns n f (-1) _ ((unhide DS).below (unhide HL).bd) ((unhide DM).below (unhide HL).bd)).mono ?_
        rintro e w2 ⟨hru, hb2⟩
        have hru2 := hru.sound (unhide DD) (by omega)
        have er : (St.after f (upto n (-1))).cur = 0 := by simp [upto, St.after, St.init]
        rw [er] at hru2
        subst hru2
        have HL2 := hide ((unhide HL).below hb2)
        have d1 := cell_below hb2 d1
        have b1 := cell_below hb2 b1
        clear hru hb2 HL b0 c0 c1 c2 d0 hlt
        go_wp2_with fail
        go_loopg [4, 59] n (fun gg run i W => ∃ (k : Nat) (V : Nat → Value), k + gg = n ∧ i = .int .i64 k ∧ run = .int .i64 (St.after f k).cur ∧ L4At wd W (.slice a1 4 cap1) (.slice a2 n cap2) V (fun t => (St.after f k).tasks t) 3)
        case atStart => exact ⟨0, V, by omega, rfl, rfl, unhide HL2⟩
        case round =>
          clear HL2 b1 d1
          obtain ⟨k, V, hk, rfl, rfl, hL⟩ := hrel
          have HL := hide hL
          have b0 := hL.b0
          have b1 := hL.b1
          have hlt := hL.lt
          obtain ⟨ru, hru⟩ : ∃ ru, ru = (St.after f k).cur := ⟨_, rfl⟩
          rw [← hru]
          have HRU := hide hru
          clear hL hru
          by_cases hkn : k < n
          · have hi0 : (0 : Int) ≤ (k : Int) := by omega
            have hi1 : (k : Int) < (n : Int) := by omega
            by_cases h40 : 40 < k
            · as_aux_lemma =>
                have h40i : (40 : Int) < (k : Int) := by omega
                go_wp2_with fail
                go_ret
                exact ⟨rfl, (unhide HB).trans ((unhide HL).bd.mono hsw)⟩
            · have h40i : ¬ ((40 : Int) < (k : Int)) := by omega
              have h40d : decide ((40 : Int) < (k : Int)) = false := by simpa using h40i
              obtain ⟨xa, xc, ex, hx⟩ := (unhide DM).below (unhide HL).bd
              injection ex with e1 e2 e3
              subst e1
              subst e3
              clear e2
              obtain ⟨bm, om, vv, rfl, m0, m1, m2, m3, m4, m5, mt, mv, -⟩ := hx.2 k hkn
              obtain ⟨va, vc, rfl, -⟩ := mv
              have hmo := ((unhide DD).2.1 k hkn).1
              clear hx mt
              generalize hfk : f k = fk at m0 m1 m2 m3 m4 m5 hmo
              have HFK := hide hfk
              clear hfk
              obtain ⟨fkind, ftask, ffn, fline, ftext, fnv, fvars⟩ := fk
              have HMO := hide hmo
              clear hmo
              obtain ⟨rn, hrn⟩ : ∃ rn, rn = (St.after f (k + 1)).cur := ⟨_, rfl⟩
              have HRN := hide hrn
              have HBX := hide (heap_alloc_new wr (.cells #[.int .i64 fkind, .int .i64 ftask, .int .i64 ffn, .int .i64 fline, .string ftext, .slice va fnv vc] 30))
              have HLM := hide ((unhide HL).below (below_new wr (.cells #[.int .i64 fkind, .int .i64 ftask, .int .i64 ffn, .int .i64 fline, .string ftext, .slice va fnv vc] 30)))
              clear hrn
              go_upto_if 71 with fail
              go_cut [4] (fun run W => run = .int .i64 rn ∧ L4At wd W (.slice a1 4 cap1) (.slice (some ⟨bm, om, none⟩) n cap2) V (fun t => (St.after f k).tasks t) 3 ∧ W.heap[wr.heap.size]? = some (.cells #[.int .i64 fkind, .int .i64 ftask, .int .i64 ffn, .int .i64 fline, .string ftext, .slice va fnv vc] 30 (0, 0)))
              case first =>
                as_aux_lemma =>
                  by_cases k7 : fkind = 7
                  · have k7b : (fkind == 7) = true := by simpa using k7
                    have HK7 := hide k7
                    clear k7
                    go_wp2_with fail
                    go_meet
                    case rel =>
                      refine ⟨?_, unhide HLM, unhide HBX⟩
                      have h1 := after_cur (n := n) (f := f) k hkn
                      rw [unhide HFK, ← unhide HRN] at h1
                      simp only at h1
                      have h2 := (unhide HMO).2.2.1
                      rw [h1, if_pos (unhide HK7)]
                      congr 1
                      exact (Int.toNat_of_nonneg h2).symm
                  · have k7b : (fkind == 7) = false := by simpa using k7
                    go_wp2_with fail
                    go_meet
                    case rel =>
                      refine ⟨?_, unhide HLM, unhide HBX⟩
                      have h1 := after_cur (n := n) (f := f) k hkn
                      rw [unhide HFK, ← unhide HRN] at h1
                      simp only at h1
                      rw [h1, if_neg k7, unhide HRU]
              case rest =>
                obtain ⟨rfl, hL, hbx⟩ := hcut
                clear HLM HBX HL b0 b1 m0 m1 m2 m3 m4 m5
                have HL := hide hL
                have HBX := hide hbx
                have b0 := hL.b0
                have b1 := hL.b1
                obtain ⟨mb, hmb⟩ : ∃ mb, mb = wr.heap.size := ⟨_, rfl⟩
                rw [← hmb] at HBX
                rw [← hmb]
                have hmbD : wd.heap.size + 2 ≤ mb := by omega
                clear hL hbx hmb hlt
                go_wp2_with fail
                refine (implRunningAt_any w.heap.size _ _ 4 drawnFns n f k _ ((unhide DS).below (unhide HL).bd) ((unhide DM).below (unhide HL).bd)).mono ?_
                rintro e w2 ⟨hru, hb2⟩
                have hru2 := hru.sound (unhide DD) (by omega)
                rw [upto_at n k hkn, ← unhide HRN] at hru2
                subst hru2
                have HL2 := hide ((unhide HL).below hb2)
                have HBX2 : Hid (w2.heap[mb]? = _) := hide ((hb2.block mb (heap_lt (unhide HBX))).trans (unhide HBX))
                have hrr : (((rn : Nat) : Int) != (rn : Int)) = false := by simp
                clear hru hb2 HL HBX b0 b1
                go_wp2_with fail
                go_loopg [81] 3 (fun gg i W => ∃ (j : Nat) (V : Nat → Value), j + gg = 3 ∧ i = .int .i64 j ∧ L4At wd W (.slice a1 4 cap1) (.slice (some ⟨bm, om, none⟩) n cap2) V (fun t => if t < j then (St.after f (k + 1)).tasks t else (St.after f k).tasks t) 3 ∧ W.heap[mb]? = some (.cells #[.int .i64 fkind, .int .i64 ftask, .int .i64 ffn, .int .i64 fline, .string ftext, .slice va fnv vc] 30 (0, 0)))
                case atStart => exact ⟨0, V, by omega, rfl, unhide HL2, unhide HBX2⟩
                case round =>
                  clear HL2 HBX2
                  obtain ⟨j, V, hj, rfl, hL, hbx⟩ := hrel
                  have HL := hide hL
                  have HBX := hide hbx
                  have b0 := hL.b0
                  have b1 := hL.b1
                  have hlt := hL.lt
                  clear hL hbx
                  by_cases hj3 : j < 3
                  · have hj0 : (0 : Int) ≤ (j : Int) := by omega
                    have hj1 : (j : Int) < 3 := by omega
                    go_wp2_with fail
                    refine (implStackAt_any w.heap.size _ _ 4 drawnFns n f k j _ ((unhide DS).below (unhide HL).bd) ((unhide DM).below (unhide HL).bd)).mono ?_
                    rintro e w3 ⟨⟨v, l, rfl, hst, hfr, hl2⟩, hb3⟩
                    have hl0 : l = (St.after f (k + 1)).tasks j := by have := hst.sound (unhide DD) (by omega) (by omega); rw [upto_at n k hkn] at this; simpa using this
                    have HL3 := hide ((unhide HL).below hb3)
                    have HBX3 : Hid (w3.heap[mb]? = _) := hide ((hb3.block mb (heap_lt (unhide HBX))).trans (unhide HBX))
                    have HV := hide (owns_low hfr (B' := wd.heap.size + 2) hlt)
                    have HL0 := hide hl0
                    obtain ⟨va2, vc2, rfl⟩ := owns_slice hfr
                    have hc := (unhide HL3).row.cell hj3
                    have hz := (unhide HL3).row.frozen j
                    obtain ⟨hfo, hfl⟩ := (unhide HL3).fr j hj3
                    rw [if_neg (Nat.lt_irrefl j)] at hfo hfl
                    obtain ⟨lo, hlo⟩ : ∃ lo, lo = (St.after f k).tasks j := ⟨_, rfl⟩
                    rw [← hlo] at hfo hfl
                    have HLO := hide hlo
                    have HFO := hide hfo
                    obtain ⟨xo, yo, hVo⟩ := owns_slice hfo
                    rw [hVo] at hc HFO
                    have hlt3 := (unhide HL3).lt
                    have m0 : w3.cell? ⟨mb, 0, none⟩ = some (.int .i64 fkind) := by rw [cell_of_row w3 mb 0 _ _ _ (unhide HBX3)]; rfl
                    have m1 : w3.cell? ⟨mb, 1, none⟩ = some (.int .i64 ftask) := by rw [cell_of_row w3 mb 1 _ _ _ (unhide HBX3)]; rfl
                    have m2 : w3.cell? ⟨mb, 2, none⟩ = some (.int .i64 ffn) := by rw [cell_of_row w3 mb 2 _ _ _ (unhide HBX3)]; rfl
                    have m3 : w3.cell? ⟨mb, 3, none⟩ = some (.int .i64 fline) := by rw [cell_of_row w3 mb 3 _ _ _ (unhide HBX3)]; rfl
                    have hat : l = if (j : Int) = ftask then wantOf lo fkind ffn fline k else lo := by
                      have h := after_task (unhide DD) k hkn j
                      rw [unhide HFK, ← hlo, ← hl0] at h
                      exact h
                    have HOP : Hid ((j : Int) = ftask → fkind = 1 ∨ fkind = 3 → lo ≠ []) := hide fun h1 h2 => by
                      have h := after_open (unhide DD) k hkn j
                      rw [unhide HFK, ← hlo] at h
                      exact h h1 h2
                    have HAT := hide hat
                    clear hat
                    clear hst hfr hb3 hl0 b0 b1 hfo hVo hlo
                    go_upto_if 95 with fail
                    go_cut [11] (fun v11 W => FrsR W v11 l ∧ Below w3.heap.size w3 W)
                    case first =>
                      by_cases et : (j : Int) = ftask
                      · have etb : ((j : Int) == ftask) = true := by simpa using et
                        have hat := unhide HAT
                        rw [if_pos et] at hat
                        have HAT2 := hide hat
                        have HET := hide et
                        clear et HAT hat
                        by_cases k2 : fkind = 2
                        · have k2b : (fkind == 2) = true := by simpa using k2
                          have HW := hide ((unhide HAT2).trans (wantOf_2 lo k2))
                          clear k2 HAT2
                          as_aux_lemma =>
                            have HNW : Hid (∀ ad, xo = some ad → ∀ i u, (frCells lo)[i]? = some u → (w3.alloc (.cells #[.int .i64 ffn, .int .i64 0, .int .i64 k] 48)).cell? (ad.add i) = some u) := hide fun ad e i u hu => by
                              subst e
                              have hlp : 0 < lo.length := by
                                cases lo with
                                | nil => cases hu
                                | cons _ _ => simp
                              obtain ⟨g, eg, -, -, -, -, -⟩ := FrsAt.cells (unhide HFO) 0 hlp
                              cases eg
                              exact cell_below (below_new w3 _) (cell_add (unhide HFO) i u hu)
                            have HNO : Hid (xo = none → lo = []) := hide fun e => by
                              subst e
                              cases lo with
                              | nil => rfl
                              | cons _ _ =>
                                obtain ⟨g, eg, -, -, -, -, -⟩ := FrsAt.cells (unhide HFO) 0 (by simp)
                                cases eg
                            have HON := hide (FrsAt.one w3 ffn 0 k)
                            obtain ⟨ln, hln⟩ : ∃ ln, ln = lo.length := ⟨_, rfl⟩
                            rw [← hln] at hc ⊢
                            have HLN := hide hln
                            clear hln
                            go_wp2_with (at_builtin; refine wpList_append_want _ (by rfl) _ _ (by rfl) w3.heap.size ⟨ffn, 0, k⟩ xo yo lo (by rfl) (by rw [← unhide HLN]; rfl) (unhide HON) (unhide HNW) (unhide HNO) hfl (by simp) ?_; intro v7 w7 hfr7 hg7; have HF7 := hide hfr7; have HB7 : Hid (Below w3.heap.size w3 w7) := hide (Below.grown ((Below.refl _ _).alloc (Nat.le_refl _) _) hg7 (by simp) (fun b hb => by cases hb; exact Nat.le_refl _)); clear hfr7 hg7)
                            go_meet
                            case rel => exact ⟨by rw [unhide HW]; exact (unhide HF7).read, unhide HB7⟩
                        · have k2b : (fkind == 2) = false := by simpa using k2
                          by_cases k3 : fkind = 3
                          · have k3b : (fkind == 3) = true := by simpa using k3
                            have HW := hide ((unhide HAT2).trans (wantOf_3 lo k3))
                            have hne := unhide HOP (unhide HET) (.inr k3)
                            clear k2 k3 HAT2
                            cases lo with
                            | nil => exact absurd rfl hne
                            | cons f0 r =>
                              obtain ⟨g, e, -, -, -, -, -⟩ := FrsAt.cells (unhide HFO) 0 (by simp)
                              subst e
                              have hcp : r.length + 1 ≤ yo := owns_cap (unhide HFO)
                              rw [show (f0 :: r).length = r.length + 1 from rfl] at hc ⊢
                              obtain ⟨rl, hrl⟩ : ∃ rl, rl = r.length := ⟨_, rfl⟩
                              rw [← hrl] at hc hcp ⊢
                              have HRL := hide hrl
                              clear hrl hne
                              have hcp1 : (1 : Int) ≤ (rl : Int) + 1 := by omega
                              have hcp2 : (rl : Int) + 1 ≤ (yo : Int) := by omega
                              by_cases hy : yo = 1
                              · as_aux_lemma =>
                                  subst hy
                                  obtain rfl : rl = 0 := by omega
                                  go_wp2_with fail
                                  go_meet
                                  case rel =>
                                    have er : r = [] := List.eq_nil_of_length_eq_zero (unhide HRL).symm
                                    refine ⟨?_, Below.refl _ _⟩
                                    rw [unhide HW, List.tail_cons, er]
                                    exact ⟨_, _, rfl, fun i hi => absurd hi (by simp)⟩
                              · as_aux_lemma =>
                                  go_wp2_with fail
                                  go_meet
                                  case rel =>
                                    refine ⟨?_, Below.refl _ _⟩
                                    rw [unhide HW, unhide HRL]
                                    exact FrsR.tail (unhide HFO) _
                          · have k3b : (fkind == 3) = false := by simpa using k3
                            by_cases k1 : fkind = 1
                            · have k1b : (fkind == 1) = true := by simpa using k1
                              have HW := hide ((unhide HAT2).trans (wantOf_1 lo k1))
                              have hne := unhide HOP (unhide HET) (.inl k1)
                              clear k1 k2 k3 HAT2
                              cases lo with
                              | nil => exact absurd rfl hne
                              | cons f0 r =>
                                obtain ⟨g, e, hgD, hgl, c0, -, c2⟩ := FrsAt.cells (unhide HFO) 0 (by simp)
                                subst e
                                have hcp : r.length + 1 ≤ yo := owns_cap (unhide HFO)
                                rw [show (f0 :: r).length = r.length + 1 from rfl] at hc ⊢
                                obtain ⟨rl, hrl⟩ : ∃ rl, rl = r.length := ⟨_, rfl⟩
                                rw [← hrl] at hc hcp ⊢
                                have HRL := hide hrl
                                obtain ⟨x0, hx0⟩ : ∃ x0, x0 = f0.fn := ⟨_, rfl⟩
                                obtain ⟨x2, hx2⟩ : ∃ x2, x2 = f0.frm := ⟨_, rfl⟩
                                have c0 : w3.cell? ⟨g, 0, none⟩ = some (.int .i64 x0) := by rw [hx0]; simpa using c0
                                have c2 : w3.cell? ⟨g, 2, none⟩ = some (.int .i64 x2) := by rw [hx2]; simpa using c2
                                replace HW : Hid (l = ⟨f0.fn, fline, f0.frm⟩ :: r) := unhide HW
                                rw [← hx0, ← hx2] at HW
                                have hmbl : mb < w3.heap.size := heap_lt (unhide HBX3)
                                clear hrl hne hx0 hx2
                                have hcp0 : (0 : Int) < (rl : Int) + 1 := by omega
                                have hcp1 : (1 : Int) ≤ (rl : Int) + 1 := by omega
                                have hcp2 : (rl : Int) + 1 ≤ (yo : Int) := by omega
                                go_wp2_with fail
                                refine wp_region_held_drew (S := fun W => W.cell? ⟨g, 0, none⟩ = some (.int .i64 x0) ∧ W.cell? ⟨g, 2, none⟩ = some (.int .i64 x2) ∧ W.cell? ⟨mb, 3, none⟩ = some (.int .i64 fline)) (by kernel_rfl) ⟨c0, c2, m3⟩ (fun hHeld => ?_)
                                have HB3 : Hid (Below w3.heap.size w3 w3.drew) := hide (Below.refl _ _).drew
                                have hs4 : w3.heap.size ≤ w3.drew.heap.size := Nat.le_refl _
                                generalize w3.drew = w4 at HB3 hs4 hHeld ⊢
                                have HFO4 := hide (FrsAt.below (unhide HFO) (unhide HB3))
                                have HB4 := hide (below_new w4 (.cells #[.int .i64 x0, .int .i64 fline, .int .i64 x2] 48))
                                have HON := hide (FrsAt.one w4 x0 fline x2)
                                by_cases hy : yo = 1
                                · as_aux_lemma =>
                                  subst hy
                                  obtain rfl : rl = 0 := by omega
                                  have er : r = [] := List.eq_nil_of_length_eq_zero (unhide HRL).symm
                                  have HNW : Hid (∀ ad, some (⟨g, 0, none⟩ : Addr) = some ad → ∀ i u, (frCells r)[i]? = some u → (w4.alloc (.cells #[.int .i64 x0, .int .i64 fline, .int .i64 x2] 48)).cell? (ad.add i) = some u) := hide fun ad e i u hu => by rw [er] at hu; cases hu
                                  clear er
                                  refine takeAt 0 (some 113) (v := ?v0z1) (by decide) rfl (by kernel_rfl) (by kernel_rfl) (by kernel_rfl) (fun _ _ _ h => h) (by rfl) ?hy0z1 hHeld ?r0z1
                                  case hy0z1 => (intro wx hSw; obtain ⟨s0, s2, s3⟩ := hSw; go_simp; with_reducible rfl)
                                  simp only [Act.put, List.setIfInBounds_toArray, List.set_cons_zero, List.set_cons_succ]
                                  refine takeAt 1 (some 114) (v := ?v1z2) (by decide) rfl (by kernel_rfl) (by kernel_rfl) (by kernel_rfl) (fun _ _ _ h => h) (by rfl) ?hy1z2 hHeld ?r1z2
                                  case hy1z2 => (intro wx hSw; obtain ⟨s0, s2, s3⟩ := hSw; go_simp; with_reducible rfl)
                                  simp only [Act.put, List.setIfInBounds_toArray, List.set_cons_zero, List.set_cons_succ]
                                  refine takeAt 2 (some 115) (v := ?v2z3) (by decide) rfl (by kernel_rfl) (by kernel_rfl) (by kernel_rfl) (fun _ _ _ h => h) (by rfl) ?hy2z3 hHeld ?r2z3
                                  case hy2z3 => (intro wx hSw; obtain ⟨s0, s2, s3⟩ := hSw; go_simp; with_reducible rfl)
                                  simp only [Act.put, List.setIfInBounds_toArray, List.set_cons_zero, List.set_cons_succ]
                                  refine takeAt 3 (some 116) (v := ?v3z4) (by decide) rfl (by kernel_rfl) (by kernel_rfl) (by kernel_rfl) (fun _ _ _ h => h) (by rfl) ?hy3z4 hHeld ?r3z4
                                  case hy3z4 => (intro wx hSw; obtain ⟨s0, s2, s3⟩ := hSw; go_simp; with_reducible rfl)
                                  simp only [Act.put, List.setIfInBounds_toArray, List.set_cons_zero, List.set_cons_succ]
                                  refine takeAt 4 (some 117) (v := ?v4z5) (by decide) rfl (by kernel_rfl) (by kernel_rfl) (by kernel_rfl) (fun _ _ _ h => h) (by rfl) ?hy4z5 hHeld ?r4z5
                                  case hy4z5 => (intro wx hSw; obtain ⟨s0, s2, s3⟩ := hSw; go_simp; with_reducible rfl)
                                  simp only [Act.put, List.setIfInBounds_toArray, List.set_cons_zero, List.set_cons_succ]
                                  refine takeAt 5 (some 118) (v := ?v5z6) (by decide) rfl (by kernel_rfl) (by kernel_rfl) (by kernel_rfl) (fun _ _ _ h => h) (by rfl) ?hy5z6 hHeld ?r5z6
                                  case hy5z6 => (intro wx hSw; obtain ⟨s0, s2, s3⟩ := hSw; go_simp; with_reducible rfl)
                                  simp only [Act.put, List.setIfInBounds_toArray, List.set_cons_zero, List.set_cons_succ]
                                  refine takeAt 6 (some 119) (v := ?v6z7) (by decide) rfl (by kernel_rfl) (by kernel_rfl) (by kernel_rfl) (fun _ _ _ h => h) (by rfl) ?hy6z7 hHeld ?r6z7
                                  case hy6z7 => (intro wx hSw; obtain ⟨s0, s2, s3⟩ := hSw; go_simp; with_reducible rfl)
                                  simp only [Act.put, List.setIfInBounds_toArray, List.set_cons_zero, List.set_cons_succ]
                                  refine takeAt 7 (some 120) (v := ?v7z8) (by decide) rfl (by kernel_rfl) (by kernel_rfl) (by kernel_rfl) (fun _ _ _ h => h) (by rfl) ?hy7z8 hHeld ?r7z8
                                  case hy7z8 => (intro wx hSw; obtain ⟨s0, s2, s3⟩ := hSw; go_simp; with_reducible rfl)
                                  simp only [Act.put, List.setIfInBounds_toArray, List.set_cons_zero, List.set_cons_succ]
                                  refine takeAt 8 (some 121) (v := ?v8z9) (by decide) rfl (by kernel_rfl) (by kernel_rfl) (by kernel_rfl) (fun _ _ _ h => h) (by rfl) ?hy8z9 hHeld ?r8z9
                                  case hy8z9 => (intro wx hSw; obtain ⟨s0, s2, s3⟩ := hSw; go_simp; with_reducible rfl)
                                  simp only [Act.put, List.setIfInBounds_toArray, List.set_cons_zero, List.set_cons_succ]
                                  refine takeAt 9 (some 122) (v := ?v9z10) (by decide) rfl (by kernel_rfl) (by kernel_rfl) (by kernel_rfl) (fun _ _ _ h => h) (by rfl) ?hy9z10 hHeld ?r9z10
                                  case hy9z10 => (intro wx hSw; obtain ⟨s0, s2, s3⟩ := hSw; go_simp; with_reducible rfl)
                                  simp only [Act.put, List.setIfInBounds_toArray, List.set_cons_zero, List.set_cons_succ]
                                  refine takeAt 10 (some 123) (v := ?v10z11) (by decide) rfl (by kernel_rfl) (by kernel_rfl) (by kernel_rfl) (fun _ _ _ h => h) (by rfl) ?hy10z11 hHeld ?r10z11
                                  case hy10z11 => (intro wx hSw; obtain ⟨s0, s2, s3⟩ := hSw; go_simp; with_reducible rfl)
                                  simp only [Act.put, List.setIfInBounds_toArray, List.set_cons_zero, List.set_cons_succ]
                                  refine takeAt 12 (some 125) (v := ?v12z12) (by decide) rfl (by kernel_rfl) (by kernel_rfl) (by kernel_rfl) (fun _ _ _ h => h) (by rfl) ?hy12z12 hHeld ?r12z12
                                  case hy12z12 => (intro wx hSw; obtain ⟨s0, s2, s3⟩ := hSw; go_simp; with_reducible rfl)
                                  simp only [Act.put, List.setIfInBounds_toArray, List.set_cons_zero, List.set_cons_succ]
                                  refine takeAt 13 (some 126) (v := ?v13z13) (by decide) rfl (by kernel_rfl) (by kernel_rfl) (by kernel_rfl) (fun _ _ _ h => h) (by rfl) ?hy13z13 hHeld ?r13z13
                                  case hy13z13 => (intro wx hSw; obtain ⟨s0, s2, s3⟩ := hSw; go_simp; with_reducible rfl)
                                  simp only [Act.put, List.setIfInBounds_toArray, List.set_cons_zero, List.set_cons_succ]
                                  refine wpAnyH_ready (rs := [11]) (by kernel_rfl) (by simp) ?_
                                  refine AllReadyH.cons rfl (fun KK hK => ?_) AllReadyH.nil
                                  go_simp
                                  refine hK.out _ _ ⟨cell_below (unhide HB4) hHeld.1, cell_below (unhide HB4) hHeld.2.1, cell_below (unhide HB4) hHeld.2.2⟩ (fun hHeld => ?_)
                                  clear hK KK
                                  try simp only [Act.put, List.setIfInBounds_toArray, List.getElem_toArray, List.getElem_cons_succ, List.getElem_cons_zero, List.set_cons_zero, List.set_cons_succ]
                                  refine wpAnyH_ready (rs := [14]) (by kernel_rfl) (by simp) ?_
                                  refine AllReadyH.cons rfl (fun KK hK => ?_) AllReadyH.nil
                                  refine step_append_want _ (by rfl) _ _ (by rfl) w4.heap.size ⟨x0, fline, x2⟩ (some ⟨g, 0, none⟩) 0 r (by rfl) (by rw [← unhide HRL]; rfl) (unhide HON) (unhide HNW) (fun e => by cases e) (by simp at hfl; omega) (by simp) ?_
                                  intro v7 w7 hfr7 hg7
                                  have HF7 := hide hfr7
                                  have HB7 : Hid (Below w3.heap.size w3 w7) := hide (Below.grown ((unhide HB3).trans ((unhide HB4).mono hs4)) hg7 (by simp; omega) (fun b hb => by cases hb; exact hs4))
                                  refine hK.out _ _ ⟨(hg7.cell_far ⟨g, 0, none⟩ (by simp; omega) (by simp; omega)).trans hHeld.1, (hg7.cell_far ⟨g, 2, none⟩ (by simp; omega) (by simp; omega)).trans hHeld.2.1, (hg7.cell_far ⟨mb, 3, none⟩ (by simp; omega) (by simp; omega)).trans hHeld.2.2⟩ (fun hHeld => ?_)
                                  clear hK KK hfr7 hg7
                                  try simp only [Act.put, List.setIfInBounds_toArray, List.getElem_toArray, List.getElem_cons_succ, List.getElem_cons_zero, List.set_cons_zero, List.set_cons_succ]
                                  refine takeAt 15 (some 11) (v := ?v15z14) (by decide) rfl (by kernel_rfl) (by kernel_rfl) (by kernel_rfl) (fun _ _ _ h => h) (by rfl) ?hy15z14 hHeld ?r15z14
                                  case hy15z14 => (intro wx hSw; obtain ⟨s0, s2, s3⟩ := hSw; go_simp; with_reducible rfl)
                                  simp only [Act.put, List.setIfInBounds_toArray, List.set_cons_zero, List.set_cons_succ]
                                  refine wpAnyH_done (by kernel_rfl) ?_ _
                                  clear hHeld
                                  go_wp2_with fail
                                  go_meet
                                  case rel => exact ⟨by rw [unhide HW]; exact (unhide HF7).read, unhide HB7⟩
                                · as_aux_lemma =>
                                  have HNW : Hid (∀ ad, some (⟨g, 3, none⟩ : Addr) = some ad → ∀ i u, (frCells r)[i]? = some u → (w4.alloc (.cells #[.int .i64 x0, .int .i64 fline, .int .i64 x2] 48)).cell? (ad.add i) = some u) := hide fun ad e i u hu => by
                                    cases e
                                    rw [addr_add]
                                    exact cell_below (unhide HB4) (owns_cell (unhide HFO4) (3 + i) u (by rw [show frCells (f0 :: r) = [.int .i64 f0.fn, .int .i64 f0.line, .int .i64 f0.frm] ++ frCells r from rfl, List.getElem?_append_right (by simp)]; simpa using hu)).1
                                  refine takeAt 0 (some 113) (v := ?v0z15) (by decide) rfl (by kernel_rfl) (by kernel_rfl) (by kernel_rfl) (fun _ _ _ h => h) (by rfl) ?hy0z15 hHeld ?r0z15
                                  case hy0z15 => (intro wx hSw; obtain ⟨s0, s2, s3⟩ := hSw; go_simp; with_reducible rfl)
                                  simp only [Act.put, List.setIfInBounds_toArray, List.set_cons_zero, List.set_cons_succ]
                                  refine takeAt 1 (some 114) (v := ?v1z16) (by decide) rfl (by kernel_rfl) (by kernel_rfl) (by kernel_rfl) (fun _ _ _ h => h) (by rfl) ?hy1z16 hHeld ?r1z16
                                  case hy1z16 => (intro wx hSw; obtain ⟨s0, s2, s3⟩ := hSw; go_simp; with_reducible rfl)
                                  simp only [Act.put, List.setIfInBounds_toArray, List.set_cons_zero, List.set_cons_succ]
                                  refine takeAt 2 (some 115) (v := ?v2z17) (by decide) rfl (by kernel_rfl) (by kernel_rfl) (by kernel_rfl) (fun _ _ _ h => h) (by rfl) ?hy2z17 hHeld ?r2z17
                                  case hy2z17 => (intro wx hSw; obtain ⟨s0, s2, s3⟩ := hSw; go_simp; with_reducible rfl)
                                  simp only [Act.put, List.setIfInBounds_toArray, List.set_cons_zero, List.set_cons_succ]
                                  refine takeAt 3 (some 116) (v := ?v3z18) (by decide) rfl (by kernel_rfl) (by kernel_rfl) (by kernel_rfl) (fun _ _ _ h => h) (by rfl) ?hy3z18 hHeld ?r3z18
                                  case hy3z18 => (intro wx hSw; obtain ⟨s0, s2, s3⟩ := hSw; go_simp; with_reducible rfl)
                                  simp only [Act.put, List.setIfInBounds_toArray, List.set_cons_zero, List.set_cons_succ]
                                  refine takeAt 4 (some 117) (v := ?v4z19) (by decide) rfl (by kernel_rfl) (by kernel_rfl) (by kernel_rfl) (fun _ _ _ h => h) (by rfl) ?hy4z19 hHeld ?r4z19
                                  case hy4z19 => (intro wx hSw; obtain ⟨s0, s2, s3⟩ := hSw; go_simp; with_reducible rfl)
                                  simp only [Act.put, List.setIfInBounds_toArray, List.set_cons_zero, List.set_cons_succ]
                                  refine takeAt 5 (some 118) (v := ?v5z20) (by decide) rfl (by kernel_rfl) (by kernel_rfl) (by kernel_rfl) (fun _ _ _ h => h) (by rfl) ?hy5z20 hHeld ?r5z20
                                  case hy5z20 => (intro wx hSw; obtain ⟨s0, s2, s3⟩ := hSw; go_simp; with_reducible rfl)
                                  simp only [Act.put, List.setIfInBounds_toArray, List.set_cons_zero, List.set_cons_succ]
                                  refine takeAt 6 (some 119) (v := ?v6z21) (by decide) rfl (by kernel_rfl) (by kernel_rfl) (by kernel_rfl) (fun _ _ _ h => h) (by rfl) ?hy6z21 hHeld ?r6z21
                                  case hy6z21 => (intro wx hSw; obtain ⟨s0, s2, s3⟩ := hSw; go_simp; with_reducible rfl)
                                  simp only [Act.put, List.setIfInBounds_toArray, List.set_cons_zero, List.set_cons_succ]
                                  refine takeAt 7 (some 120) (v := ?v7z22) (by decide) rfl (by kernel_rfl) (by kernel_rfl) (by kernel_rfl) (fun _ _ _ h => h) (by rfl) ?hy7z22 hHeld ?r7z22
                                  case hy7z22 => (intro wx hSw; obtain ⟨s0, s2, s3⟩ := hSw; go_simp; with_reducible rfl)
                                  simp only [Act.put, List.setIfInBounds_toArray, List.set_cons_zero, List.set_cons_succ]
                                  refine takeAt 8 (some 121) (v := ?v8z23) (by decide) rfl (by kernel_rfl) (by kernel_rfl) (by kernel_rfl) (fun _ _ _ h => h) (by rfl) ?hy8z23 hHeld ?r8z23
                                  case hy8z23 => (intro wx hSw; obtain ⟨s0, s2, s3⟩ := hSw; go_simp; with_reducible rfl)
                                  simp only [Act.put, List.setIfInBounds_toArray, List.set_cons_zero, List.set_cons_succ]
                                  refine takeAt 9 (some 122) (v := ?v9z24) (by decide) rfl (by kernel_rfl) (by kernel_rfl) (by kernel_rfl) (fun _ _ _ h => h) (by rfl) ?hy9z24 hHeld ?r9z24
                                  case hy9z24 => (intro wx hSw; obtain ⟨s0, s2, s3⟩ := hSw; go_simp; with_reducible rfl)
                                  simp only [Act.put, List.setIfInBounds_toArray, List.set_cons_zero, List.set_cons_succ]
                                  refine takeAt 10 (some 123) (v := ?v10z25) (by decide) rfl (by kernel_rfl) (by kernel_rfl) (by kernel_rfl) (fun _ _ _ h => h) (by rfl) ?hy10z25 hHeld ?r10z25
                                  case hy10z25 => (intro wx hSw; obtain ⟨s0, s2, s3⟩ := hSw; go_simp; with_reducible rfl)
                                  simp only [Act.put, List.setIfInBounds_toArray, List.set_cons_zero, List.set_cons_succ]
                                  refine takeAt 12 (some 125) (v := ?v12z26) (by decide) rfl (by kernel_rfl) (by kernel_rfl) (by kernel_rfl) (fun _ _ _ h => h) (by rfl) ?hy12z26 hHeld ?r12z26
                                  case hy12z26 => (intro wx hSw; obtain ⟨s0, s2, s3⟩ := hSw; go_simp; with_reducible rfl)
                                  simp only [Act.put, List.setIfInBounds_toArray, List.set_cons_zero, List.set_cons_succ]
                                  refine takeAt 13 (some 126) (v := ?v13z27) (by decide) rfl (by kernel_rfl) (by kernel_rfl) (by kernel_rfl) (fun _ _ _ h => h) (by rfl) ?hy13z27 hHeld ?r13z27
                                  case hy13z27 => (intro wx hSw; obtain ⟨s0, s2, s3⟩ := hSw; go_simp; with_reducible rfl)
                                  simp only [Act.put, List.setIfInBounds_toArray, List.set_cons_zero, List.set_cons_succ]
                                  refine wpAnyH_ready (rs := [11]) (by kernel_rfl) (by simp) ?_
                                  refine AllReadyH.cons rfl (fun KK hK => ?_) AllReadyH.nil
                                  go_simp
                                  refine hK.out _ _ ⟨cell_below (unhide HB4) hHeld.1, cell_below (unhide HB4) hHeld.2.1, cell_below (unhide HB4) hHeld.2.2⟩ (fun hHeld => ?_)
                                  clear hK KK
                                  try simp only [Act.put, List.setIfInBounds_toArray, List.getElem_toArray, List.getElem_cons_succ, List.getElem_cons_zero, List.set_cons_zero, List.set_cons_succ]
                                  refine wpAnyH_ready (rs := [14]) (by kernel_rfl) (by simp) ?_
                                  refine AllReadyH.cons rfl (fun KK hK => ?_) AllReadyH.nil
                                  refine step_append_want _ (by rfl) _ _ (by rfl) w4.heap.size ⟨x0, fline, x2⟩ (some ⟨g, 3, none⟩) (yo - 1) r (by rfl) (by rw [← unhide HRL]; rfl) (unhide HON) (unhide HNW) (fun e => by cases e) (by simp at hfl; omega) (by simp) ?_
                                  intro v7 w7 hfr7 hg7
                                  have HF7 := hide hfr7
                                  have HB7 : Hid (Below w3.heap.size w3 w7) := hide (Below.grown ((unhide HB3).trans ((unhide HB4).mono hs4)) hg7 (by simp; omega) (fun b hb => by cases hb; exact hs4))
                                  refine hK.out _ _ ⟨(hg7.cell_far ⟨g, 0, none⟩ (by simp; omega) (by simp; omega)).trans hHeld.1, (hg7.cell_far ⟨g, 2, none⟩ (by simp; omega) (by simp; omega)).trans hHeld.2.1, (hg7.cell_far ⟨mb, 3, none⟩ (by simp; omega) (by simp; omega)).trans hHeld.2.2⟩ (fun hHeld => ?_)
                                  clear hK KK hfr7 hg7
                                  try simp only [Act.put, List.setIfInBounds_toArray, List.getElem_toArray, List.getElem_cons_succ, List.getElem_cons_zero, List.set_cons_zero, List.set_cons_succ]
                                  refine takeAt 15 (some 11) (v := ?v15z28) (by decide) rfl (by kernel_rfl) (by kernel_rfl) (by kernel_rfl) (fun _ _ _ h => h) (by rfl) ?hy15z28 hHeld ?r15z28
                                  case hy15z28 => (intro wx hSw; obtain ⟨s0, s2, s3⟩ := hSw; go_simp; with_reducible rfl)
                                  simp only [Act.put, List.setIfInBounds_toArray, List.set_cons_zero, List.set_cons_succ]
                                  refine wpAnyH_done (by kernel_rfl) ?_ _
                                  clear hHeld
                                  go_wp2_with fail
                                  go_meet
                                  case rel => exact ⟨by rw [unhide HW]; exact (unhide HF7).read, unhide HB7⟩
                            · as_aux_lemma =>
                                have k1b : (fkind == 1) = false := by simpa using k1
                                have HW := hide ((unhide HAT2).trans (wantOf_0 lo k2 k3 k1))
                                clear k1 k2 k3 HAT2
                                go_wp2_with fail
                                go_meet
                                case rel => exact ⟨by rw [unhide HW]; exact (unhide HFO).read, Below.refl _ _⟩
                      · as_aux_lemma =>
                          have etb : ((j : Int) == ftask) = false := by simpa using et
                          have hat := unhide HAT
                          rw [if_neg et] at hat
                          have HW := hide hat
                          clear et HAT hat
                          go_wp2_with fail
                          go_meet
                          case rel => exact ⟨by rw [unhide HW]; exact (unhide HFO).read, Below.refl _ _⟩
                    case rest =>
                      as_aux_lemma =>
                        obtain ⟨hfr, hbw⟩ := hcut
                        have HR := hide hfr
                        have HV4 := hide (FrsAt.below (unhide HV) hbw)
                        have HL4 := hide ((unhide HL3).below hbw)
                        have HBX4 := hide ((hbw.block mb (heap_lt (unhide HBX3))).trans (unhide HBX3))
                        clear hfr hbw hc hz m0 m1 m2 m3 HFO HAT HOP HV HL3 HBX3
                        go_wp2_with fail
                        refine (wFrames_any _ _ l _ (unhide HV4).read (unhide HR) hl2).mono ?_
                        rintro e w5 ⟨rfl, hb5⟩
                        have HV5 := hide (FrsAt.below (unhide HV4) hb5)
                        have HL5 := hide ((unhide HL4).below hb5)
                        have HBX5 := hide ((hb5.block mb (heap_lt (unhide HBX4))).trans (unhide HBX4))
                        have hc := (unhide HL5).row.cell hj3
                        have hz := (unhide HL5).row.frozen j
                        clear hb5 HV4 HL4 HBX4 HR
                        go_wp2_with fail
                        go_roundg (3 - (j + 1))
                        case measure => omega
                        case rel =>
                          refine ⟨j + 1, _, by omega, by go_num, (unhide HL5).put (j := j) ?_ ?_ (fun t ht ne => ⟨ht, ?_⟩), ?_⟩
                          · show FrsAt _ _ _ (if j < j + 1 then _ else _)
                            rw [if_pos (Nat.lt_succ_self j), ← unhide HL0]
                            exact unhide HV5
                          · rw [if_pos (Nat.lt_succ_self j), ← unhide HL0]
                            exact hl2
                          · by_cases e : t < j
                            · rw [if_pos e, if_pos (by omega)]
                            · rw [if_neg e, if_neg (by omega)]
                          · rw [Below.heap_setCell _ _ _ _ (by simp; omega)]
                            exact unhide HBX5
                  · obtain rfl : j = 3 := by omega
                    have hi3 : ¬ ((3 : Int) < 3) := by omega
                    go_wp2_with fail
                    go_roundg (n - (k + 1))
                    case measure => omega
                    case rel =>
                      refine ⟨k + 1, V, by omega, by go_num, by rw [unhide HRN], (unhide HL).bd, (unhide HL).b0, (unhide HL).b1, (unhide HL).row, fun t ht => ?_⟩
                      have := (unhide HL).fr t ht
                      rw [if_pos ht] at this
                      exact this
          · obtain rfl : k = n := by omega
            have hi1 : ¬ ((k : Int) < (k : Int)) := by omega
            go_wp2_with fail
            go_ret
            exact ⟨rfl, (unhide HB).trans ((unhide HL).bd.mono hsw)⟩
  · have hle : (1048576 : Int) < (len : Int) := by omega
    go_enter Try.func4, Try.ntmps4
    go_wp2_with fail
    go_ret
    exact ⟨rfl, Below.refl _ _⟩
end Go.Proofs.Ytoiacbdnkkolmaa
