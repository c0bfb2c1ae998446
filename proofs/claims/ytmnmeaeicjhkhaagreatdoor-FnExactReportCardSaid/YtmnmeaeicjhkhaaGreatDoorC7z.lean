import Derived.Test.YtmnmeaeicjhkhaaGreatDoorC4z
import Derived.Test.YtmnmeaeicjhkhaaGreatDoorGCbz
import Derived.Test.YtmnmeaeicjhkhaaGreatDoorGLz
namespace Go.Proofs.YtmnmeaeicjhkhaaGreatDoor
open Go.RowKit Go.Lib

theorem field_top (a b c : Value) (w : World) : (Instr.field 119 (.agg #[a, b, c]) 1).run Tryz.prog w = .ok b w := by kernel_rfl

/-- Integers as open calls of these fns. -/
def asFrs (zs : List Int) : List Fr := zs.map fun x => ⟨x, 0, 0⟩

theorem hasFn_frs (zs : List Int) (i : Nat) : hasFn (asFrs zs) i = decide ((i : Int) ∈ zs) := by
  unfold hasFn asFrs
  rw [List.any_map]
  by_cases h : (i : Int) ∈ zs
  · rw [decide_eq_true h, List.any_eq_true]
    exact ⟨_, h, by simp⟩
  · rw [decide_eq_false h, List.any_eq_false]
    intro x hx
    simp only [Function.comp, decide_eq_true_eq]
    exact fun e => h (e ▸ hx)

theorem hasFn_of {l : List Fr} {zs : List Int} (h : FnsOf l zs) (i : Nat) : hasFn (asFrs zs) i = hasFn l i := by
  rw [hasFn_frs]
  unfold hasFn
  by_cases e : (i : Int) ∈ zs
  · rw [decide_eq_true e]
    obtain ⟨fr, h1, h2⟩ := (h.2 _).1 e
    exact (List.any_eq_true.2 ⟨fr, h1, by simpa using h2⟩).symm
  · rw [decide_eq_false e]
    exact (List.any_eq_false.2 (fun fr hf => by simp only [decide_eq_true_eq]; exact fun h2 => e ((h.2 _).2 ⟨fr, hf, h2⟩))).symm

theorem notyet {zs : List Int} (h : zs.Pairwise (· < ·)) (q : Nat) (hq : q < zs.length) : zs[q] ∉ zs.take q := by
  intro hm
  obtain ⟨j, hj, e⟩ := List.getElem_of_mem hm
  have hj' : j < q := by simp at hj; omega
  rw [List.getElem_take] at e
  have := List.pairwise_iff_getElem.1 h j q (by omega) hq hj'
  omega

theorem upto_k (n k : Nat) (h : k < n) : upto n (k : Int) = k + 1 := by unfold upto; omega

theorem asFrs_next (zs : List Int) (q : Nat) (hq : q < zs.length) : asFrs (zs.take (q + 1)) = asFrs (zs.take q) ++ [⟨zs[q], 0, 0⟩] := by
  unfold asFrs
  rw [take_next zs q hq, List.map_append]
  rfl

/-- At a line something is open in the running task. -/
theorem runs_line {nf : Nat} {fns : Nat → ByteArray} {n : Nat} {f : Nat → M} (h : Sound nf fns n f) (k : Nat) (hk : k < n) (h1 : (f k).kind = 1) : runs f (k + 1) ≠ [] := by
  have hc := h.2.2 k hk
  unfold codeAt code at hc
  rw [if_neg (by omega)] at hc
  have ht : (f k).task = (St.after f k).cur := by
    by_cases e : (f k).task = (St.after f k).cur
    · exact e
    · rw [if_pos e] at hc; omega
  rw [if_neg (by omega), if_neg (by omega)] at hc
  by_cases hf : (f k).fn = topFn ((St.after f k).tasks (St.after f k).cur)
  · rw [if_neg (by simpa using hf), if_pos h1] at hc
    have e : runs f (k + 1) = setLine (f k).line ((St.after f k).tasks (St.after f k).cur) := by
      show ((St.after f k).step _ _ _ _ _).tasks ((St.after f k).step _ _ _ _ _).cur = _
      unfold St.step
      rw [if_neg (by omega), if_neg (by omega), if_pos h1]
      simp [St.put]
    rw [e]
    cases hl : (St.after f k).tasks (St.after f k).cur with
    | nil => rw [hl] at hc; simp at hc
    | cons a r => simp [setLine]
  · rw [if_pos hf] at hc; omega

set_option maxRecDepth 100000 in
set_option maxHeartbeats 4000000 in
theorem implFnCounts_any (hso : SortsInts) (hco : CompactsInts) (lo : Nat) (v1 v2 : Value) (nf : Nat) (fns : Nat → ByteArray) (n : Nat) (f : Nat → M) (w : World) (h1 : StrsAt lo w v1 nf fns) (h2 : MomsAt lo w v2 n f) :
    Calls Tryz.prog 19 #[.agg #[v1, v2]] w fun e w' => (∃ v n' F, e = .returned v ∧ FcAns nf fns n f n' F ∧ RowsAt w.heap.size w' v 4 n' F) ∧ Below w.heap.size w w' := by
  have H1 := hide h1
  have H2 := hide h2
  have HSO := hide hso
  have HCO := hide hco
  clear hso hco
  obtain ⟨a1, cap1, rfl, hn1, -⟩ := h1
  obtain ⟨a2, cap2, rfl, hn2, -⟩ := h2
  unfold maxLen at hn1 hn2
  have T0 := hide (TrBox.new w (.slice a1 nf cap1) (.slice a2 n cap2))
  go_enter Tryz.func19, Tryz.ntmps19
  go_wp2_with fail
  refine (readTrace_any lo _ _ nf fns n f _ ((unhide H1).below (unhide T0).below) ((unhide H2).below (unhide T0).below)).mono ?_
  rintro e w1 ⟨⟨pv, c, m, rfl, ha, hp, pa, pn, pc, rfl⟩, hb1⟩
  have BA := hide (below_new w1 (.cells #[.int .i64 c, .int .i64 m] 49))
  have T1 := hide (((unhide T0).go hb1).go (unhide BA))
  clear hb1 T0
  by_cases hc : c = 0
  · have hS := ha.zero.1.1 hc
    have HS := hide hS
    have hm := ha.zero.2 hc
    have HP := hide ((hp hc).below (unhide BA))
    have hnf : nf ≤ 300 := hS.1.2.1
    have hnf0 : nf ≠ 0 := hS.1.1
    have hn3 : n ≤ 3000 := hS.1.2.2.1
    subst hm
    subst hc
    clear ha hp hS
    obtain ⟨mc, hmc⟩ : ∃ mc, mc = madeCells #[.int .i64 0, .int .i64 0, .int .i64 0, .int .i64 0] (nf * 4) := ⟨_, rfl⟩
    have hmk : ∀ w, (Instr.makeSlice 51 (.int .i64 nf) (.int .i64 nf)).run Tryz.prog w = .ok (.slice (some ⟨w.heap.size, 0, none⟩) nf nf) (w.alloc (.cells mc 97)) := fun w => by
      rw [hmc]
      exact run_make_many (P := Tryz.prog) 51 97 _ _ _ Tryz.underlying51 info_FnCount nf (by omega) (by omega) w
    go_upto_region 4 with fail
    generalize w1.alloc (.cells #[.int .i64 0, .int .i64 0] 49) = wp at T1 HP ⊢
    clear BA
    have g0 := (unhide T1).b0
    have HR0 : Hid (Rows 97 wp.heap.size (wp.alloc (.cells mc 97)) 4 nf (fun _ _ => 0)) := by rw [hmc]; exact hide (Rows.made wp nf)
    have HW0 := hide (below_new wp (.cells mc 97))
    have hwl : w.heap.size + 1 ≤ wp.heap.size := (unhide T1).size
    clear hmc
    go_wp2_with fail
    go_loopw [6, 25] (fun _ i W => ∃ (k : Nat), k ≤ nf ∧ i = .int .i64 k ∧ Rows 97 wp.heap.size W 4 nf (fun i j => if i < k ∧ j = 0 then (i : Int) else 0) ∧ Below wp.heap.size wp W) (fun _ i _ => nf - (intOf i).toNat)
    case atStart => exact ⟨0, by omega, rfl, (unhide HR0).congr (fun i j _ _ => by simp), unhide HW0⟩
    case round =>
      clear HR0 HW0 g0 hmk
      obtain ⟨k, hk, rfl, hr, hbp⟩ := hrel
      have HR := hide hr
      have HBP := hide hbp
      clear hr hbp
      by_cases hlt : k < nf
      · have hi0 : (0 : Int) ≤ (k : Int) := by omega
        have hi1 : (k : Int) < (nf : Int) := by omega
        obtain ⟨c0, f0⟩ := (unhide HR).cell k 0 hlt (by omega)
        rw [Nat.add_zero] at c0 f0
        go_wp2_with fail
        go_roundw
        case rel =>
          refine ⟨k + 1, by omega, by go_num, ((unhide HR).set k 0 (by omega) k).congr (fun i j hi hj => ?_), (unhide HBP).setCell (p := ⟨wp.heap.size, k * 4, none⟩) (Nat.le_refl _) _⟩
          by_cases e : i = k ∧ j = 0
          · rw [if_pos e, if_pos (by omega)]; omega
          · rw [if_neg e]
            by_cases e2 : i < k ∧ j = 0
            · rw [if_pos e2, if_pos (by omega)]
            · rw [if_neg e2, if_neg (by omega)]
        case measure => simp [intOf]; omega
      · have e : nf = k := by omega
        subst e
        clear hk hlt
        have HT := hide ((unhide T1).go (unhide HBP))
        have g1 := (unhide HT).b1
        obtain ⟨c1, f1⟩ := (unhide HR).cell 0 1 (by omega) (by omega)
        rw [Nat.zero_mul, Nat.zero_add] at c1 f1
        have hk0 : (0 : Int) < (nf : Int) := by omega
        have hne1 : wp.heap.size ≠ w.heap.size := by omega
        have HR1 := hide (((unhide HR).set 0 1 (by omega) 1).congr (G := fcRow f 0) (fun i j hi hj => by
          show _ = if j = 0 then (i : Int) else if j = 1 ∧ i = 0 then 1 else 0
          by_cases e : i = 0 ∧ j = 1
          · rw [if_pos e, if_neg (by omega), if_pos (by omega)]
          · rw [if_neg e]
            by_cases e2 : j = 0
            · rw [if_pos ⟨hi, e2⟩, if_pos e2]
            · rw [if_neg (by omega), if_neg e2, if_neg (by omega)]))
        have HB1 := hide ((unhide HBP).setCell (p := ⟨wp.heap.size, 0 * 4 + 1, none⟩) (Nat.le_refl _) (.int .i64 1))
        rw [Nat.zero_mul, Nat.zero_add] at HR1 HB1
        clear HR HBP HT
        obtain ⟨b, hbe⟩ : ∃ b, b = wp.heap.size := ⟨_, rfl⟩
        go_wp2_with fail
        go_loopg [7, 40] n (fun gg _ i W => ∃ (k : Nat), k + gg = n ∧ i = .int .i64 k ∧ Rows 97 wp.heap.size W 4 nf (fcRow f k) ∧ Below wp.heap.size wp W)
        case atStart => exact ⟨0, by omega, rfl, unhide HR1, unhide HB1⟩
        case round =>
          clear HR1 HB1 g1 c1 f1 hbe b
          obtain ⟨k, hk, rfl, hr, hbp⟩ := hrel
          have HR := hide hr
          have HBP := hide hbp
          have HT := hide ((unhide T1).go hbp)
          clear hr hbp
          by_cases hlt : k < n
          · obtain ⟨_, _, e, _, hv⟩ := (unhide H2).below (unhide HT).below
            cases e
            obtain ⟨bm, om, vv, rfl, hc0, hc1, hc2, hc3, hc4, hc5, -, hs2, -⟩ := hv k hlt
            clear hv
            obtain ⟨av, capv, rfl, -⟩ := hs2
            have hmo := (unhide HS).2.1 k hlt
            have hf1 : 0 ≤ (f k).fn := hmo.1.2.2.2.2.1
            have hf2 : (f k).fn < nf := hmo.1.2.2.2.2.2.1
            clear hmo
            have hkn : (k : Int) < (n : Int) := by omega
            have hkz : (0 : Int) ≤ (k : Int) := by omega
            obtain ⟨fnn, hfn⟩ := Int.eq_ofNat_of_zero_le hf1
            have hfnn : fnn < nf := by omega
            have HFN := hide hfn
            rw [hfn] at hc2
            have hj0 : (0 : Int) ≤ (fnn : Int) := by omega
            have hj1 : (fnn : Int) < (nf : Int) := by omega
            have hbw : wp.heap.size < wr.heap.size := (unhide HR).lt
            have hne2 : wp.heap.size ≠ wr.heap.size := by omega
            clear hf1 hf2 hfn
            generalize hkk : (f k).kind = kk at hc0
            have HKK := hide hkk
            clear hkk
            by_cases k2 : kk = 2
            · have k2b : (kk == 2) = true := by simpa using k2
              have HK2 := hide k2
              clear k2
              obtain ⟨c1, f1⟩ := (unhide HR).cell fnn 1 hfnn (by omega)
              have hx := fcRow_bound f fnn 1 (by omega) k
              generalize hxx : fcRow f k fnn 1 = x at c1 hx
              have HXX := hide hxx
              have wx : IntKind.i64.wrap (x + 1) = x + 1 := by rw [IntKind.wrap_i64]; omega
              clear hxx
              go_wp2_with fail
              go_roundg (n - (k + 1))
              case measure => omega
              case rel =>
                refine ⟨k + 1, by omega, by go_num, (((unhide HR).set fnn 1 (by omega) (x + 1)).congr (fun i j hi hj => ?_)).below (below_new _ _), ((unhide HBP).setCell (p := ⟨wp.heap.size, fnn * 4 + 1, none⟩) (Nat.le_refl _) _).trans ((below_new _ _).mono (by simp; omega))⟩
                rw [fcRow_succ]
                unfold fcAdd
                rw [unhide HKK, if_pos (unhide HK2), unhide HFN, ← unhide HXX]
                by_cases e : i = fnn ∧ j = 1
                · rw [if_pos e, if_pos (by omega), e.1, e.2]
                · rw [if_neg e, if_neg (by omega)]; omega
            · have k2b : (kk == 2) = false := by simpa using k2
              by_cases k1 : kk = 1
              · have k1b : (kk == 1) = true := by rw [k1]; rfl
                have HK1 := hide k1
                have HNE := hide (runs_line (unhide HS) k hlt (by rw [unhide HKK]; exact k1))
                clear k1 k2
                obtain ⟨c2, f2⟩ := (unhide HR).cell fnn 2 hfnn (by omega)
                have hx := fcRow_bound f fnn 2 (by omega) k
                generalize hxx : fcRow f k fnn 2 = x at c2 hx
                have wx : IntKind.i64.wrap (x + 1) = x + 1 := by rw [IntKind.wrap_i64]; omega
                have HR3 := hide ((((unhide HR).set fnn 2 (by omega) (x + 1)).congr (G := fcIn f k fnn (asFrs ([].take 0))) (fun i j hi hj => by
                  unfold fcIn
                  by_cases e : i = fnn ∧ j = 2
                  · rw [if_pos e, if_pos ⟨e.2, e.1⟩, e.1, e.2, hxx]
                  · rw [if_neg e, if_neg (fun h => e ⟨h.2, h.1⟩), if_neg (by simp [hasFn, asFrs])]; omega)).below (below_new _ (.cells #[.int .i64 kk, .int .i64 (f k).task, .int .i64 fnn, .int .i64 (f k).line, .string (f k).text, .slice av (f k).nv capv] 108)))
                have HB3 : Hid (Below wp.heap.size wp ((wr.setCell ⟨wp.heap.size, fnn * 4 + 2, none⟩ (.int .i64 (x + 1))).alloc (.cells #[.int .i64 kk, .int .i64 (f k).task, .int .i64 fnn, .int .i64 (f k).line, .string (f k).text, .slice av (f k).nv capv] 108))) := hide (((unhide HBP).setCell (p := ⟨wp.heap.size, fnn * 4 + 2, none⟩) (Nat.le_refl _) _).trans ((below_new _ _).mono (by simp; omega)))
                clear hxx
                go_upto_region 19 with fail
                generalize (wr.setCell ⟨wp.heap.size, fnn * 4 + 2, none⟩ (.int .i64 (x + 1))).alloc (.cells #[.int .i64 kk, .int .i64 (f k).task, .int .i64 fnn, .int .i64 (f k).line, .string (f k).text, .slice av (f k).nv capv] 108) = W3 at HR3 HB3 ⊢
                clear c2 f2 hc0 hc1 hc2 hc3 hc4 hc5 wx hx k1b k2b HR HBP HT hbw hne2
                go_wp2_with fail
                refine (placeAt_any _ _ n f k _ ((unhide HP).below (unhide HB3)) hn3 (by omega) (by omega)).mono ?_
                rintro e w4 ⟨⟨top, bw, rfl, hpl⟩, hb4⟩
                rw [upto_k n k hlt] at hpl
                have HR4 := hide ((unhide HR3).below hb4)
                have HB4 := hide ((unhide HB3).trans (hb4.mono (unhide HB3).size))
                have hb4w : wp.heap.size < w4.heap.size := (unhide HR4).lt
                have HPL := hide hpl
                generalize ((St.after f (upto n (k : Int))).cur : Int) = cu
                have hft := field_top (.int .i64 cu) (.pointer top) (.pointer (some ⟨bw, 0, none⟩))
                clear hpl hb4 HR3 HB3
                go_wp2_with fail
                refine (fns_any (unhide HSO) (unhide HCO) (runs f (k + 1)) top _ (unhide HPL).1 ((unhide HPL).2.2.2 _ (unhide HPL).2.2.1).1 (unhide HNE)).mono ?_
                rintro e w5 ⟨⟨v, zs, rfl, hfo, hin, hzl⟩, hb5⟩
                have HR5 := hide ((unhide HR4).below hb5)
                have HB5 := hide ((unhide HB4).trans (hb5.mono (by omega)))
                have HFO := hide hfo
                have HIN := hide hin
                obtain ⟨za, zc, rfl, _⟩ := hin
                clear hft hfo hb5 HR4 HB4 HPL
                go_wp2_with fail
                go_loopg [10, 75] zs.length (fun gg _ i W => ∃ (q : Nat), q + gg = zs.length ∧ i = .int .i64 q ∧ Rows 97 wp.heap.size W 4 nf (fcIn f k fnn (asFrs (zs.take q))) ∧ Below wp.heap.size wp W ∧ IntsAt w4.heap.size W (.slice za zs.length zc) zs)
                case atStart => exact ⟨0, by omega, rfl, by simpa using unhide HR5, unhide HB5, unhide HIN⟩
                case round =>
                  clear HR5 HB5 HIN
                  obtain ⟨q, hq, rfl, hr, hbp, hin⟩ := hrel
                  have HR := hide hr
                  have HBP := hide hbp
                  have HIN := hide hin
                  clear hr hbp
                  by_cases hql : q < zs.length
                  · obtain ⟨_, _, ez, hzc⟩ := hin
                    cases ez
                    obtain ⟨zb, rfl, hzb, zcell⟩ := hzc q hql
                    obtain ⟨fr, hfr1, hfr2⟩ := ((unhide HFO).2 _).1 (List.getElem_mem hql)
                    have hrg := after_fns (unhide HS) (k + 1) (by omega) _ fr hfr1
                    rw [hfr2] at hrg
                    obtain ⟨fq, hfq⟩ := Int.eq_ofNat_of_zero_le hrg.1
                    have hfq2 : fq < nf := by omega
                    have HNX := hide (asFrs_next zs q hql)
                    have HNY : Hid (hasFn (asFrs (zs.take q)) fq = false) := hide (by rw [hasFn_frs, ← hfq]; exact decide_eq_false (notyet (unhide HFO).1 q hql))
                    have HFQ := hide hfq
                    rw [hfq] at zcell
                    obtain ⟨rc, rf⟩ := (unhide HR).cell fq 3 hfq2 (by omega)
                    have hx3 := fcIn_bound f k fnn (asFrs (zs.take q)) fq
                    generalize hx3e : fcIn f k fnn (asFrs (zs.take q)) fq 3 = x3 at rc hx3
                    have HX3 := hide hx3e
                    have wx3 : IntKind.i64.wrap (x3 + 1) = x3 + 1 := by rw [IntKind.wrap_i64]; omega
                    obtain ⟨zl, hzle⟩ : ∃ zl, zl = zs.length := ⟨_, rfl⟩
                    rw [← hzle] at hql hzl
                    have hq0 : (0 : Int) ≤ (q : Int) := by omega
                    have hq1 : (q : Int) < (zl : Int) := by omega
                    have hq2 : (0 : Int) ≤ (fq : Int) := by omega
                    have hq3 : (fq : Int) < (nf : Int) := by omega
                    rw [← hzle]
                    have HZLE := hide hzle
                    have HQ := hide hq
                    clear hzc hfr1 hfr2 hrg hfq hx3e hzle hq
                    go_wp2_with fail
                    have ezl := unhide HZLE
                    subst ezl
                    have hq := unhide HQ
                    go_roundg (zs.length - (q + 1))
                    case measure => omega
                    case rel =>
                      refine ⟨q + 1, by omega, by go_num, ?_, (unhide HBP).setCell (p := ⟨wp.heap.size, fq * 4 + 3, none⟩) (Nat.le_refl _) _, (unhide HIN).other hb4w⟩
                      rw [unhide HNX]
                      refine ((unhide HR).set fq 3 (by omega) (x3 + 1)).congr (fun i j _ _ => ?_)
                      rw [← unhide HX3]
                      exact fcIn_take (unhide HFQ) (unhide HNY) i j
                  · have e : q = zs.length := by omega
                    subst e
                    clear hin
                    go_wp2_with fail
                    go_roundg (n - (k + 1))
                    case measure => omega
                    case rel =>
                      have hr := unhide HR
                      rw [List.take_of_length_le (Nat.le_refl _)] at hr
                      exact ⟨k + 1, by omega, by go_num, hr.congr (fun i j hi hj => fcIn_all (by rw [unhide HKK]; exact unhide HK1) (unhide HFN) _ (fun i => hasFn_of (unhide HFO) i) i j), unhide HBP⟩
              · have k1b : (kk == 1) = false := by simpa using k1
                have HK := hide (And.intro k1 k2)
                clear k1 k2
                go_wp2_with fail
                go_roundg (n - (k + 1))
                case measure => omega
                case rel =>
                  refine ⟨k + 1, by omega, by go_num, ((unhide HR).congr (fun i j hi hj => ?_)).below (below_new _ _), (unhide HBP).trans ((below_new _ _).mono (by omega))⟩
                  rw [fcRow_succ]
                  unfold fcAdd
                  rw [unhide HKK, if_neg (unhide HK).2, if_neg (unhide HK).1]
                  omega
          · have e : n = k := by omega
            subst e
            have hnk : ¬ ((n : Int) < (n : Int)) := by omega
            go_wp2_with fail
            go_ret
            exact ⟨⟨_, rfl, nf, fcRow f n, .inl ⟨unhide HS, rfl, fun _ _ _ _ => rfl⟩, (unhide HR).rowsAt (by omega)⟩, (unhide HT).below⟩
  · have HN : Hid (¬ Sound nf fns n f) := hide (fun h => hc (ha.zero.1.2 h))
    have hcb : (c == 0) = false := by simpa using hc
    clear ha hp hc
    go_wp2_with fail
    go_ret
    exact ⟨⟨_, 0, fun _ _ => 0, rfl, .inr ⟨unhide HN, rfl⟩, RowsAt.nil _ _ _ _⟩, (unhide T1).below⟩
end Go.Proofs.YtmnmeaeicjhkhaaGreatDoor
