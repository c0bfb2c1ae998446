import Derived.Test.YtoiacbdnkkolmaaQ1z
import Derived.Test.YtoiacbdnkkolmaaGJbz
import Derived.Test.YtoiacbdnkkolmaaC4z
import Derived.Test.YtoiacbdnkkolmaaC7z
import Derived.Test.YtoiacbdnkkolmaaGCcz
import Derived.Test.YtoiacbdnkkolmaaGDcz
import Derived.Deep.LoopGhost
import Derived.Deep.RegionHeld3
import Derived.Deep.DeepCutAuto
namespace Go.Proofs.Ytoiacbdnkkolmaa
open Go.RowKit Go.Lib

theorem RowsAt.setOther {lo : Nat} {w : World} {v : Value} {z n : Nat} {F : Nat → Nat → Int} {b : Nat} (h : RowsAt lo w v z n F) (hb : b < lo) (o : Nat) (u : Value) : RowsAt lo (w.setCell ⟨b, o, none⟩ u) v z n F := by
  obtain ⟨a, cap, hv, h⟩ := h
  refine ⟨a, cap, hv, fun i hi => ?_⟩
  obtain ⟨b', ha, hl, hc⟩ := h i hi
  refine ⟨b', ha, hl, fun j hj => ⟨?_, by rw [World.frozen?_setCell]; exact (hc j hj).2⟩⟩
  rw [World.cell?_setCell_other _ _ _ _ (fun e => by have := congrArg Addr.block e; simp at this; omega)]
  exact (hc j hj).1

theorem box3_set {W : World} {b : Nat} {t : TypeId} {x0 x1 x2 : Value} (h : W.heap[b]? = some (.cells #[x0, x1, x2] t (0, 0))) (y0 y1 y2 : Value) :
    (((W.setCell ⟨b, 0, none⟩ y0).setCell ⟨b, 1, none⟩ y1).setCell ⟨b, 2, none⟩ y2).heap[b]? = some (.cells #[y0, y1, y2] t (0, 0)) := by
  simp [World.setCell, Array.getElem?_modify, h]

theorem lc_fn0 {nf : Nat} {fns : Nat → ByteArray} {n : Nat} {f : Nat → M} {l : List Lc} (hS : Sound nf fns n f) (h : LcIs f n l) {q : Nat} (hq : q < l.length) : -1 < l[q].fn := by
  have h1 := h.cnt l[q] (List.getElem_mem hq)
  obtain ⟨i, hi, e1, e2⟩ := lcN_from (f := f) (a := l[q].fn) (b := l[q].line) (k := n) (by omega)
  have := fn_in hS i hi
  omega

set_option maxRecDepth 100000 in
set_option maxHeartbeats 40000000 in
theorem fnCounts_any (hdr : DrawsWell) (hso : SortsInts) (hco : CompactsInts) (v : Value) (len : Nat) (w : World) (h : BytesAt w v len) :
    Calls Try.prog 3 #[v] w fun e w' => e = .returned (.bool true) ∧ Below w.heap.size w w' := by
  have H := hide h
  have HDR := hide hdr
  have HSO := hide hso
  have HCO := hide hco
  obtain ⟨a, cap, rfl, _⟩ := h
  clear hdr hso hco
  by_cases hlen : len ≤ 1048576
  · have hle2 : decide ((1048576 : Int) < (len : Int)) = false := by simp; omega
    go_enter Try.func3, Try.ntmps3
    go_wp2_with fail
    refine (unhide HDR _ len _ (unhide H) hlen).mono ?_
    rintro e wd ⟨⟨v1, v2, n, ms, rfl, hn, hs, hm, hso⟩, hb⟩
    obtain ⟨f, hf⟩ : ∃ f, f = momOf ms := ⟨_, rfl⟩
    rw [← hf] at hm hso
    clear hf
    have DS := hide hs
    have DM := hide hm
    have DD := hide hso
    have HB := hide hb
    obtain ⟨a1, cap1, rfl, _⟩ := hs
    obtain ⟨a2, cap2, rfl, _⟩ := hm
    clear hso hb hle2 H HDR hlen
    have T0 := hide (TrBox.new wd (.slice a1 4 cap1) (.slice a2 n cap2))
    go_upto_region 6 with fail
    generalize wd.alloc (.cells #[.slice a1 4 cap1, .slice a2 n cap2] 26) = W0 at T0 ⊢
    have g1 := (unhide T0).b1
    go_wp2_with fail
    go_loopg [4, 5, 30] n (fun gg ln cl i W => ∃ (k : Nat), k + gg = n ∧ ln = .int .i64 (lnN f k) ∧ cl = .int .i64 (1 + clN f k) ∧ i = .int .i64 k ∧ TrBox wd (.slice a1 4 cap1) (.slice a2 n cap2) W)
    case atStart => exact ⟨0, by omega, rfl, rfl, rfl, unhide T0⟩
    case round =>
      clear T0 g1
      obtain ⟨k, hk, rfl, rfl, rfl, ht⟩ := hrel
      have HT := hide ht
      clear ht
      have hln := lnN_bound f k
      have hcl := clN_bound f k
      by_cases hlt : k < n
      · as_aux_lemma =>
          obtain ⟨_, _, e, _, hv⟩ := (unhide DM).below (unhide HT).below
          cases e
          obtain ⟨bm, om, vv, rfl, hc0, hc1, hc2, hc3, hc4, hc5, -, hs2, -⟩ := hv k hlt
          clear hv
          obtain ⟨av, capv, rfl, -⟩ := hs2
          have hkn : (k : Int) < (n : Int) := by omega
          have hkz : (0 : Int) ≤ (k : Int) := by omega
          have wq : IntKind.i64.wrap ((k : Int) + 1) = ((k + 1 : Nat) : Int) := by rw [IntKind.wrap_i64]; omega
          have wl : IntKind.i64.wrap (lnN f k + 1) = lnN f k + 1 := by rw [IntKind.wrap_i64]; omega
          have wc : IntKind.i64.wrap (1 + clN f k + 1) = 1 + clN f k + 1 := by rw [IntKind.wrap_i64]; omega
          have H1 := hide (lnN_succ f k)
          have H2 := hide (clN_succ f k)
          generalize hkk : (f k).kind = kk at hc0 H1 H2
          have HBA := hide (below_new wr (.cells #[.int .i64 kk, .int .i64 (f k).task, .int .i64 (f k).fn, .int .i64 (f k).line, .string (f k).text, .slice av (f k).nv capv] 30))
          clear hkk
          by_cases k1 : kk = 1
          · have k1b : (kk == 1) = true := by simpa using k1
            have k2b : (kk == 2) = false := by rw [k1]; rfl
            have E1 : Hid (lnN f (k + 1) = lnN f k + 1) := hide (by rw [unhide H1, if_pos k1])
            have E2 : Hid (clN f (k + 1) = clN f k) := hide (by rw [unhide H2, if_neg (by omega)]; omega)
            clear k1
            go_wp2_with fail
            go_roundg (n - (k + 1))
            case measure => omega
            case rel => exact ⟨k + 1, by omega, by rw [unhide E1], by rw [unhide E2], by go_num, (unhide HT).go (unhide HBA)⟩
          · have k1b : (kk == 1) = false := by simpa using k1
            by_cases k2 : kk = 2
            · have k2b : (kk == 2) = true := by simpa using k2
              have E1 : Hid (lnN f (k + 1) = lnN f k) := hide (by rw [unhide H1, if_neg k1]; omega)
              have E2 : Hid (1 + clN f (k + 1) = 1 + clN f k + 1) := hide (by rw [unhide H2, if_pos k2]; omega)
              clear k1 k2
              go_wp2_with fail
              go_roundg (n - (k + 1))
              case measure => omega
              case rel => exact ⟨k + 1, by omega, by rw [unhide E1], by rw [unhide E2], by go_num, (unhide HT).go (unhide HBA)⟩
            · have k2b : (kk == 2) = false := by simpa using k2
              have E1 : Hid (lnN f (k + 1) = lnN f k) := hide (by rw [unhide H1, if_neg k1]; omega)
              have E2 : Hid (clN f (k + 1) = clN f k) := hide (by rw [unhide H2, if_neg k2]; omega)
              clear k1 k2
              go_wp2_with fail
              go_roundg (n - (k + 1))
              case measure => omega
              case rel => exact ⟨k + 1, by omega, by rw [unhide E1], by rw [unhide E2], by go_num, (unhide HT).go (unhide HBA)⟩
      · obtain rfl : k = n := by omega
        clear hlt hk
        as_aux_lemma =>
          obtain ⟨ln, hln'⟩ : ∃ ln, ln = lnN f k := ⟨_, rfl⟩
          obtain ⟨cl, hcl'⟩ : ∃ cl, cl = clN f k := ⟨_, rfl⟩
          have HLN := hide hln'
          have HCL := hide hcl'
          rw [← hln'] at hln
          rw [← hcl'] at hcl
          rw [← hln', ← hcl']
          clear hln' hcl'
          have g0 := (unhide HT).b0
          have g1 := (unhide HT).b1
          have T2 := hide ((unhide HT).go (below_new wr (.cells #[.int .i64 (-1), .int .i64 0, .int .i64 0] 32)))
          have HLB := hide (heap_alloc_new wr (.cells #[.int .i64 (-1), .int .i64 0, .int .i64 0] 32))
          go_upto_region 16 with fail
          obtain ⟨lb, hlb⟩ : ∃ lb, lb = wr.heap.size := ⟨_, rfl⟩
          have hlbT : wd.heap.size + 1 ≤ lb := by rw [hlb]; exact (unhide HT).size
          have hlbs : lb < (wr.alloc (.cells #[.int .i64 (-1), .int .i64 0, .int .i64 0] 32)).heap.size := by rw [hlb]; simp
          rw [← hlb] at HLB ⊢
          generalize wr.alloc (.cells #[.int .i64 (-1), .int .i64 0, .int .i64 0] 32) = W2 at T2 HLB hlbs ⊢
          clear hlb HT g0 g1
          have g0 := (unhide T2).b0
          have g1 := (unhide T2).b1
          go_wp2_with fail
          refine (implLineCounts_any _ _ _ 4 drawnFns k f _ ((unhide DS).below (unhide T2).below) ((unhide DM).below (unhide T2).below)).mono ?_
          rintro e w3 ⟨⟨rv, rn, F, rfl, hans, hrow⟩, hb3⟩
          obtain ⟨l, hli, rfl, hF⟩ := (hans.resolve_right (fun h => h.1 (unhide DD))).2
          clear hans
          have HLI := hide hli
          have HSM : Hid (lsum Lc.cnt l = ln) := hide (by rw [unhide HLN]; exact hli.sum)
          have HPO : Hid (∀ x, x ∈ l → 0 ≤ Lc.cnt x) := hide (fun x hx => by have := (hli.cnt x hx).2; omega)
          have hll : l.length ≤ k := hli.len
          have HR := hide (hrow.congr (G := fun i j => if h : i < l.length then lcCell l[i] j else 0) (fun i j hi hj => by rw [dif_pos hi]; exact hF i j hi hj))
          obtain ⟨ra, rc, rfl⟩ := hrow.shape
          have T3 := hide ((unhide T2).go hb3)
          have HLB3 := hide ((hb3.block lb hlbs).trans (unhide HLB))
          obtain ⟨B, hB⟩ : ∃ B, B = W2.heap.size := ⟨_, rfl⟩
          rw [← hB] at HR hlbs
          have hB3 : B ≤ w3.heap.size := by rw [hB]; exact hb3.size
          clear hB hli hF hrow hb3 T2 HLB g0 g1
          go_wp2_with fail
          go_loopg [8, 49] l.length (fun gg by_ i W => ∃ (q : Nat) (y0 y1 y2 : Int), q + gg = l.length ∧ by_ = .int .i64 (lsum Lc.cnt (l.take q)) ∧ i = .int .i64 q ∧ W.heap[lb]? = some (.cells #[.int .i64 y0, .int .i64 y1, .int .i64 y2] 32 (0, 0)) ∧ (∀ h : q < l.length, y0 < l[q].fn ∨ (y0 = l[q].fn ∧ y1 < l[q].line)) ∧ RowsAt B W (.slice ra l.length rc) 3 l.length (fun i j => if h : i < l.length then lcCell l[i] j else 0) ∧ TrBox wd (.slice a1 4 cap1) (.slice a2 k cap2) W)
          case atStart => exact ⟨0, -1, 0, 0, by omega, rfl, rfl, unhide HLB3, fun h => .inl (lc_fn0 (unhide DD) (unhide HLI) h), unhide HR, unhide T3⟩
          case round =>
            clear HLB3 HR T3 hB3
            obtain ⟨q, y0, y1, y2, hq, rfl, rfl, hlb, hfit, hr, ht⟩ := hrel
            have HLB := hide hlb
            have HR := hide hr
            have HT := hide ht
            by_cases hql : q < l.length
            · as_aux_lemma =>
                have hft := hfit hql
                obtain ⟨_, _, ec, hrow⟩ := hr
                cases ec
                obtain ⟨rb, rfl, hrb, hcr⟩ := hrow q hql
                have e0 := (hcr 0 (by omega)).1
                have e1 := (hcr 1 (by omega)).1
                have e2 := (hcr 2 (by omega)).1
                dsimp only at e0 e1 e2
                rw [dif_pos hql] at e0 e1 e2
                have hc1 := ((unhide HLI).cnt l[q] (List.getElem_mem hql)).2
                have hp := lsum_part (unhide HPO) q
                have hp2 := lsum_part (unhide HPO) (q + 1)
                have HTK := hide (lsum_take Lc.cnt l q hql)
                rw [unhide HTK] at hp2
                rw [unhide HSM] at hp hp2
                have HNX : Hid (∀ h : q + 1 < l.length, l[q].fn < l[q + 1].fn ∨ (l[q].fn = l[q + 1].fn ∧ l[q].line < l[q + 1].line)) := hide (fun h => List.pairwise_iff_getElem.1 (unhide HLI).sorted q (q + 1) hql h (by omega))
                have d0 : wr.cell? ⟨lb, 0, none⟩ = some (.int .i64 y0) := by rw [cell_of_row wr lb 0 _ _ _ hlb]; rfl
                have d1 : wr.cell? ⟨lb, 1, none⟩ = some (.int .i64 y1) := by rw [cell_of_row wr lb 1 _ _ _ hlb]; rfl
                have d2 : wr.cell? ⟨lb, 2, none⟩ = some (.int .i64 y2) := by rw [cell_of_row wr lb 2 _ _ _ hlb]; rfl
                have z0 : wr.frozen? ⟨lb, 0, none⟩ = false := frozen_of_row _ _ _ _ _ hlb
                have z1 : wr.frozen? ⟨lb, 1, none⟩ = false := frozen_of_row _ _ _ _ _ hlb
                have z2 : wr.frozen? ⟨lb, 2, none⟩ = false := frozen_of_row _ _ _ _ _ hlb
                have hls : lb < wr.heap.size := cell_lt d0
                obtain ⟨r, hr⟩ : ∃ r, r = l[q] := ⟨_, rfl⟩
                rw [← hr] at e0 e1 e2 hc1 hp2 HTK HNX hft
                replace e0 : wr.cell? ⟨rb, q * 3, none⟩ = some (.int .i64 r.fn) := e0
                replace e1 : wr.cell? ⟨rb, q * 3 + 1, none⟩ = some (.int .i64 r.line) := e1
                replace e2 : wr.cell? ⟨rb, q * 3 + 2, none⟩ = some (.int .i64 r.cnt) := e2
                generalize lsum Lc.cnt (l.take q) = sq at hp hp2 HTK
                have hi0 : (0 : Int) ≤ (q : Int) := by omega
                have hi1 : (q : Int) < (l.length : Int) := by omega
                have wi : IntKind.i64.wrap ((q : Int) + 1) = ((q + 1 : Nat) : Int) := by rw [IntKind.wrap_i64]; omega
                have ws : IntKind.i64.wrap (sq + r.cnt) = sq + r.cnt := by rw [IntKind.wrap_i64]; omega
                have n1 : ¬ r.cnt < 1 := by omega
                have n2 : ¬ r.fn < y0 := by omega
                clear hr hrow hcr hlb hfit hp hp2 hc1 ht
                have HBA := hide (below_new wr (.cells #[.int .i64 r.fn, .int .i64 r.line, .int .i64 r.cnt] 32))
                have HT2 : Hid (TrBox wd (.slice a1 4 cap1) (.slice a2 k cap2) ((((wr.setCell ⟨lb, 0, none⟩ (.int .i64 r.fn)).setCell ⟨lb, 1, none⟩ (.int .i64 r.line)).setCell ⟨lb, 2, none⟩ (.int .i64 r.cnt)).alloc (.cells #[.int .i64 r.fn, .int .i64 r.line, .int .i64 r.cnt] 32))) :=
                  hide (TrBox.go (Below.setCell (p := ⟨lb, 2, none⟩) (Below.setCell (p := ⟨lb, 1, none⟩) (Below.setCell (p := ⟨lb, 0, none⟩) (unhide HT) hlbT _) hlbT _) hlbT _) (below_new _ _))
                have HR2 := hide (((((unhide HR).setOther hlbs 0 (.int .i64 r.fn)).setOther hlbs 1 (.int .i64 r.line)).setOther hlbs 2 (.int .i64 r.cnt)).below (below_new _ (.cells #[.int .i64 r.fn, .int .i64 r.line, .int .i64 r.cnt] 32)))
                have HL2 := hide (((below_new _ (.cells #[.int .i64 r.fn, .int .i64 r.line, .int .i64 r.cnt] 32)).block lb (by simp; exact hls)).trans (box3_set (unhide HLB) (.int .i64 r.fn) (.int .i64 r.line) (.int .i64 r.cnt)))
                clear HT HR HLB HBA
                have fin : ∀ P : Prop, P → P := fun _ h => h
                clear fin
                by_cases hf : r.fn = y0
                · have n3 : (r.fn == y0) = true := by simpa using hf
                  have n4 : ¬ r.line ≤ y1 := by omega
                  clear hf hft
                  go_wp2_with fail
                  go_roundg (l.length - (q + 1))
                  case measure => omega
                  case rel => exact ⟨q + 1, _, _, _, by omega, by rw [unhide HTK], by go_num, unhide HL2, unhide HNX, unhide HR2, unhide HT2⟩
                · have n3 : (r.fn == y0) = false := by simpa using hf
                  clear hf hft
                  go_wp2_with fail
                  go_roundg (l.length - (q + 1))
                  case measure => omega
                  case rel => exact ⟨q + 1, _, _, _, by omega, by rw [unhide HTK], by go_num, unhide HL2, unhide HNX, unhide HR2, unhide HT2⟩
            · obtain rfl : q = l.length := by omega
              clear hlb hfit hr ht hq
              rw [List.take_length, unhide HSM]
              clear hql HLB HR HLI HSM HPO hll
              as_aux_lemma =>
              have g0 := (unhide HT).b0
              have g1 := (unhide HT).b1
              go_wp2_with fail
              refine (implFnCounts_any (unhide HSO) (unhide HCO) _ _ _ 4 drawnFns k f _ ((unhide DS).below (unhide HT).below) ((unhide DM).below (unhide HT).below)).mono ?_
              rintro e w4 ⟨⟨cv, cn, F, rfl, hans, hrow⟩, hb4⟩
              obtain ⟨rfl, hF⟩ := (hans.resolve_right (fun h => h.1 (unhide DD))).2
              have HC := hide (hrow.congr (G := fcRow f k) (fun i j hi hj => hF i j hi hj))
              obtain ⟨ca, cc, rfl⟩ := hrow.shape
              have T4 := hide ((unhide HT).go hb4)
              clear hans hF hrow hb4 HT g0 g1
              have g0 := (unhide T4).b0
              have g1 := (unhide T4).b1
              go_wp2_with fail
              refine (specFnCounts_any _ _ _ 4 drawnFns k f _ ((unhide DS).below (unhide T4).below) ((unhide DM).below (unhide T4).below)).mono ?_
              rintro e w5 ⟨⟨sv, sn, F, rfl, hans, hrow⟩, hb5⟩
              obtain ⟨rfl, hF⟩ := (hans.resolve_right (fun h => h.1 (unhide DD))).2
              have HW := hide (hrow.congr (G := fcRow f k) (fun i j hi hj => hF i j hi hj))
              obtain ⟨sa, sc, rfl⟩ := hrow.shape
              have T5 := hide ((unhide T4).go hb5)
              have HC5 := hide ((unhide HC).below hb5)
              clear hans hF hrow hb5 T4 HC g0 g1
              have HSELF : Hid (sumI (fun i => fcRow f k i 2) 4 = ln) := hide (by rw [unhide HLN]; exact fc_selfs (unhide DD) k (Nat.le_refl _))
              have HCALL : Hid (sumI (fun i => fcRow f k i 1) 4 = 1 + cl) := hide (by rw [unhide HCL]; exact fc_calls (unhide DD) k (Nat.le_refl _))
              go_wp2_with fail
              go_loopg [12, 13, 94] 4 (fun gg se al i W => ∃ (q : Nat), q + gg = 4 ∧ se = .int .i64 (sumI (fun i => fcRow f k i 2) q) ∧ al = .int .i64 (sumI (fun i => fcRow f k i 1) q) ∧ i = .int .i64 q ∧ Below w5.heap.size w5 W)
              case atStart => exact ⟨0, by omega, rfl, rfl, rfl, Below.refl _ _⟩
              case round =>
                obtain ⟨q, hq, rfl, rfl, rfl, hbw⟩ := hrel
                have HBW := hide hbw
                clear hbw
                by_cases hql : q < 4
                · as_aux_lemma =>
                    obtain ⟨_, _, ec, hrow⟩ := (unhide HC5).below (unhide HBW)
                    cases ec
                    obtain ⟨cb, rfl, -, hcr⟩ := hrow q hql
                    obtain ⟨_, _, ec, hrow2⟩ := (unhide HW).below (unhide HBW)
                    cases ec
                    obtain ⟨sb, rfl, -, hsr⟩ := hrow2 q hql
                    have c0 := (hcr 0 (by omega)).1
                    have c1 := (hcr 1 (by omega)).1
                    have c2 := (hcr 2 (by omega)).1
                    have c3 := (hcr 3 (by omega)).1
                    have s0 := (hsr 0 (by omega)).1
                    have s1 := (hsr 1 (by omega)).1
                    have s2 := (hsr 2 (by omega)).1
                    have s3 := (hsr 3 (by omega)).1
                    rw [Nat.add_zero] at c0 s0
                    have hto := fc_total (unhide DD) k (Nat.le_refl _) q
                    rw [← unhide HLN] at hto
                    have hp := sumI_part (F := fun i => fcRow f k i 2) (q' := 4) (fun i _ => (fcRow_bound f i 2 (by omega) k).1) q (by omega)
                    have hp1 := sumI_part (F := fun i => fcRow f k i 1) (q' := 4) (fun i _ => (fcRow_bound f i 1 (by omega) k).1) q (by omega)
                    have hx1 := fcRow_bound f q 1 (by omega) k
                    have hx2 := fcRow_bound f q 2 (by omega) k
                    rw [unhide HSELF] at hp
                    rw [unhide HCALL] at hp1
                    have HS2 := hide (sumI_succ (fun i => fcRow f k i 2) q)
                    have HS1 := hide (sumI_succ (fun i => fcRow f k i 1) q)
                    generalize sumI (fun i => fcRow f k i 2) q = y2 at hp HS2
                    generalize sumI (fun i => fcRow f k i 1) q = y1 at hp1 HS1
                    generalize hg0 : fcRow f k q 0 = x0 at c0 s0
                    generalize hg1 : fcRow f k q 1 = x1 at c1 s1 hx1 HS1
                    generalize hg2 : fcRow f k q 2 = x2 at c2 s2 hx2 HS2 hto
                    generalize hg3 : fcRow f k q 3 = x3 at c3 s3 hto
                    have hi0 : (0 : Int) ≤ (q : Int) := by omega
                    have hi1 : (q : Int) < 4 := by omega
                    have wi : IntKind.i64.wrap ((q : Int) + 1) = ((q + 1 : Nat) : Int) := by rw [IntKind.wrap_i64]; omega
                    have w1 : IntKind.i64.wrap (y1 + x1) = y1 + x1 := by rw [IntKind.wrap_i64]; omega
                    have w2 : IntKind.i64.wrap (y2 + x2) = y2 + x2 := by rw [IntKind.wrap_i64]; omega
                    have n1 : ¬ x3 < x2 := by omega
                    have n2 : ¬ ln < x3 := by omega
                    have HBA := hide (below_new wr (.cells #[.int .i64 x0, .int .i64 x1, .int .i64 x2, .int .i64 x3] 38))
                    have HBX := hide (heap_alloc_new wr (.cells #[.int .i64 x0, .int .i64 x1, .int .i64 x2, .int .i64 x3] 38))
                    clear hrow hrow2 hcr hsr hg0 hg1 hg2 hg3 hto hp hp1 hx1 hx2 HSELF HCALL
                    go_upto_region 35 with fail
                    have s0' := cell_below (unhide HBA) s0
                    have s1' := cell_below (unhide HBA) s1
                    have s2' := cell_below (unhide HBA) s2
                    have s3' := cell_below (unhide HBA) s3
                    have HB6 := hide ((unhide HBW).trans ((unhide HBA).mono (unhide HBW).size))
                    obtain ⟨xb, hxb⟩ : ∃ xb, xb = wr.heap.size := ⟨_, rfl⟩
                    rw [← hxb] at HBX ⊢
                    generalize wr.alloc (.cells #[.int .i64 x0, .int .i64 x1, .int .i64 x2, .int .i64 x3] 38) = W6 at HBX HB6 s0' s1' s2' s3' ⊢
                    clear hxb HBA HBW c0 c1 c2 c3 s0 s1 s2 s3
                    have b0 : W6.cell? ⟨xb, 0, none⟩ = some (.int .i64 x0) := by rw [cell_of_row W6 xb 0 _ _ _ (unhide HBX)]; rfl
                    have b1 : W6.cell? ⟨xb, 1, none⟩ = some (.int .i64 x1) := by rw [cell_of_row W6 xb 1 _ _ _ (unhide HBX)]; rfl
                    have b2 : W6.cell? ⟨xb, 2, none⟩ = some (.int .i64 x2) := by rw [cell_of_row W6 xb 2 _ _ _ (unhide HBX)]; rfl
                    have b3 : W6.cell? ⟨xb, 3, none⟩ = some (.int .i64 x3) := by rw [cell_of_row W6 xb 3 _ _ _ (unhide HBX)]; rfl
                    go_quiet (fail)
                    generalize hW7 : W6.drewN _ = W7
                    have HB7 : Hid (Below w5.heap.size w5 W7) := by rw [← hW7]; exact hide ((unhide HB6).trans ((below_drewN' _ _).mono (unhide HB6).size))
                    clear hW7 b0 b1 b2 b3 s0' s1' s2' s3' HBX HB6
                    go_wp2_with fail
                    go_roundg (4 - (q + 1))
                    case measure => omega
                    case rel => exact ⟨q + 1, by omega, by rw [unhide HS2], by rw [unhide HS1], by go_num, unhide HB7⟩
                · obtain rfl : q = 4 := by omega
                  rw [unhide HSELF, unhide HCALL]
                  have T6 := hide ((unhide T5).go (unhide HBW))
                  clear hql hq HBW T5 HC5 HW HSELF HCALL
                  have g0 := (unhide T6).b0
                  have g1 := (unhide T6).b1
                  as_aux_lemma =>
                    go_wp2_with fail
                    refine (implCallTree_any _ _ _ 4 drawnFns k f _ ((unhide DS).below (unhide T6).below) ((unhide DM).below (unhide T6).below)).mono ?_
                    rintro e w7 ⟨⟨tv, tn, F, rfl, hans, hrow⟩, hb7⟩
                    obtain ⟨rfl, hF⟩ := (hans.resolve_right (fun h => h.1 (unhide DD))).2
                    have hts := treeSum f k
                    have hok := treeAt_ok f k
                    have hts1 := hts.calls
                    have hts2 := hts.selfs
                    have hts3 := hts.each
                    have hbl := hok.len
                    have hsm := hok.small
                    rw [← unhide HCL] at hts1
                    rw [← unhide HLN] at hts2
                    clear hts hok hans
                    generalize (treeAt f k).bs = bs at hF hrow hts1 hts2 hts3 hbl hsm
                    have HSC := hide hts1
                    have HSS := hide hts2
                    have HEA := hide hts3
                    have HPC : Hid (∀ x, x ∈ bs → 0 ≤ Br.calls x) := hide (fun x hx => (hsm x hx).1)
                    have HPS : Hid (∀ x, x ∈ bs → 0 ≤ Br.self x) := hide (fun x hx => (hsm x hx).2.2.1)
                    have HR := hide (hrow.congr (G := fun i j => if h : i < bs.length then brCell bs[i] j else 0) (fun i j hi hj => by rw [dif_pos hi]; exact hF i j hi hj))
                    obtain ⟨ta, tc, rfl⟩ := hrow.shape
                    have T7 := hide ((unhide T6).go hb7)
                    clear hts1 hts2 hts3 hsm hF hrow hb7 T6 g0 g1
                    go_wp2_with fail
                    go_loopg [18, 19, 130] bs.length (fun gg br op i W => ∃ (q : Nat), q + gg = bs.length ∧ br = .int .i64 (lsum Br.self (bs.take q)) ∧ op = .int .i64 (lsum Br.calls (bs.take q)) ∧ i = .int .i64 q ∧ Below w7.heap.size w7 W)
                    case atStart => exact ⟨0, by omega, rfl, rfl, rfl, Below.refl _ _⟩
                    case round =>
                      obtain ⟨q, hq, rfl, rfl, rfl, hbw⟩ := hrel
                      have HBW := hide hbw
                      clear hbw
                      by_cases hql : q < bs.length
                      · as_aux_lemma =>
                          obtain ⟨_, _, ec, hrow⟩ := (unhide HR).below (unhide HBW)
                          cases ec
                          obtain ⟨tb, rfl, -, hcr⟩ := hrow q hql
                          have c0 := (hcr 0 (by omega)).1
                          have c1 := (hcr 1 (by omega)).1
                          have c2 := (hcr 2 (by omega)).1
                          have c3 := (hcr 3 (by omega)).1
                          dsimp only at c0 c1 c2 c3
                          rw [dif_pos hql] at c0 c1 c2 c3
                          have hp := lsum_part (unhide HPC) q
                          have hp1 := lsum_part (unhide HPS) q
                          have hp2 := lsum_part (unhide HPC) (q + 1)
                          have hp3 := lsum_part (unhide HPS) (q + 1)
                          have HTC := hide (lsum_take Br.calls bs q hql)
                          have HTS := hide (lsum_take Br.self bs q hql)
                          rw [unhide HTC] at hp2
                          rw [unhide HTS] at hp3
                          rw [unhide HSC] at hp hp2
                          rw [unhide HSS] at hp1 hp3
                          obtain ⟨n1', n2'⟩ := unhide HEA q hql
                          obtain ⟨r, hr⟩ : ∃ r, r = bs[q] := ⟨_, rfl⟩
                          rw [← hr] at c0 c1 c2 c3 hp2 hp3 HTC HTS n1' n2'
                          replace c0 : wr.cell? ⟨tb, q * 4, none⟩ = some (.int .i64 r.fn) := c0
                          replace c1 : wr.cell? ⟨tb, q * 4 + 1, none⟩ = some (.int .i64 r.par) := c1
                          replace c2 : wr.cell? ⟨tb, q * 4 + 2, none⟩ = some (.int .i64 r.calls) := c2
                          replace c3 : wr.cell? ⟨tb, q * 4 + 3, none⟩ = some (.int .i64 r.self) := c3
                          generalize lsum Br.calls (bs.take q) = yc at hp hp2 HTC
                          generalize lsum Br.self (bs.take q) = ys at hp1 hp3 HTS
                          have hi0 : (0 : Int) ≤ (q : Int) := by omega
                          have hi1 : (q : Int) < (bs.length : Int) := by omega
                          have wi : IntKind.i64.wrap ((q : Int) + 1) = ((q + 1 : Nat) : Int) := by rw [IntKind.wrap_i64]; omega
                          have w1 : IntKind.i64.wrap (yc + r.calls) = yc + r.calls := by rw [IntKind.wrap_i64]; omega
                          have w2 : IntKind.i64.wrap (ys + r.self) = ys + r.self := by rw [IntKind.wrap_i64]; omega
                          have n1 : ¬ (q : Int) ≤ r.par := by omega
                          have n2 : ¬ r.calls < 1 := by omega
                          have HBA := hide (below_new wr (.cells #[.int .i64 r.fn, .int .i64 r.par, .int .i64 r.calls, .int .i64 r.self] 42))
                          clear hr hrow hcr hp hp1 hp2 hp3 n1' n2'
                          go_wp2_with fail
                          go_roundg (bs.length - (q + 1))
                          case measure => omega
                          case rel => exact ⟨q + 1, by omega, by rw [unhide HTS], by rw [unhide HTC], by go_num, (unhide HBW).trans ((unhide HBA).mono (unhide HBW).size)⟩
                      · obtain rfl : q = bs.length := by omega
                        rw [List.take_length, unhide HSC, unhide HSS]
                        have HFB : Hid (Below w.heap.size w wr) := hide ((unhide HB).trans (((unhide T7).below.trans ((unhide HBW).mono (unhide T7).below.size)).mono (unhide HB).size))
                        clear hql hq HBW T7 HR HSC HSS HEA HPC HPS
                        go_wp2
                        go_ret
                        exact ⟨by simp, unhide HFB⟩
  · have hle2 : decide ((1048576 : Int) < (len : Int)) = true := by simp; omega
    go_enter Try.func3, Try.ntmps3
    go_wp2
    go_ret
    exact ⟨rfl, Below.refl _ _⟩
end Go.Proofs.Ytoiacbdnkkolmaa
