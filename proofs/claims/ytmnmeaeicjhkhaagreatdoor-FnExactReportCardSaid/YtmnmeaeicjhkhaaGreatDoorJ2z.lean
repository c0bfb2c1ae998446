import Derived.Test.YtmnmeaeicjhkhaaGreatDoorGJaz
import Derived.Test.YtmnmeaeicjhkhaaGreatDoorGScz
import Derived.Test.YtmnmeaeicjhkhaaGreatDoorGIdz
import Derived.Deep.AppendLies
import Derived.Deep.LoopGhost
import Derived.Deep.RegionHeld3
import Derived.Deep.DeepCutAuto
/-
  spec.LineCounts.
-/
namespace Go.Proofs.YtmnmeaeicjhkhaaGreatDoor
open Go.RowKit

theorem info_LineCountS : (Tryz.prog.info? 104).map (fun i => (i.zero, i.size, i.bytes)) = some (some (.agg #[.int .i64 0, .int .i64 0, .int .i64 0]), 3, 24) := by kernel_rfl

/-- The rows while one of them is looked for: the first q are looked through. -/
def bumpTo (a b : Int) (l : List Lc) (q : Nat) : List Lc := (l.take q).map (lcBump a b) ++ l.drop q

theorem bumpTo_len (a b : Int) (l : List Lc) (q : Nat) : (bumpTo a b l q).length = l.length := by
  unfold bumpTo
  rw [List.length_append, List.length_map, List.length_take, List.length_drop]
  omega

theorem bumpTo_zero (a b : Int) (l : List Lc) : bumpTo a b l 0 = l := rfl

theorem bumpTo_all (a b : Int) (l : List Lc) : bumpTo a b l l.length = l.map (lcBump a b) := by
  unfold bumpTo
  rw [List.take_length, List.drop_length, List.append_nil]

theorem bumpTo_at (a b : Int) (l : List Lc) (q : Nat) (hq : q < l.length) : (bumpTo a b l q)[q]'(by rw [bumpTo_len]; exact hq) = l[q] := by
  unfold bumpTo
  rw [List.getElem_append_right (by rw [List.length_map, List.length_take]; omega)]
  simp only [List.length_map, List.length_take, List.getElem_drop]
  congr 1
  omega

theorem bumpTo_succ (a b : Int) (l : List Lc) (q : Nat) (hq : q < l.length) : bumpTo a b l (q + 1) = (bumpTo a b l q).set q (lcBump a b l[q]) := by
  unfold bumpTo
  have h1 : l.take (q + 1) = l.take q ++ [l[q]] := by rw [List.take_add_one, List.getElem?_eq_getElem hq]; rfl
  have h2 : l.drop q = l[q] :: l.drop (q + 1) := List.drop_eq_getElem_cons hq
  have h3 : ((l.take q).map (lcBump a b)).length = q := by rw [List.length_map, List.length_take]; omega
  rw [h1, h2, List.map_append, List.append_assoc, List.set_append_right _ _ (by omega), h3, Nat.sub_self]
  rfl

theorem bumpTo_same (a b : Int) (l : List Lc) (q : Nat) (hq : q < l.length) (hn : ¬ (l[q].fn = a ∧ l[q].line = b)) : bumpTo a b l (q + 1) = bumpTo a b l q := by
  rw [bumpTo_succ _ _ _ _ hq]
  have : lcBump a b l[q] = (bumpTo a b l q)[q]'(by rw [bumpTo_len]; exact hq) := by
    rw [bumpTo_at _ _ _ _ hq]
    unfold lcBump
    rw [if_neg hn]
  rw [this, List.set_getElem_self]

theorem any_succ (a b : Int) (l : List Lc) (q : Nat) (hq : q < l.length) : (l.take (q + 1)).any (lcKey a b) = ((l.take q).any (lcKey a b) || lcKey a b l[q]) := by
  have h1 : l.take (q + 1) = l.take q ++ [l[q]] := by rw [List.take_add_one, List.getElem?_eq_getElem hq]; rfl
  rw [h1, List.any_append]
  simp

theorem map_bump_none (a b : Int) : ∀ l : List Lc, l.any (lcKey a b) = false → l.map (lcBump a b) = l
  | [], _ => rfl
  | r :: t, h => by
    rw [List.any_cons, Bool.or_eq_false_iff] at h
    rw [List.map_cons, map_bump_none a b t h.2]
    have : lcBump a b r = r := by unfold lcBump; rw [if_neg (of_decide_eq_false h.1)]
    rw [this]

/-- The rows while the new one sinks: it stands at p. -/
def sinkAt (l : List Lc) (x : Lc) (p : Nat) : List Lc := l.take p ++ x :: l.drop p

theorem sinkAt_len (l : List Lc) (x : Lc) (p : Nat) : (sinkAt l x p).length = l.length + 1 := by
  unfold sinkAt
  rw [List.length_append, List.length_cons, List.length_take, List.length_drop]
  omega

theorem sinkAt_end (l : List Lc) (x : Lc) : sinkAt l x l.length = l ++ [x] := by
  unfold sinkAt
  rw [List.take_length, List.drop_length]

theorem sinkAt_new (l : List Lc) (x : Lc) (p : Nat) (hp : p ≤ l.length) : (sinkAt l x p)[p]'(by rw [sinkAt_len]; omega) = x := by
  unfold sinkAt
  rw [List.getElem_append_right (by rw [List.length_take]; omega)]
  simp [List.length_take, Nat.min_eq_left hp]

theorem sinkAt_prev (l : List Lc) (x : Lc) (p : Nat) (hp : p < l.length) : (sinkAt l x (p + 1))[p]'(by rw [sinkAt_len]; omega) = l[p] := by
  unfold sinkAt
  rw [List.getElem_append_left (by rw [List.length_take]; omega)]
  simp

theorem sinkAt_swap (l : List Lc) (x : Lc) (p : Nat) (hp : p < l.length) : ((sinkAt l x (p + 1)).set p x).set (p + 1) l[p] = sinkAt l x p := by
  unfold sinkAt
  have h1 : l.take (p + 1) = l.take p ++ [l[p]] := by rw [List.take_add_one, List.getElem?_eq_getElem hp]; rfl
  have h2 : l.drop p = l[p] :: l.drop (p + 1) := List.drop_eq_getElem_cons hp
  have h3 : (l.take p).length = p := by rw [List.length_take]; omega
  rw [h1, h2, List.append_assoc, List.set_append_right _ _ (by omega), h3, Nat.sub_self]
  rw [List.set_append_right _ _ (by omega), h3, show p + 1 - p = 1 by omega]
  rfl

theorem sink_before {l : List Lc} {x : Lc} {p : Nat} (hs : l.Pairwise lcLt) (hp : p < l.length) (h : lcLt l[p] x) : ∀ r, r ∈ l.take (p + 1) → lcLt r x := by
  intro r hr
  obtain ⟨i, hi, rfl⟩ := List.getElem_of_mem hr
  rw [List.length_take] at hi
  rw [List.getElem_take]
  by_cases e : i = p
  · subst e; exact h
  · exact lcLt_trans (List.pairwise_iff_getElem.1 hs i p (by omega) hp (by omega)) h

theorem sink_behind {l : List Lc} {x : Lc} {p : Nat} (hp : p < l.length) (h : lcLt x l[p]) (hq : ∀ r, r ∈ l.drop (p + 1) → lcLt x r) : ∀ r, r ∈ l.drop p → lcLt x r := by
  intro r hr
  rw [List.drop_eq_getElem_cons hp] at hr
  rcases List.mem_cons.1 hr with e | e
  · rw [e]; exact h
  · exact hq r e

theorem lcLt_other {x y : Lc} (h : ¬ lcLt x y) (hn : ¬ (x.fn = y.fn ∧ x.line = y.line)) : lcLt y x := by
  unfold lcLt at *
  omega

theorem owns_lc {w : World} {B g n cap : Nat} {l : List Lc} {i : Nat} {x : Lc} (h : w.ownsRow B 104 3 (.slice (some ⟨g, 0, none⟩) n cap) n (lcCells l)) (hi : i < l.length) :
    (((w.setCell ⟨g, i * 3, none⟩ (.int .i64 x.fn)).setCell ⟨g, i * 3 + 1, none⟩ (.int .i64 x.line)).setCell ⟨g, i * 3 + 2, none⟩ (.int .i64 x.cnt)).ownsRow B 104 3 (.slice (some ⟨g, 0, none⟩) n cap) n (lcCells (l.set i x)) := by
  rw [← lcCells_set l i x hi]
  exact owns_set (owns_set (owns_set h _ _) _ _) _ _
theorem ownsTyped' {w : World} {B : Nat} {e : TypeId} {z : Nat} {v : Value} {n : Nat} {xs : List Value} (h : w.ownsRow B e z v n xs) : ∀ g, v.ownBlock = some g → B ≤ g ∧ ∃ cs fr, w.heap[g]? = some (.cells cs e fr) := by
  intro g hg
  rcases h.2 with ⟨e1, _⟩ | ⟨g', cap, cur, e1, hB, hh, _⟩
  · rw [e1] at hg; cases hg
  · rw [e1] at hg; cases hg; exact ⟨hB, cur, _, hh⟩

set_option maxRecDepth 100000 in
set_option maxHeartbeats 4000000 in
theorem specLineCounts_any (lo : Nat) (v1 v2 : Value) (nf : Nat) (fns : Nat → ByteArray) (n : Nat) (f : Nat → M) (w : World) (h1 : StrsAt lo w v1 nf fns) (h2 : MomsAt lo w v2 n f) :
    Calls Tryz.prog 51 #[.agg #[v1, v2]] w fun e w' => (∃ v n' F, e = .returned v ∧ LcAns nf fns n f n' F ∧ RowsAt w.heap.size w' v 3 n' F) ∧ Below w.heap.size w w' := by
  obtain ⟨i0, hi0, hz0, hz1, hz2⟩ := info_parts info_LineCountS
  have II := hide (And.intro hi0 (And.intro hz0 (And.intro hz1 hz2))); clear hi0 hz0 hz1 hz2
  have H1 := hide h1
  have H2 := hide h2
  obtain ⟨a1, cap1, rfl, hn1, -⟩ := h1
  obtain ⟨a2, cap2, rfl, hn2, -⟩ := h2
  unfold maxLen at hn1 hn2
  have T0 := hide (TrBox.new w (.slice a1 nf cap1) (.slice a2 n cap2))
  go_enter Tryz.func51, Tryz.ntmps51
  go_wp2_with fail
  refine (l1ok_any lo _ _ nf fns n f _ ((unhide H1).below (unhide T0).below) ((unhide H2).below (unhide T0).below)).mono ?_
  rintro e w1 ⟨⟨ok, rfl, hok⟩, hb1⟩
  have T1 := hide ((unhide T0).go hb1)
  clear hb1 T0
  cases ok with
  | false =>
    have HN : Hid (¬ Sound nf fns n f) := hide (fun h => by have := hok.2 h; cases this)
    clear hok
    go_wp2_with fail
    go_ret
    exact ⟨⟨_, 0, fun _ _ => 0, rfl, .inr ⟨unhide HN, rfl⟩, RowsAt.nil _ _ _ _⟩, (unhide T1).below⟩
  | true =>
    have hS := hok.1 rfl
    have HS := hide hS
    have hn3 : n ≤ 3000 := hS.1.2.2.1
    clear hok hS
    have g1 := (unhide T1).b1
    obtain ⟨B, hB⟩ : ∃ B, B = w1.heap.size := ⟨_, rfl⟩
    have hBl : w.heap.size + 1 ≤ B := by rw [hB]; exact (unhide T1).size
    have HBE := hide hB
    clear hB
    go_wp2_with fail
    go_loopg [3, 17] n (fun gg ov i W => ∃ (k : Nat) (l : List Lc) (oa : Option Addr) (oc : Nat), k + gg = n ∧ ov = .slice oa l.length oc ∧ i = .int .i64 k ∧ LcIs f k l ∧ W.ownsRow B 104 3 (.slice oa l.length oc) l.length (lcCells l) ∧ TrBox w (.slice a1 nf cap1) (.slice a2 n cap2) W ∧ B ≤ W.heap.size)
    case atStart => exact ⟨0, [], none, 0, by omega, rfl, rfl, LcIs.zero f, World.ownsRow_nil _ _ _ _, unhide T1, by rw [unhide HBE]; exact Nat.le_refl _⟩
    case round =>
      clear T1 g1
      obtain ⟨k, l, oa, oc, hk, rfl, rfl, hli, ho, ht, hBw⟩ := hrel
      have HLI := hide hli
      have HO := hide ho
      have HT := hide ht
      have hll : l.length ≤ k := hli.len
      clear hli ho ht
      by_cases hlt : k < n
      · obtain ⟨_, _, e, _, hv⟩ := (unhide H2).below (unhide HT).below
        cases e
        obtain ⟨bm, om, vv, rfl, hc0, hc1, hc2, hc3, hc4, hc5, -, hs2, -⟩ := hv k hlt
        clear hv
        obtain ⟨av, capv, rfl, -⟩ := hs2
        have hmo := (unhide HS).2.1 k hlt
        clear hmo
        have hkn : (k : Int) < (n : Int) := by omega
        have hkz : (0 : Int) ≤ (k : Int) := by omega
        have wq : IntKind.i64.wrap ((k : Int) + 1) = ((k + 1 : Nat) : Int) := by rw [IntKind.wrap_i64]; omega
        generalize hkk : (f k).kind = kk at hc0
        have HKK := hide hkk
        clear hkk
        generalize hfa : (f k).fn = fa at hc2
        have HFA := hide hfa
        clear hfa
        generalize hfb : (f k).line = fb at hc3
        have HFB := hide hfb
        clear hfb
        have HBA := hide (below_new wr (.cells #[.int .i64 kk, .int .i64 (f k).task, .int .i64 fa, .int .i64 fb, .string (f k).text, .slice av (f k).nv capv] 108))
        have HBX := hide (heap_alloc_new wr (.cells #[.int .i64 kk, .int .i64 (f k).task, .int .i64 fa, .int .i64 fb, .string (f k).text, .slice av (f k).nv capv] 108))
        have hsA : (wr.alloc (.cells #[.int .i64 kk, .int .i64 (f k).task, .int .i64 fa, .int .i64 fb, .string (f k).text, .slice av (f k).nv capv] 108)).heap.size = wr.heap.size + 1 := by simp
        have HSA := hide hsA
        clear hsA
        by_cases k1 : kk = 1
        · have k1b : (kk != 1) = false := by rw [k1]; rfl
          have HK1 : Hid ((f k).kind = 1) := hide (by rw [unhide HKK]; exact k1)
          clear k1
          go_upto_region 9 with fail
          have HO2 := hide (owns_below (unhide HO) (unhide HBA))
          have HT2 := hide ((unhide HT).go (unhide HBA))
          generalize wr.alloc (.cells #[.int .i64 kk, .int .i64 (f k).task, .int .i64 fa, .int .i64 fb, .string (f k).text, .slice av (f k).nv capv] 108) = W3 at HO2 HT2 HBX HSA ⊢
          obtain ⟨mb, hmb⟩ : ∃ mb, mb = wr.heap.size := ⟨_, rfl⟩
          have hBm : B ≤ mb := by omega
          rw [← hmb] at HBX HSA ⊢
          clear hmb hc0 hc1 hc2 hc3 hc4 hc5 HBA HO HT
          go_wp2_with fail
          go_loopg [6, 26] l.length (fun gg mt i W => ∃ (q : Nat), q + gg = l.length ∧ mt = .bool ((l.take q).any (lcKey fa fb)) ∧ i = .int .i64 q ∧ W.ownsRow B 104 3 (.slice oa l.length oc) l.length (lcCells (bumpTo fa fb l q)) ∧ W.heap[mb]? = some (.cells #[.int .i64 kk, .int .i64 (f k).task, .int .i64 fa, .int .i64 fb, .string (f k).text, .slice av (f k).nv capv] 108 (0, 0)) ∧ TrBox w (.slice a1 nf cap1) (.slice (some ⟨bm, om, none⟩) n cap2) W ∧ mb < W.heap.size)
          case atStart => exact ⟨0, by omega, rfl, rfl, unhide HO2, unhide HBX, unhide HT2, by rw [unhide HSA]; omega⟩
          case round =>
            clear HO2 HBX HT2 HSA
            obtain ⟨q, hq, rfl, rfl, ho, hmx, ht, hml⟩ := hrel
            have HO := hide ho
            have HMX := hide hmx
            have HT := hide ht
            clear ho hmx ht
            by_cases hql : q < l.length
            · as_aux_lemma =>
                obtain ⟨g, cap', eg, hgB, hgl⟩ := (unhide HO).form (by omega)
                injection eg with eg1 eg2 eg3
                subst eg1 eg3
                clear eg2
                have hqb : q < (bumpTo fa fb l q).length := by rw [bumpTo_len]; exact hql
                obtain ⟨d0, d1, d2⟩ := lcCells_get (bumpTo fa fb l q) q hqb
                rw [bumpTo_at _ _ _ _ hql] at d0 d1 d2
                obtain ⟨e0, z0⟩ := owns_cell (unhide HO) _ _ d0
                obtain ⟨e1, z1⟩ := owns_cell (unhide HO) _ _ d1
                obtain ⟨e2, z2⟩ := owns_cell (unhide HO) _ _ d2
                have m2 : wr.cell? ⟨mb, 2, none⟩ = some (.int .i64 fa) := by rw [cell_of_row wr mb 2 _ _ _ (unhide HMX)]; rfl
                have m3 : wr.cell? ⟨mb, 3, none⟩ = some (.int .i64 fb) := by rw [cell_of_row wr mb 3 _ _ _ (unhide HMX)]; rfl
                have hi0 : (0 : Int) ≤ (q : Int) := by omega
                have hi1 : (q : Int) < (l.length : Int) := by omega
                have wi : IntKind.i64.wrap ((q : Int) + 1) = ((q + 1 : Nat) : Int) := by rw [IntKind.wrap_i64]; omega
                have hcb := (unhide HLI).cnt l[q] (List.getElem_mem hql)
                have hcb2 := lcN_bound f l[q].fn l[q].line k
                have HSU := hide (bumpTo_succ fa fb l q hql)
                have HSM := hide (bumpTo_same fa fb l q hql)
                have HAN := hide (any_succ fa fb l q hql)
                obtain ⟨r, hr⟩ : ∃ r, r = l[q] := ⟨_, rfl⟩
                rw [← hr] at e0 e1 e2 hcb hcb2 HSU HSM HAN
                have HS2 : Hid ((lcCells (bumpTo fa fb l q)).set (q * 3 + 2) (.int .i64 (r.cnt + 1)) = lcCells ((bumpTo fa fb l q).set q ⟨r.fn, r.line, r.cnt + 1⟩)) := hide (by
                  have h := lcCells_set2 (bumpTo fa fb l q) q (r.cnt + 1) hqb
                  rw [bumpTo_at _ _ _ _ hql, ← hr] at h
                  exact h)
                clear hr d0 d1 d2 hgl hqb
                have wc : IntKind.i64.wrap (r.cnt + 1) = r.cnt + 1 := by rw [IntKind.wrap_i64]; omega
                clear hcb hcb2
                by_cases ha : r.fn = fa
                · have hab : (r.fn == fa) = true := by simpa using ha
                  by_cases hb : r.line = fb
                  · have hbb : (r.line == fb) = true := by simpa using hb
                    have HBU : Hid (lcBump fa fb r = ⟨r.fn, r.line, r.cnt + 1⟩) := hide (by unfold lcBump; rw [if_pos ⟨ha, hb⟩])
                    have HKY : Hid (lcKey fa fb r = true) := hide (decide_eq_true ⟨ha, hb⟩)
                    clear ha hb
                    go_upto_region 12 with fail
                    go_quiet (fail)
                    generalize hW4 : wr.drewN _ = W4
                    have HB4 : Hid (Below wr.heap.size wr W4) := by rw [← hW4]; exact hide (below_drewN' _ _)
                    have e24 : W4.cell? ⟨g, q * 3 + 2, none⟩ = some (.int .i64 r.cnt) := by rw [← hW4]; exact e2
                    have z24 : W4.frozen? ⟨g, q * 3 + 2, none⟩ = false := by rw [← hW4]; exact z2
                    have hs4 : W4.heap.size = wr.heap.size := by rw [← hW4]; rfl
                    have HO4 := hide (owns_below (unhide HO) (unhide HB4))
                    have HMX4 : Hid (W4.heap[mb]? = some (.cells #[.int .i64 kk, .int .i64 (f k).task, .int .i64 fa, .int .i64 fb, .string (f k).text, .slice av (f k).nv capv] 108 (0, 0))) := hide ((unhide HB4).block mb hml |>.trans (unhide HMX))
                    have HT4 := hide ((unhide HT).go (unhide HB4))
                    have hgm : g ≠ mb := fun e => by
                      have h := (ownsTyped' (unhide HO4) g rfl).2
                      obtain ⟨cs, fr, h⟩ := h
                      rw [e, unhide HMX4] at h
                      cases h
                    clear hW4 e0 e1 e2 z0 z1 z2 m2 m3 HO HMX HT HB4
                    go_wp2_with fail
                    go_roundg (l.length - (q + 1))
                    case measure => omega
                    case rel =>
                      refine ⟨q + 1, by omega, by rw [unhide HAN, unhide HKY, Bool.or_true], by go_num, ?_, ?_, Below.setCell (p := ⟨g, q * 3 + 2, none⟩) (unhide HT4) (by show w.heap.size + 1 ≤ g; omega) _, by simp; omega⟩
                      · rw [unhide HSU, unhide HBU, ← unhide HS2]
                        exact owns_set (unhide HO4) _ _
                      · rw [heap_setCell_other _ _ _ _ (by show mb ≠ g; exact Ne.symm hgm)]; exact unhide HMX4
                  · have hbb : (r.line == fb) = false := by simpa using hb
                    have HKY : Hid (lcKey fa fb r = false) := hide (decide_eq_false (fun h => hb h.2))
                    have HSM2 := hide (unhide HSM (fun h => hb h.2))
                    clear ha hb
                    go_upto_region 12 with fail
                    go_quiet (fail)
                    generalize hW4 : wr.drewN _ = W4
                    have HB4 : Hid (Below wr.heap.size wr W4) := by rw [← hW4]; exact hide (below_drewN' _ _)
                    have hs4 : W4.heap.size = wr.heap.size := by rw [← hW4]; rfl
                    have HO4 := hide (owns_below (unhide HO) (unhide HB4))
                    have HMX4 : Hid (W4.heap[mb]? = some (.cells #[.int .i64 kk, .int .i64 (f k).task, .int .i64 fa, .int .i64 fb, .string (f k).text, .slice av (f k).nv capv] 108 (0, 0))) := hide ((unhide HB4).block mb hml |>.trans (unhide HMX))
                    have HT4 := hide ((unhide HT).go (unhide HB4))
                    clear hW4 e0 e1 e2 z0 z1 z2 m2 m3 HO HMX HT HB4
                    go_wp2_with fail
                    go_roundg (l.length - (q + 1))
                    case measure => omega
                    case rel => exact ⟨q + 1, by omega, by rw [unhide HAN, unhide HKY, Bool.or_false], by go_num, by rw [unhide HSM2]; exact unhide HO4, unhide HMX4, unhide HT4, by omega⟩
                · have hab : (r.fn == fa) = false := by simpa using ha
                  have HKY : Hid (lcKey fa fb r = false) := hide (decide_eq_false (fun h => ha h.1))
                  have HSM2 := hide (unhide HSM (fun h => ha h.1))
                  clear ha
                  go_upto_region 12 with fail
                  go_quiet (fail)
                  generalize hW4 : wr.drewN _ = W4
                  have HB4 : Hid (Below wr.heap.size wr W4) := by rw [← hW4]; exact hide (below_drewN' _ _)
                  have hs4 : W4.heap.size = wr.heap.size := by rw [← hW4]; rfl
                  have HO4 := hide (owns_below (unhide HO) (unhide HB4))
                  have HMX4 : Hid (W4.heap[mb]? = some (.cells #[.int .i64 kk, .int .i64 (f k).task, .int .i64 fa, .int .i64 fb, .string (f k).text, .slice av (f k).nv capv] 108 (0, 0))) := hide ((unhide HB4).block mb hml |>.trans (unhide HMX))
                  have HT4 := hide ((unhide HT).go (unhide HB4))
                  clear hW4 e0 e1 e2 z0 z1 z2 m2 m3 HO HMX HT HB4
                  go_wp2_with fail
                  go_roundg (l.length - (q + 1))
                  case measure => omega
                  case rel => exact ⟨q + 1, by omega, by rw [unhide HAN, unhide HKY, Bool.or_false], by go_num, by rw [unhide HSM2]; exact unhide HO4, unhide HMX4, unhide HT4, by omega⟩
            · obtain rfl : q = l.length := by omega
              rw [List.take_length]
              rw [bumpTo_all] at HO
              cases hany : l.any (lcKey fa fb) with
              | true =>
                have HAN : Hid (l.any (lcKey (f k).fn (f k).line) = true) := hide (by rw [unhide HFA, unhide HFB]; exact hany)
                clear hany
                go_wp2_with fail
                go_roundg (n - (k + 1))
                case measure => omega
                case rel =>
                  have hl2 := (unhide HLI).bump (unhide HK1) (unhide HAN)
                  rw [unhide HFA, unhide HFB] at hl2
                  refine ⟨k + 1, l.map (lcBump fa fb), oa, oc, by omega, by rw [List.length_map], by go_num, hl2, ?_, unhide HT, by omega⟩
                  rw [List.length_map]
                  exact unhide HO
              | false =>
                rw [map_bump_none _ _ _ hany] at HO
                have HAN : Hid (l.any (lcKey (f k).fn (f k).line) = false) := hide (by rw [unhide HFA, unhide HFB]; exact hany)
                clear hany
                have m2 : wr.cell? ⟨mb, 2, none⟩ = some (.int .i64 fa) := by rw [cell_of_row wr mb 2 _ _ _ (unhide HMX)]; rfl
                have m3 : wr.cell? ⟨mb, 3, none⟩ = some (.int .i64 fb) := by rw [cell_of_row wr mb 3 _ _ _ (unhide HMX)]; rfl
                have HA := hide (owns_below (unhide HO) (below_new wr (.cells #[.int .i64 fa, .int .i64 fb, .int .i64 1] 104)))
                have HNW : Hid (∀ j u, ([.int .i64 fa, .int .i64 fb, .int .i64 1] : List Value)[j]? = some u → (wr.alloc (.cells #[.int .i64 fa, .int .i64 fb, .int .i64 1] 104)).cell? ((⟨wr.heap.size, 0, none⟩ : Addr).add j) = some u) := hide (World.news_of_block (cs := #[.int .i64 fa, .int .i64 fb, .int .i64 1]) (t := 104) (fr := (0, 0)) (heap_alloc_new wr _))
                have HTA := hide ((unhide HT).go (below_new wr (.cells #[.int .i64 fa, .int .i64 fb, .int .i64 1] 104)))
                go_upto_region 18 with (at_builtin; refine wpList_append_lies _ (by rfl) _ _ _ (by rfl) B 104 i0 _ 3 24 Tryz.underlying94 (unhide II).1 (unhide II).2.1 (unhide II).2.2.1 (unhide II).2.2.2 rfl (by omega) (.slice oa l.length oc) l.length (lcCells l) (by rfl) (unhide HA) ⟨wr.heap.size, 0, none⟩ 1 1 [.int .i64 fa, .int .i64 fb, .int .i64 1] (by rfl) (by rfl) (unhide HNW) (by simp [Value.oneCell']) (by omega) (by unfold maxLen; omega) (by omega) (by simp; omega) (wr.heap.size + 1) (by simp) ?_; intro g2 cp2 w7 hown hgrow _ _; have HW7 := hide hown; have HG7 := hide hgrow; clear hown hgrow)
                have HO7 : Hid (w7.ownsRow B 104 3 (.slice (some ⟨g2, 0, none⟩) (l.length + 1) cp2) (l.length + 1) (lcCells (sinkAt l ⟨fa, fb, 1⟩ l.length))) := hide (by rw [sinkAt_end, lcCells_app]; exact unhide HW7)
                have HT7 : Hid (TrBox w (.slice a1 nf cap1) (.slice (some ⟨bm, om, none⟩) n cap2) w7) := hide (Below.grown (unhide HTA) (unhide HG7) (by simp; omega) (fun j e => by have := (ownsTyped' (unhide HA) j e).1; omega))
                have hs7 : B ≤ w7.heap.size := by have := (unhide HG7).size; simp at this; omega
                clear HW7 HG7 HA HNW HTA HO HT HMX m2 m3 hml
                have wl : IntKind.i64.wrap (((l.length + 1 : Nat) : Int) - 1) = (l.length : Int) := by rw [IntKind.wrap_i64]; omega
                go_wp2_with fail
                go_loopg [8] l.length (fun gg i W => i = .int .i64 (gg : Int) ∧ gg ≤ l.length ∧ W.ownsRow B 104 3 (.slice (some ⟨g2, 0, none⟩) (l.length + 1) cp2) (l.length + 1) (lcCells (sinkAt l ⟨fa, fb, 1⟩ gg)) ∧ (∀ r, r ∈ l.drop gg → lcLt ⟨fa, fb, 1⟩ r) ∧ TrBox w (.slice a1 nf cap1) (.slice (some ⟨bm, om, none⟩) n cap2) W ∧ B ≤ W.heap.size)
                case atStart => exact ⟨by go_num, Nat.le_refl _, unhide HO7, fun r hr => (by rw [List.drop_length] at hr; cases hr), unhide HT7, hs7⟩
                case round =>
                  clear HO7 HT7 hs7 wl
                  obtain ⟨rfl, hgl, ho, hdr, ht, hBw2⟩ := hrel
                  have HO := hide ho
                  have HDR := hide hdr
                  have HT := hide ht
                  clear ho hdr ht
                  cases gk with
                  | zero =>
                    as_aux_lemma =>
                      have HPR : Hid (∀ r, r ∈ l.take 0 → lcLt r ⟨fa, fb, 1⟩) := hide (fun r hr => by cases hr)
                      go_wp2_with fail
                      go_roundg (n - (k + 1))
                      case measure => omega
                      case rel =>
                        have hl2 := (unhide HLI).ins (unhide HK1) (unhide HAN) 0 (by rw [unhide HFA, unhide HFB]; exact unhide HPR) (by rw [unhide HFA, unhide HFB]; exact unhide HDR)
                        rw [unhide HFA, unhide HFB] at hl2
                        refine ⟨k + 1, sinkAt l ⟨fa, fb, 1⟩ (0), some ⟨g2, 0, none⟩, cp2, by omega, by rw [sinkAt_len], by go_num, hl2, ?_, unhide HT, hBw2⟩
                        rw [sinkAt_len]
                        exact unhide HO
                  | succ p =>
                    have hpl : p < l.length := by omega
                    have hl1 := sinkAt_len l ⟨fa, fb, 1⟩ (p + 1)
                    obtain ⟨d0, d1, d2⟩ := lcCells_get (sinkAt l ⟨fa, fb, 1⟩ (p + 1)) p (by omega)
                    obtain ⟨d3, d4, d5⟩ := lcCells_get (sinkAt l ⟨fa, fb, 1⟩ (p + 1)) (p + 1) (by omega)
                    rw [sinkAt_prev _ _ _ hpl] at d0 d1 d2
                    rw [sinkAt_new _ _ _ hgl] at d3 d4 d5
                    obtain ⟨e0, z0⟩ := owns_cell (unhide HO) _ _ d0
                    obtain ⟨e1, z1⟩ := owns_cell (unhide HO) _ _ d1
                    obtain ⟨e2, z2⟩ := owns_cell (unhide HO) _ _ d2
                    obtain ⟨e3, z3⟩ := owns_cell (unhide HO) _ _ d3
                    obtain ⟨e4, z4⟩ := owns_cell (unhide HO) _ _ d4
                    obtain ⟨e5, z5⟩ := owns_cell (unhide HO) _ _ d5
                    have hgs : g2 < wr.heap.size := cell_lt e0
                    have HNK : Hid (¬ (l[p].fn = fa ∧ l[p].line = fb)) := hide (fun h => by
                      have := List.any_eq_false.1 (unhide HAN) l[p] (List.getElem_mem hpl)
                      rw [unhide HFA, unhide HFB] at this
                      exact this (decide_eq_true h))
                    have HPB := hide (fun h => sink_before (x := ⟨fa, fb, 1⟩) (unhide HLI).sorted hpl h)
                    have HPH := hide (fun h => sink_behind (x := ⟨fa, fb, 1⟩) hpl h (unhide HDR))
                    have HSW := hide (sinkAt_swap l ⟨fa, fb, 1⟩ p hpl)
                    obtain ⟨r, hr⟩ : ∃ r, r = l[p] := ⟨_, rfl⟩
                    rw [← hr] at e0 e1 e2 HNK HPB HPH HSW
                    clear hr d0 d1 d2 d3 d4 d5
                    have wp1 : IntKind.i64.wrap (((p + 1 : Nat) : Int) - 1) = (p : Int) := by rw [IntKind.wrap_i64]; omega
                    have hp0 : (0 : Int) < ((p + 1 : Nat) : Int) := by omega
                    have hp1 : (0 : Int) ≤ (p : Int) := by omega
                    have hp2 : (p : Int) < ((l.length + 1 : Nat) : Int) := by omega
                    have hp3 : (0 : Int) ≤ ((p + 1 : Nat) : Int) := by omega
                    have hp4 : ((p + 1 : Nat) : Int) < ((l.length + 1 : Nat) : Int) := by omega
                    have hle := wr.size_alloc (.cells #[.int .i64 r.fn, .int .i64 r.line, .int .i64 r.cnt] 104)
                    have HB2 : Hid (Below wr.heap.size wr ((wr.alloc (.cells #[.int .i64 r.fn, .int .i64 r.line, .int .i64 r.cnt] 104)).alloc (.cells #[.int .i64 fa, .int .i64 fb, .int .i64 1] 104))) := hide (((Below.refl _ _).alloc (Nat.le_refl _) _).alloc (by simp) _)
                    have HO2 := hide (owns_below (unhide HO) (unhide HB2))
                    have HT2 := hide ((unhide HT).go (unhide HB2))
                    have hs2 : B ≤ ((wr.alloc (.cells #[.int .i64 r.fn, .int .i64 r.line, .int .i64 r.cnt] 104)).alloc (.cells #[.int .i64 fa, .int .i64 fb, .int .i64 1] 104)).heap.size := by simp; omega
                    clear hle
                    by_cases h1 : r.fn < fa
                    · as_aux_lemma =>
                        have HPR := hide (unhide HPB (.inl h1))
                        go_wp2_with fail
                        go_roundg (n - (k + 1))
                        case measure => omega
                        case rel =>
                          have hl2 := (unhide HLI).ins (unhide HK1) (unhide HAN) (p + 1) (by rw [unhide HFA, unhide HFB]; exact unhide HPR) (by rw [unhide HFA, unhide HFB]; exact unhide HDR)
                          rw [unhide HFA, unhide HFB] at hl2
                          refine ⟨k + 1, sinkAt l ⟨fa, fb, 1⟩ (p + 1), some ⟨g2, 0, none⟩, cp2, by omega, by rw [sinkAt_len], by go_num, hl2, ?_, unhide HT2, hs2⟩
                          rw [sinkAt_len]
                          exact unhide HO2
                    · by_cases h2 : r.fn = fa
                      · have h2b : (r.fn == fa) = true := by simpa using h2
                        by_cases h3 : r.line < fb
                        · as_aux_lemma =>
                            have HPR := hide (unhide HPB (.inr ⟨h2, h3⟩))
                            clear h2
                            go_wp2_with fail
                            go_roundg (n - (k + 1))
                            case measure => omega
                            case rel =>
                              have hl2 := (unhide HLI).ins (unhide HK1) (unhide HAN) (p + 1) (by rw [unhide HFA, unhide HFB]; exact unhide HPR) (by rw [unhide HFA, unhide HFB]; exact unhide HDR)
                              rw [unhide HFA, unhide HFB] at hl2
                              refine ⟨k + 1, sinkAt l ⟨fa, fb, 1⟩ (p + 1), some ⟨g2, 0, none⟩, cp2, by omega, by rw [sinkAt_len], by go_num, hl2, ?_, unhide HT2, hs2⟩
                              rw [sinkAt_len]
                              exact unhide HO2
                        · have HLT : Hid (lcLt ⟨fa, fb, 1⟩ r) := hide (lcLt_other (fun h => by unfold lcLt at h; simp only at h; omega) (unhide HNK))
                          clear h2
                          as_aux_lemma =>
                            have HOS := hide (owns_below (owns_lc (x := r) (owns_lc (x := ⟨fa, fb, 1⟩) (unhide HO) (by omega : p < (sinkAt l ⟨fa, fb, 1⟩ (p + 1)).length)) (by rw [List.length_set]; omega : p + 1 < ((sinkAt l ⟨fa, fb, 1⟩ (p + 1)).set p ⟨fa, fb, 1⟩).length)) (((Below.refl _ _).alloc (Nat.le_refl _) (.cells #[.int .i64 r.fn, .int .i64 r.line, .int .i64 r.cnt] 104)).alloc (by simp) (.cells #[.int .i64 fa, .int .i64 fb, .int .i64 1] 104)))
                            have hg1 : w.heap.size + 1 ≤ g2 := by have := (ownsTyped' (unhide HO) g2 rfl).1; omega
                            have HTS : Hid (TrBox w (.slice a1 nf cap1) (.slice (some ⟨bm, om, none⟩) n cap2) ((((((((wr.setCell ⟨g2, p * 3, none⟩ (.int .i64 fa)).setCell ⟨g2, p * 3 + 1, none⟩ (.int .i64 fb)).setCell ⟨g2, p * 3 + 2, none⟩ (.int .i64 1)).setCell ⟨g2, (p + 1) * 3, none⟩ (.int .i64 r.fn)).setCell ⟨g2, (p + 1) * 3 + 1, none⟩ (.int .i64 r.line)).setCell ⟨g2, (p + 1) * 3 + 2, none⟩ (.int .i64 r.cnt)).alloc (.cells #[.int .i64 r.fn, .int .i64 r.line, .int .i64 r.cnt] 104)).alloc (.cells #[.int .i64 fa, .int .i64 fb, .int .i64 1] 104))) :=
                              hide (TrBox.go (Below.setCell (p := ⟨g2, (p + 1) * 3 + 2, none⟩) (Below.setCell (p := ⟨g2, (p + 1) * 3 + 1, none⟩) (Below.setCell (p := ⟨g2, (p + 1) * 3, none⟩) (Below.setCell (p := ⟨g2, p * 3 + 2, none⟩) (Below.setCell (p := ⟨g2, p * 3 + 1, none⟩) (Below.setCell (p := ⟨g2, p * 3, none⟩) (unhide HT) hg1 _) hg1 _) hg1 _) hg1 _) hg1 _) hg1 _) (((Below.refl _ _).alloc (Nat.le_refl _) _).alloc (by simp) _))
                            go_wp2_with fail
                            go_roundg p
                            case measure => omega
                            case rel =>
                              refine ⟨by go_num, by omega, ?_, unhide HPH (unhide HLT), unhide HTS, by simp; omega⟩
                              rw [← unhide HSW]
                              exact unhide HOS
                      · have h2b : (r.fn == fa) = false := by simpa using h2
                        have HLT : Hid (lcLt ⟨fa, fb, 1⟩ r) := hide (lcLt_other (fun h => by unfold lcLt at h; simp only at h; omega) (unhide HNK))
                        clear h2
                        as_aux_lemma =>
                          have HOS := hide (owns_below (owns_lc (x := r) (owns_lc (x := ⟨fa, fb, 1⟩) (unhide HO) (by omega : p < (sinkAt l ⟨fa, fb, 1⟩ (p + 1)).length)) (by rw [List.length_set]; omega : p + 1 < ((sinkAt l ⟨fa, fb, 1⟩ (p + 1)).set p ⟨fa, fb, 1⟩).length)) (((Below.refl _ _).alloc (Nat.le_refl _) (.cells #[.int .i64 r.fn, .int .i64 r.line, .int .i64 r.cnt] 104)).alloc (by simp) (.cells #[.int .i64 fa, .int .i64 fb, .int .i64 1] 104)))
                          have hg1 : w.heap.size + 1 ≤ g2 := by have := (ownsTyped' (unhide HO) g2 rfl).1; omega
                          have HTS : Hid (TrBox w (.slice a1 nf cap1) (.slice (some ⟨bm, om, none⟩) n cap2) ((((((((wr.setCell ⟨g2, p * 3, none⟩ (.int .i64 fa)).setCell ⟨g2, p * 3 + 1, none⟩ (.int .i64 fb)).setCell ⟨g2, p * 3 + 2, none⟩ (.int .i64 1)).setCell ⟨g2, (p + 1) * 3, none⟩ (.int .i64 r.fn)).setCell ⟨g2, (p + 1) * 3 + 1, none⟩ (.int .i64 r.line)).setCell ⟨g2, (p + 1) * 3 + 2, none⟩ (.int .i64 r.cnt)).alloc (.cells #[.int .i64 r.fn, .int .i64 r.line, .int .i64 r.cnt] 104)).alloc (.cells #[.int .i64 fa, .int .i64 fb, .int .i64 1] 104))) :=
                            hide (TrBox.go (Below.setCell (p := ⟨g2, (p + 1) * 3 + 2, none⟩) (Below.setCell (p := ⟨g2, (p + 1) * 3 + 1, none⟩) (Below.setCell (p := ⟨g2, (p + 1) * 3, none⟩) (Below.setCell (p := ⟨g2, p * 3 + 2, none⟩) (Below.setCell (p := ⟨g2, p * 3 + 1, none⟩) (Below.setCell (p := ⟨g2, p * 3, none⟩) (unhide HT) hg1 _) hg1 _) hg1 _) hg1 _) hg1 _) hg1 _) (((Below.refl _ _).alloc (Nat.le_refl _) _).alloc (by simp) _))
                          go_wp2_with fail
                          go_roundg p
                          case measure => omega
                          case rel =>
                            refine ⟨by go_num, by omega, ?_, unhide HPH (unhide HLT), unhide HTS, by simp; omega⟩
                            rw [← unhide HSW]
                            exact unhide HOS
        · have k1b : (kk != 1) = true := by simpa using k1
          have HK1 : Hid ((f k).kind ≠ 1) := hide (by rw [unhide HKK]; exact k1)
          clear k1
          go_wp2_with fail
          go_roundg (n - (k + 1))
          case measure => omega
          case rel => exact ⟨k + 1, l, oa, oc, by omega, rfl, by go_num, (unhide HLI).skip (unhide HK1), owns_below (unhide HO) (unhide HBA), (unhide HT).go (unhide HBA), by simp; omega⟩
      · obtain rfl : k = n := by omega
        go_wp2_with fail
        go_ret
        refine ⟨⟨_, l.length, fun i j => if h : i < l.length then lcCell l[i] j else 0, rfl, .inl ⟨unhide HS, l, unhide HLI, rfl, fun i j h _ => dif_pos h⟩, ?_⟩, (unhide HT).below⟩
        have hr := RowsAt.of_owns (F := fun i j => if h : i < l.length then lcCell l[i] j else 0) (unhide HO) (fun i j hi hj => by
          rw [dif_pos hi]
          obtain ⟨h0, h1, h2⟩ := lcCells_get l i hi
          rcases (show j = 0 ∨ j = 1 ∨ j = 2 by omega) with rfl | rfl | rfl
          · exact h0
          · exact h1
          · exact h2)
        exact hr.low (by omega)
end Go.Proofs.YtmnmeaeicjhkhaaGreatDoor
