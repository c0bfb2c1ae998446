import Derived.Test.YtmnmeaeicjhkhaaGreatDoorU6z
import Derived.Test.YtmnmeaeicjhkhaaGreatDoorC7z
import Derived.Test.YtmnmeaeicjhkhaaGreatDoorC8z
import Derived.Test.YtmnmeaeicjhkhaaGreatDoorGJbz
namespace Go.Proofs.YtmnmeaeicjhkhaaGreatDoor
open Go.RowKit Go.Lib

/-- The builder while the report is written: what lay in w2 but the builder stays. -/
structure BI (w2 : World) (B b : Nat) (v : Value) (L : List UInt8) (W : World) : Prop where
  bld : Bld B b v (byteCells L) W
  own : ∀ x, v.ownBlock = some x → w2.heap.size ≤ x
  keeps : ∀ x, x < w2.heap.size → x ≠ b → W.heap[x]? = w2.heap[x]?
  size : w2.heap.size ≤ W.heap.size
  below : Below B w2 W

theorem Bld.go {B b : Nat} {v : Value} {bs : List Value} {w w' : World} (h : Bld B b v bs w) (hb : Below w.heap.size w w') : Bld B b v bs w' := by
  obtain ⟨p, e, hk⟩ := h.blk
  exact ⟨h.lo, ⟨p, e, (hb.block b (Array.getElem?_eq_some_iff.1 hk).1).trans hk⟩, owns_below h.own hb⟩

theorem BI.go {w2 : World} {B b : Nat} {v : Value} {L : List UInt8} {W W' : World} (h : BI w2 B b v L W) (hB : B ≤ w2.heap.size) (hb : Below W.heap.size W W') : BI w2 B b v L W' :=
  ⟨h.bld.go hb, h.own, fun x h1 h2 => (hb.block x (Nat.lt_of_lt_of_le h1 h.size)).trans (h.keeps x h1 h2), Nat.le_trans h.size hb.size, h.below.trans (hb.mono (Nat.le_trans hB h.size))⟩

theorem BI.put {w2 : World} {B b : Nat} {v v' : Value} {L L' : List UInt8} {W W' : World} (h : BI w2 B b v L W) (hb : Bld B b v' (byteCells L') W') (hk : BKeeps B b v v' W W') : BI w2 B b v' L' W' := by
  have hs := h.size
  have hs2 := hk.size
  refine ⟨hb, fun x hx => ?_, fun x h1 h2 => ?_, by omega, h.below.trans hk.below⟩
  · rcases hk.news x hx with e | e
    · exact h.own x e
    · omega
  · rw [hk.keeps x (by omega) h2 (fun e => by have := h.own x e; omega)]
    exact h.keeps x h1 h2

/-- A block of another kind stays too. -/
theorem BI.other {w2 : World} {B b : Nat} {v v' : Value} {L : List UInt8} {W W' : World} {cb : Nat} {cs : Array Value} {T : TypeId} (h : BI w2 B b v L W) (hk : BKeeps B b v v' W W') (hc : W.heap[cb]? = some (.cells cs T)) (hne : cb ≠ b) (hT : T ≠ tU) : W'.heap[cb]? = some (.cells cs T) := by
  rw [hk.keeps cb (Array.getElem?_eq_some_iff.1 hc).1 hne (Lib.ownBlock_ne h.bld.own hc hT)]
  exact hc

theorem len_cells (L : List UInt8) (y : ByteArray) : byteCells (L ++ bl y) = byteCells L ++ strCells y := by rw [byteCells_app, ← strCells_bl]
theorem byteCells_length (L : List UInt8) : (byteCells L).length = L.length := by unfold byteCells; simp

set_option maxRecDepth 100000 in
set_option maxHeartbeats 4000000 in
theorem implReport_any (lo : Nat) (v1 v2 : Value) (nf : Nat) (fns : Nat → ByteArray) (n : Nat) (f : Nat → M) (w : World) (h1 : StrsAt lo w v1 nf fns) (h2 : MomsAt lo w v2 n f) (htab : Tab w) :
    Calls Tryz.prog 13 #[.agg #[v1, v2]] w fun e w' => (∃ s, e = .returned (.string s) ∧ RpAns nf fns n f s) ∧ Below w.heap.size w w' := by
  have H1 := hide h1
  have H2 := hide h2
  have HTAB0 := hide htab
  obtain ⟨a1, cap1, rfl, hn1, -⟩ := h1
  obtain ⟨a2, cap2, rfl, hn2, -⟩ := h2
  clear htab
  unfold maxLen at hn1 hn2
  have T0 := hide ((TrBox.new w (.slice a1 nf cap1) (.slice a2 n cap2)).go (below_new _ (.cells #[.pointer none, .slice none 0 0] tB)))
  have HX0 := hide (heap_alloc_new (w.alloc (.cells #[.slice a1 nf cap1, .slice a2 n cap2] 26)) (.cells #[.pointer none, .slice none 0 0] tB))
  have hsa : ((w.alloc (.cells #[.slice a1 nf cap1, .slice a2 n cap2] 26)).alloc (.cells #[.pointer none, .slice none 0 0] tB)).heap.size = w.heap.size + 2 := by simp
  have hsb : (w.alloc (.cells #[.slice a1 nf cap1, .slice a2 n cap2] 26)).heap.size = w.heap.size + 1 := by simp
  have g0 := (unhide T0).b0
  have g1 := (unhide T0).b1
  go_enter Tryz.func13, Tryz.ntmps13
  go_wp2_with fail
  refine (implLineCounts_any lo _ _ nf fns n f _ ((unhide H1).below (unhide T0).below) ((unhide H2).below (unhide T0).below)).mono ?_
  rintro e w1 ⟨⟨lv, lc, F2, rfl, hans2, hrow2⟩, hb1⟩
  have T1 := hide ((unhide T0).go hb1)
  rw [hsb] at HX0
  have HX1 := hide ((hb1.block (w.heap.size + 1) (by omega)).trans (unhide HX0))
  have hs1 : w.heap.size + 2 ≤ w1.heap.size := by have := hb1.size; omega
  rw [hsa] at hrow2
  clear hb1 g0 g1 hsa T0 HX0
  obtain ⟨la, lcp, rfl⟩ := hrow2.shape
  have HLR := hide (And.intro hans2 hrow2)
  clear hans2 hrow2
  have g0 := (unhide T1).b0
  have g1 := (unhide T1).b1
  go_wp2_with fail
  refine (implFnCounts_any sortsInts compactsInts lo _ _ nf fns n f _ ((unhide H1).below (unhide T1).below) ((unhide H2).below (unhide T1).below)).mono ?_
  rintro e w2 ⟨⟨rv, rn, F, rfl, hans, hrow⟩, hb2⟩
  have T2 := hide ((unhide T1).go hb2)
  have HX2 := hide ((hb2.block (w.heap.size + 1) (by omega)).trans (unhide HX1))
  have hs2 : w.heap.size + 2 ≤ w2.heap.size := by have := hb2.size; omega
  have HLR2 := hide (And.intro (unhide HLR).1 ((unhide HLR).2.below hb2))
  obtain ⟨ra, rc, rfl⟩ := hrow.shape
  have HR := hide (And.intro hans hrow)
  have hrn : rn ≤ 300 ∧ (rn = nf ∨ rn = 0) := by
    rcases hans with ⟨h, e, -⟩ | ⟨-, e⟩
    · exact ⟨by rw [e]; exact h.1.2.1, .inl e⟩
    · exact ⟨by omega, .inr e⟩
  clear hans hrow hb2 T1 g0 g1 HX1 HLR
  obtain ⟨l, hl, -, -⟩ := LcIs.exists f n
  have HL := hide hl
  clear hl
  go_wp2_with fail
  go_loopg [14] rn (fun gg i W => ∃ (k : Nat) (v : Value), k + gg = rn ∧ i = .int .i64 k ∧ BI w2 (w.heap.size + 1) (w.heap.size + 1) v (repTo f n fns l k) W)
  case atStart => exact ⟨0, .slice none 0 0, by omega, rfl, ⟨⟨Nat.le_refl _, ⟨_, .inl rfl, unhide HX2⟩, World.ownsRow_nil _ _ _ _⟩, (fun x hx => by cases hx), fun _ _ _ => rfl, Nat.le_refl _, Below.refl _ _⟩⟩
  case round =>
    obtain ⟨k, v, hk, rfl, hI⟩ := hrel
    obtain ⟨wo, hwo⟩ : ∃ wo, wo = wr := ⟨_, rfl⟩
    subst hwo
    have HI := hide hI
    have hso : w2.heap.size ≤ wo.heap.size := hI.size
    have HBO : Hid (Below w.heap.size w wo) := hide ((unhide T2).below.trans (hI.below.mono (by omega)))
    have HTO : Hid (TrBox w (.slice a1 nf cap1) (.slice a2 n cap2) wo) := hide (Below.trans (unhide T2) hI.below)
    by_cases hlt : k < rn
    · obtain ⟨hans, hrow⟩ := unhide HR
      have hS : Sound nf fns n f := by
        rcases hans with ⟨h, -⟩ | ⟨-, e⟩
        · exact h
        · omega
      obtain ⟨rfl, hF⟩ : nf = rn ∧ ∀ i j, i < nf → j < 4 → F i j = fcRow f n i j := by
        rcases hans with ⟨-, e, h⟩ | ⟨h, -⟩
        · exact ⟨e.symm, h⟩
        · exact absurd hS h
      have HS := hide hS
      have HSM := hide (small_of hS (unhide HL))
      have hn3 : n ≤ 3000 := hS.1.2.2.1
      have hnf : nf ≤ 300 := hS.1.2.1
      have hnz := hS.1.2.2.2 k hlt
      obtain ⟨L, hL⟩ : ∃ L, L = repTo f n fns l k := ⟨_, rfl⟩
      rw [← hL] at HI
      have hLl : L.length ≤ k * 800000000 := by rw [hL]; exact repTo_len (unhide HSM) hn3 k (by omega) (fun i hi => hS.1.2.2.2 i (by omega))
      have HLD := hide hL
      obtain ⟨_, _, ec, hrow⟩ := hrow
      cases ec
      obtain ⟨rb, rfl, hrl, hcr⟩ := hrow k hlt
      have c0 := (hcr 0 (by omega)).1
      have hbk : wo.heap[rb]? = w2.heap[rb]? := hI.keeps rb (cell_lt c0) (by omega)
      have c1 := (hcr 1 (by omega)).1
      have c2 := (hcr 2 (by omega)).1
      have c3 := (hcr 3 (by omega)).1
      have b1 := fcRow_bound f k 1 (by omega) n
      have b2 := fcRow_bound f k 2 (by omega) n
      have b3 := fcRow_bound f k 3 (by omega) n
      obtain ⟨c, hc⟩ : ∃ c : Nat, c = (fcRow f n k 1).toNat := ⟨_, rfl⟩
      obtain ⟨s, hs⟩ : ∃ s : Nat, s = (fcRow f n k 2).toNat := ⟨_, rfl⟩
      obtain ⟨t, ht⟩ : ∃ t : Nat, t = (fcRow f n k 3).toNat := ⟨_, rfl⟩
      have hc' : fcRow f n k 1 = (c : Int) := by omega
      have hs' : fcRow f n k 2 = (s : Int) := by omega
      have ht' : fcRow f n k 3 = (t : Int) := by omega
      rw [hF k 0 hlt (by omega), fcRow_fn, ← World.cell?_of_block hbk] at c0
      rw [hF k 1 hlt (by omega), hc', ← World.cell?_of_block hbk] at c1
      rw [hF k 2 hlt (by omega), hs', ← World.cell?_of_block hbk] at c2
      rw [hF k 3 hlt (by omega), ht', ← World.cell?_of_block hbk] at c3
      rw [hc'] at b1
      rw [hs'] at b2
      rw [ht'] at b3
      replace c0 : wo.cell? ⟨rb, k * 4, none⟩ = some (.int .i64 (k : Int)) := c0
      replace c1 : wo.cell? ⟨rb, k * 4 + 1, none⟩ = some (.int .i64 (c : Int)) := c1
      replace c2 : wo.cell? ⟨rb, k * 4 + 2, none⟩ = some (.int .i64 (s : Int)) := c2
      replace c3 : wo.cell? ⟨rb, k * 4 + 3, none⟩ = some (.int .i64 (t : Int)) := c3
      have HCS := hide (And.intro hc' (And.intro hc (And.intro hs ht)))
      clear hc hs ht hc' hs' ht' hrow hcr hF hans hS hL hbk hrl hrn
      have hi0 : (0 : Int) ≤ (k : Int) := by omega
      have hi1 : (k : Int) < (nf : Int) := by omega
      have wi : IntKind.i64.wrap ((k : Int) + 1) = ((k + 1 : Nat) : Int) := by rw [IntKind.wrap_i64]; omega
      have HBA := hide (below_new wo (.cells #[.int .i64 (k : Int), .int .i64 (c : Int), .int .i64 (s : Int), .int .i64 (t : Int)] 97))
      by_cases hz : c = 0
      · have hcb : ((c : Int) == 0) = true := by rw [hz]; rfl
        have HRP : Hid (repTo f n fns l (k + 1) = L) := hide (by
          show repTo f n fns l k ++ repFn f n fns l k = L
          rw [← unhide HLD]
          unfold repFn
          rw [if_pos (by rw [(unhide HCS).1, hz]; rfl), List.append_nil])
        clear hz hI
        as_aux_lemma =>
          go_wp2_with fail
          go_roundg (nf - (k + 1))
          case measure => omega
          case rel => exact ⟨k + 1, v, by omega, by go_num, by rw [unhide HRP]; exact (unhide HI).go (by omega) (unhide HBA)⟩
      · have hcb : ((c : Int) == 0) = false := by simp; omega
        have HCZ := hide hz
        clear hz hI
        as_aux_lemma =>
          go_upto_region 7 with fail
          have HX1 := hide (heap_alloc_new wo (.cells #[.int .i64 (k : Int), .int .i64 (c : Int), .int .i64 (s : Int), .int .i64 (t : Int)] 97))
          have hsA : (wo.alloc (.cells #[.int .i64 (k : Int), .int .i64 (c : Int), .int .i64 (s : Int), .int .i64 (t : Int)] 97)).heap.size = wo.heap.size + 1 := by simp
          have HI1 := hide ((unhide HI).go (by omega) (unhide HBA))
          generalize wo.alloc (.cells #[.int .i64 (k : Int), .int .i64 (c : Int), .int .i64 (s : Int), .int .i64 (t : Int)] 97) = W1 at HX1 HBA hsA HI1 ⊢
          have HT1 := hide ((unhide HTO).go (unhide HBA))
          obtain ⟨_, _, ec, hn1', hst⟩ := (unhide H1).below (unhide HT1).below
          cases ec
          obtain ⟨sb, so, rfl, hsc, -, -⟩ := hst k hlt
          have hsbl : sb < w.heap.size := by
            obtain ⟨_, _, ec, -, hst⟩ := unhide H1
            cases ec
            obtain ⟨_, _, e, hsc, -⟩ := hst k hlt
            cases e
            exact cell_lt hsc
          have HSS : Hid (∀ W : World, W.heap[wo.heap.size]? = some (.cells #[.int .i64 (k : Int), .int .i64 (c : Int), .int .i64 (s : Int), .int .i64 (t : Int)] 97) → Below (w.heap.size + 1) W1 W → W.cell? ⟨wo.heap.size, 0, none⟩ = some (.int .i64 (k : Int)) ∧ W.cell? ⟨wo.heap.size, 1, none⟩ = some (.int .i64 (c : Int)) ∧ W.cell? ⟨wo.heap.size, 2, none⟩ = some (.int .i64 (s : Int)) ∧ W.cell? ⟨wo.heap.size, 3, none⟩ = some (.int .i64 (t : Int)) ∧ W.cell? ⟨w.heap.size, 0, none⟩ = some (.slice (some ⟨sb, so, none⟩) nf cap1) ∧ W.cell? ⟨sb, so + k, none⟩ = some (.string (fns k))) := hide (fun W hx hb => ⟨by rw [cell_of_row _ _ 0 _ _ _ hx]; rfl, by rw [cell_of_row _ _ 1 _ _ _ hx]; rfl, by rw [cell_of_row _ _ 2 _ _ _ hx]; rfl, by rw [cell_of_row _ _ 3 _ _ _ hx]; rfl, by rw [World.cell?_of_block (hb.block _ (by show w.heap.size < _; omega))]; exact (unhide HT1).b0, by rw [World.cell?_of_block (hb.block _ (by show sb < _; omega))]; exact hsc⟩)
          have HTAB := hide (tab_go (unhide HTAB0) (unhide HT1).below)
          clear hst hn1' c0 c1 c2 c3 HI HTO HBO
          refine wp_region_held_drew (S := fun W => W.cell? ⟨wo.heap.size, 0, none⟩ = some (.int .i64 (k : Int)) ∧ W.cell? ⟨wo.heap.size, 1, none⟩ = some (.int .i64 (c : Int)) ∧ W.cell? ⟨wo.heap.size, 2, none⟩ = some (.int .i64 (s : Int)) ∧ W.cell? ⟨wo.heap.size, 3, none⟩ = some (.int .i64 (t : Int)) ∧ W.cell? ⟨w.heap.size, 0, none⟩ = some (.slice (some ⟨sb, so, none⟩) nf cap1) ∧ W.cell? ⟨sb, so + k, none⟩ = some (.string (fns k))) (by kernel_rfl) (unhide HSS _ (unhide HX1) ((Below.refl _ W1).drew)) (fun hHeld => ?_)
          refine takeAt 0 (some 21) (v := ?v0a) (by decide) rfl (by kernel_rfl) (by kernel_rfl) (by kernel_rfl) (fun _ _ _ h => h) (by rfl) ?hy0a hHeld ?r0a
          case hy0a => (intro wx hSw; obtain ⟨s0, s1, s2, s3, s4, s5⟩ := hSw; go_simp; with_reducible rfl)
          simp only [Act.put, List.setIfInBounds_toArray, List.set_cons_zero, List.set_cons_succ]
          refine takeAt 1 (some 22) (v := ?v1a) (by decide) rfl (by kernel_rfl) (by kernel_rfl) (by kernel_rfl) (fun _ _ _ h => h) (by rfl) ?hy1a hHeld ?r1a
          case hy1a => (intro wx hSw; obtain ⟨s0, s1, s2, s3, s4, s5⟩ := hSw; go_simp; with_reducible rfl)
          simp only [Act.put, List.setIfInBounds_toArray, List.set_cons_zero, List.set_cons_succ]
          refine takeAt 2 (some 23) (v := ?v2a) (by decide) rfl (by kernel_rfl) (by kernel_rfl) (by kernel_rfl) (fun _ _ _ h => h) (by rfl) ?hy2a hHeld ?r2a
          case hy2a => (intro wx hSw; obtain ⟨s0, s1, s2, s3, s4, s5⟩ := hSw; go_simp; with_reducible rfl)
          simp only [Act.put, List.setIfInBounds_toArray, List.set_cons_zero, List.set_cons_succ]
          refine takeAt 3 (some 24) (v := ?v3a) (by decide) rfl (by kernel_rfl) (by kernel_rfl) (by kernel_rfl) (fun _ _ _ h => h) (by rfl) ?hy3a hHeld ?r3a
          case hy3a => (intro wx hSw; obtain ⟨s0, s1, s2, s3, s4, s5⟩ := hSw; go_simp; with_reducible rfl)
          simp only [Act.put, List.setIfInBounds_toArray, List.set_cons_zero, List.set_cons_succ]
          refine takeAt 4 (some 25) (v := ?v4a) (by decide) rfl (by kernel_rfl) (by kernel_rfl) (by kernel_rfl) (fun _ _ _ h => h) (by rfl) ?hy4a hHeld ?r4a
          case hy4a => (intro wx hSw; obtain ⟨s0, s1, s2, s3, s4, s5⟩ := hSw; go_simp; with_reducible rfl)
          simp only [Act.put, List.setIfInBounds_toArray, List.set_cons_zero, List.set_cons_succ]
          refine takeAt 5 (some 26) (v := ?v5a) (by decide) rfl (by kernel_rfl) (by kernel_rfl) (by kernel_rfl) (fun _ _ _ h => h) (by rfl) ?hy5a hHeld ?r5a
          case hy5a => (intro wx hSw; obtain ⟨s0, s1, s2, s3, s4, s5⟩ := hSw; go_simp; with_reducible rfl)
          simp only [Act.put, List.setIfInBounds_toArray, List.set_cons_zero, List.set_cons_succ]
          refine takeAt 6 (some 27) (v := ?v6a) (by decide) rfl (by kernel_rfl) (by kernel_rfl) (by kernel_rfl) (fun _ _ _ h => h) (by rfl) ?hy6a hHeld ?r6a
          case hy6a => (intro wx hSw; obtain ⟨s0, s1, s2, s3, s4, s5⟩ := hSw; go_simp; with_reducible rfl)
          simp only [Act.put, List.setIfInBounds_toArray, List.set_cons_zero, List.set_cons_succ]
          refine wpAnyH_ready (rs := [7]) (by kernel_rfl) (by simp) ?_
          refine AllReadyH.cons rfl (fun KK hK => ?_) AllReadyH.nil
          go_simp
          refine (fnText_any k c s t (fns k) _ (by omega) (by omega) (by omega) (by omega) hnz (tab_go (unhide HTAB) (Below.refl _ _).drew)).mono ?_
          rintro e wa ⟨rfl, hb⟩
          have HBwa : Hid (Below W1.heap.size W1 wa) := hide ((Below.refl _ _).drew.trans hb)
          have HXa := hide (((unhide HBwa).block wo.heap.size (by omega)).trans (unhide HX1))
          have HIa := hide ((unhide HI1).go (by omega) (unhide HBwa))
          clear hb
          obtain ⟨x9, hx9⟩ : ∃ x, x = fnLineT k (fns k) c s t := ⟨_, rfl⟩
          have hzl : x9.size ≤ 500000 := by rw [hx9]; exact fnLineT_size (by omega) (by omega) (by omega) (by omega) hnz
          rw [← hx9]
          have HLT := hide hx9
          clear hx9
          refine hK.out _ _ (unhide HSS _ (unhide HXa) ((unhide HBwa).mono (by omega))) (fun hHeld => ?_)
          clear hK KK
          try simp only [Act.put, List.setIfInBounds_toArray, List.getElem_toArray, List.getElem_cons_succ, List.getElem_cons_zero, List.set_cons_zero, List.set_cons_succ]
          refine wpAnyH_ready (rs := [8]) (by kernel_rfl) (by simp) ?_
          refine AllReadyH.cons rfl (fun KK hK => ?_) AllReadyH.nil
          go_simp
          have hsza : wo.heap.size + 1 ≤ wa.heap.size := by have := (unhide HBwa).size; omega
          refine (writeString_b (w.heap.size + 1) (w.heap.size + 1) v (byteCells L) x9 wa (unhide HIa).bld (by rw [byteCells_length]; omega) (by omega)).mono ?_
          rintro e wb ⟨rfl, v', hbl, hkp⟩
          obtain ⟨L2, hL2⟩ : ∃ L2, L2 = L ++ bl x9 := ⟨_, rfl⟩
          rw [← len_cells, ← hL2] at hbl
          have HIb := hide ((unhide HIa).put hbl hkp)
          have HXb := hide ((unhide HIa).other hkp (unhide HXa) (by omega) (by decide))
          have hL2l : L2.length ≤ k * 800000000 + 500000 := by rw [hL2, List.length_append, bl_len]; omega
          have HL2 := hide hL2
          refine hK.out _ _ (unhide HSS _ (unhide HXb) (((unhide HBwa).mono (by omega)).trans hkp.below)) (fun hHeld => ?_)
          clear hK KK hbl hkp hL2 hHeld HXa HIa HX1 HI1 HBA hsc HSS HBwa HT1 hsA hsza
          refine wpAnyH_done (by kernel_rfl) ?_ _
          obtain ⟨hans, hrow⟩ := unhide HLR2
          obtain ⟨rfl, hF⟩ : l.length = lc ∧ ∀ i j (h : i < l.length), j < 3 → F2 i j = lcCell l[i] j := by
            rcases hans with ⟨-, l2, hl2, e, h⟩ | ⟨h, -⟩
            · obtain rfl := hl2.unique (unhide HL)
              exact ⟨e.symm, h⟩
            · exact absurd (unhide HS) h
          have HR7 := hide (And.intro hrow hF)
          have hll : l.length ≤ 3000 := (unhide HSM).1
          clear hans hrow hF HLR2
          go_wp2_with fail
          go_loopg [32] l.length (fun gg i W => ∃ (q : Nat) (v : Value), q + gg = l.length ∧ i = .int .i64 q ∧ BI w2 (w.heap.size + 1) (w.heap.size + 1) v (L2 ++ repRow k l q) W ∧ W.heap[wo.heap.size]? = some (.cells #[.int .i64 (k : Int), .int .i64 (c : Int), .int .i64 (s : Int), .int .i64 (t : Int)] 97))
          case atStart => exact ⟨0, v', by omega, rfl, by rw [repRow_zero, List.append_nil]; exact unhide HIb, unhide HXb⟩
          case round =>
            clear HIb HXb
            obtain ⟨q, v3, hq, rfl, hI, hxc⟩ := hrel
            have HI := hide hI
            have HXC := hide hxc
            have hrl := repRow_len (i := k) (unhide HSM) q (by omega)
            have hL3 : (L2 ++ repRow k l q).length ≤ 300000000000 := by rw [List.length_append]; omega
            have hsw : w2.heap.size ≤ wr.heap.size := hI.size
            have HTW : Hid (Tab wr) := hide (tab_go (unhide HTAB0) ((unhide T2).below.trans (hI.below.mono (by omega))))
            by_cases hql : q < l.length
            · as_aux_lemma =>
                obtain ⟨hrow, hF⟩ := unhide HR7
                obtain ⟨_, _, ec, hrow⟩ := hrow
                cases ec
                obtain ⟨rb2, rfl, hlo, hcr⟩ := hrow q hql
                have c0 := (hcr 0 (by omega)).1
                have c1 := (hcr 1 (by omega)).1
                have c2 := (hcr 2 (by omega)).1
                have hbk : wr.heap[rb2]? = w2.heap[rb2]? := hI.keeps rb2 (cell_lt c0) (by omega)
                rw [hF q 0 hql (by omega)] at c0
                rw [hF q 1 hql (by omega)] at c1
                rw [hF q 2 hql (by omega)] at c2
                rw [← World.cell?_of_block hbk] at c0 c1 c2
                have hsm := (unhide HSM).2 l[q] (List.getElem_mem hql)
                have HRS := hide (repRow_succ k l q hql)
                obtain ⟨r, hr⟩ : ∃ r, r = l[q] := ⟨_, rfl⟩
                rw [← hr] at c0 c1 c2 hsm HRS
                clear hr
                obtain ⟨rf, rl, rn⟩ := r
                obtain ⟨u, rfl⟩ : ∃ u : Nat, rl = (u : Int) := ⟨rl.toNat, by have : 0 ≤ rl := hsm.1; omega⟩
                obtain ⟨m, rfl⟩ : ∃ m : Nat, rn = (m : Int) := ⟨rn.toNat, by have : 0 ≤ rn := hsm.2.2.1; omega⟩
                have hu : u ≤ 100000 := by have : (u : Int) ≤ 100000 := hsm.2.1; omega
                have hm : m ≤ 100000 := by have : (m : Int) ≤ 100000 := hsm.2.2.2; omega
                replace c0 : wr.cell? ⟨rb2, q * 3, none⟩ = some (.int .i64 rf) := c0
                replace c1 : wr.cell? ⟨rb2, q * 3 + 1, none⟩ = some (.int .i64 (u : Int)) := c1
                replace c2 : wr.cell? ⟨rb2, q * 3 + 2, none⟩ = some (.int .i64 (m : Int)) := c2
                have x0 : wr.cell? ⟨wo.heap.size, 0, none⟩ = some (.int .i64 (k : Int)) := by rw [cell_of_row _ _ 0 _ _ _ hxc]; rfl
                have hi0 : (0 : Int) ≤ (q : Int) := by omega
                have hi1 : (q : Int) < (l.length : Int) := by omega
                have wi2 : IntKind.i64.wrap ((q : Int) + 1) = ((q + 1 : Nat) : Int) := by rw [IntKind.wrap_i64]; omega
                have HBA := hide (below_new wr (.cells #[.int .i64 rf, .int .i64 (u : Int), .int .i64 (m : Int)] 104))
                have x0' := cell_below (unhide HBA) x0
                have HXA := hide (((unhide HBA).block _ (Array.getElem?_eq_some_iff.1 hxc).1).trans hxc)
                clear hrow hcr hF hsm hxc hI hbk
                by_cases he : rf = (k : Int)
                · have heb : (rf == (k : Int)) = true := by rw [he]; simp
                  rw [if_pos he] at HRS
                  clear he
                  go_upto_region 12 with fail
                  have HX1 := hide (heap_alloc_new wr (.cells #[.int .i64 rf, .int .i64 (u : Int), .int .i64 (m : Int)] 104))
                  have hsA : (wr.alloc (.cells #[.int .i64 rf, .int .i64 (u : Int), .int .i64 (m : Int)] 104)).heap.size = wr.heap.size + 1 := by simp
                  have HI1 := hide ((unhide HI).go (by omega) (unhide HBA))
                  generalize wr.alloc (.cells #[.int .i64 rf, .int .i64 (u : Int), .int .i64 (m : Int)] 104) = W8 at HX1 HBA hsA HI1 HXA ⊢
                  have HTAB := hide (tab_go (unhide HTW) (unhide HBA))
                  have HS8 : Hid (∀ W : World, W.heap[wr.heap.size]? = some (.cells #[.int .i64 rf, .int .i64 (u : Int), .int .i64 (m : Int)] 104) → W.cell? ⟨wr.heap.size, 1, none⟩ = some (.int .i64 (u : Int)) ∧ W.cell? ⟨wr.heap.size, 2, none⟩ = some (.int .i64 (m : Int))) := hide (fun W hx => ⟨by rw [cell_of_row _ _ 1 _ _ _ hx]; rfl, by rw [cell_of_row _ _ 2 _ _ _ hx]; rfl⟩)
                  have HSS : Hid (∀ W, Below W8.heap.size W8 W → W.cell? ⟨wr.heap.size, 1, none⟩ = some (.int .i64 (u : Int)) ∧ W.cell? ⟨wr.heap.size, 2, none⟩ = some (.int .i64 (m : Int))) := hide (fun W hb => unhide HS8 W ((hb.block _ (by omega)).trans (unhide HX1)))
                  clear c0 c1 c2 x0 x0' HBA
                  refine wp_region_held_drew (S := fun W => W.cell? ⟨wr.heap.size, 1, none⟩ = some (.int .i64 (u : Int)) ∧ W.cell? ⟨wr.heap.size, 2, none⟩ = some (.int .i64 (m : Int))) (by kernel_rfl) (unhide HSS _ (Below.refl _ _).drew) (fun hHeld => ?_)
                  refine takeAt 0 (some 41) (v := ?v0b) (by decide) rfl (by kernel_rfl) (by kernel_rfl) (by kernel_rfl) (fun _ _ _ h => h) (by rfl) ?hy0b hHeld ?r0b
                  case hy0b => (intro wx hSw; obtain ⟨s1, s2⟩ := hSw; go_simp; with_reducible rfl)
                  simp only [Act.put, List.setIfInBounds_toArray, List.set_cons_zero, List.set_cons_succ]
                  refine takeAt 1 (some 42) (v := ?v1b) (by decide) rfl (by kernel_rfl) (by kernel_rfl) (by kernel_rfl) (fun _ _ _ h => h) (by rfl) ?hy1b hHeld ?r1b
                  case hy1b => (intro wx hSw; obtain ⟨s1, s2⟩ := hSw; go_simp; with_reducible rfl)
                  simp only [Act.put, List.setIfInBounds_toArray, List.set_cons_zero, List.set_cons_succ]
                  refine takeAt 5 (some 46) (v := ?v5b) (by decide) rfl (by kernel_rfl) (by kernel_rfl) (by kernel_rfl) (fun _ _ _ h => h) (by rfl) ?hy5b hHeld ?r5b
                  case hy5b => (intro wx hSw; obtain ⟨s1, s2⟩ := hSw; go_simp; with_reducible rfl)
                  simp only [Act.put, List.setIfInBounds_toArray, List.set_cons_zero, List.set_cons_succ]
                  refine takeAt 6 (some 47) (v := ?v6b) (by decide) rfl (by kernel_rfl) (by kernel_rfl) (by kernel_rfl) (fun _ _ _ h => h) (by rfl) ?hy6b hHeld ?r6b
                  case hy6b => (intro wx hSw; obtain ⟨s1, s2⟩ := hSw; go_simp; with_reducible rfl)
                  simp only [Act.put, List.setIfInBounds_toArray, List.set_cons_zero, List.set_cons_succ]
                  refine wpAnyH_ready (rs := [2]) (by kernel_rfl) (by simp) ?_
                  refine AllReadyH.cons rfl (fun KK hK => ?_) AllReadyH.nil
                  go_simp
                  refine (itoa_any u _ (by omega) (tab_go (unhide HTAB) (Below.refl _ _).drew)).mono ?_
                  rintro e we ⟨rfl, hb⟩
                  have HBwe : Hid (Below W8.heap.size W8 we) := hide ((Below.refl _ _).drew.trans hb)
                  clear hb
                  have zdwe := decS_size (u := u) (by omega)
                  refine hK.out _ _ (unhide HSS _ (unhide HBwe)) (fun hHeld => ?_)
                  clear hK KK
                  try simp only [Act.put, List.setIfInBounds_toArray, List.getElem_toArray, List.getElem_cons_succ, List.getElem_cons_zero, List.set_cons_zero, List.set_cons_succ]
                  obtain ⟨y1, hy1⟩ : ∃ x, x = (⟨#[9]⟩ : ByteArray) ++ (decS u) := ⟨_, rfl⟩
                  have qy1 : (⟨#[9]⟩ : ByteArray).size + (decS u).size ≤ 140000000000000 := by have hy : ((decS u) : ByteArray).size ≤ 100001 := (by omega); have hx : ((⟨#[9]⟩ : ByteArray) : ByteArray).size ≤ 100001 := (by show _ ≤ _; decide); omega
                  have zy1 : y1.size ≤ 300000 := by have hy : ((decS u) : ByteArray).size ≤ 100001 := (by omega); have hx : ((⟨#[9]⟩ : ByteArray) : ByteArray).size ≤ 100001 := (by show _ ≤ _; decide); rw [hy1, ByteArray.size_append]; omega
                  refine takeAt 3 (some 44) (v := .string y1) (by decide) rfl (by kernel_rfl) (by kernel_rfl) (by kernel_rfl) (fun _ _ _ h => h) (by rfl) ?hy3b hHeld ?r3b
                  case hy3b => (intro wx hSw; rw [hy1]; exact exec_add 9 9 _ _ rfl (⟨#[9]⟩ : ByteArray) (decS u) (by rfl) (by rfl) qy1 wx)
                  simp only [Act.put, List.setIfInBounds_toArray, List.set_cons_zero, List.set_cons_succ]
                  have Hy1 := hide hy1
                  clear hy1 qy1
                  obtain ⟨y2, hy2⟩ : ∃ x, x = y1 ++ (⟨#[32]⟩ : ByteArray) := ⟨_, rfl⟩
                  have qy2 : y1.size + (⟨#[32]⟩ : ByteArray).size ≤ 140000000000000 := by have hy : ((⟨#[32]⟩ : ByteArray) : ByteArray).size ≤ 100001 := (by show _ ≤ _; decide); skip; omega
                  have zy2 : y2.size ≤ 500000 := by have hy : ((⟨#[32]⟩ : ByteArray) : ByteArray).size ≤ 100001 := (by show _ ≤ _; decide); skip; rw [hy2, ByteArray.size_append]; omega
                  refine takeAt 4 (some 45) (v := .string y2) (by decide) rfl (by kernel_rfl) (by kernel_rfl) (by kernel_rfl) (fun _ _ _ h => h) (by rfl) ?hy4b hHeld ?r4b
                  case hy4b => (intro wx hSw; rw [hy2]; exact exec_add 9 9 _ _ rfl y1 (⟨#[32]⟩ : ByteArray) (by rfl) (by rfl) qy2 wx)
                  simp only [Act.put, List.setIfInBounds_toArray, List.set_cons_zero, List.set_cons_succ]
                  have Hy2 := hide hy2
                  clear hy2 qy2
                  refine wpAnyH_ready (rs := [7]) (by kernel_rfl) (by simp) ?_
                  refine AllReadyH.cons rfl (fun KK hK => ?_) AllReadyH.nil
                  go_simp
                  refine (itoa_any m _ (by omega) (tab_go (unhide HTAB) (unhide HBwe))).mono ?_
                  rintro e wf ⟨rfl, hb⟩
                  have HBwf : Hid (Below W8.heap.size W8 wf) := hide ((unhide HBwe).trans (hb.mono (unhide HBwe).size))
                  clear hb
                  have zdwf := decS_size (u := m) (by omega)
                  refine hK.out _ _ (unhide HSS _ (unhide HBwf)) (fun hHeld => ?_)
                  clear hK KK
                  try simp only [Act.put, List.setIfInBounds_toArray, List.getElem_toArray, List.getElem_cons_succ, List.getElem_cons_zero, List.set_cons_zero, List.set_cons_succ]
                  obtain ⟨y3, hy3⟩ : ∃ x, x = y2 ++ (decS m) := ⟨_, rfl⟩
                  have qy3 : y2.size + (decS m).size ≤ 140000000000000 := by have hy : ((decS m) : ByteArray).size ≤ 100001 := (by omega); skip; omega
                  have zy3 : y3.size ≤ 700000 := by have hy : ((decS m) : ByteArray).size ≤ 100001 := (by omega); skip; rw [hy3, ByteArray.size_append]; omega
                  refine takeAt 8 (some 49) (v := .string y3) (by decide) rfl (by kernel_rfl) (by kernel_rfl) (by kernel_rfl) (fun _ _ _ h => h) (by rfl) ?hy8b hHeld ?r8b
                  case hy8b => (intro wx hSw; rw [hy3]; exact exec_add 9 9 _ _ rfl y2 (decS m) (by rfl) (by rfl) qy3 wx)
                  simp only [Act.put, List.setIfInBounds_toArray, List.set_cons_zero, List.set_cons_succ]
                  have Hy3 := hide hy3
                  clear hy3 qy3
                  obtain ⟨y4, hy4⟩ : ∃ x, x = y3 ++ (⟨#[10]⟩ : ByteArray) := ⟨_, rfl⟩
                  have qy4 : y3.size + (⟨#[10]⟩ : ByteArray).size ≤ 140000000000000 := by have hy : ((⟨#[10]⟩ : ByteArray) : ByteArray).size ≤ 100001 := (by show _ ≤ _; decide); skip; omega
                  have zy4 : y4.size ≤ 900000 := by have hy : ((⟨#[10]⟩ : ByteArray) : ByteArray).size ≤ 100001 := (by show _ ≤ _; decide); skip; rw [hy4, ByteArray.size_append]; omega
                  refine takeAt 9 (some 50) (v := .string y4) (by decide) rfl (by kernel_rfl) (by kernel_rfl) (by kernel_rfl) (fun _ _ _ h => h) (by rfl) ?hy9b hHeld ?r9b
                  case hy9b => (intro wx hSw; rw [hy4]; exact exec_add 9 9 _ _ rfl y3 (⟨#[10]⟩ : ByteArray) (by rfl) (by rfl) qy4 wx)
                  simp only [Act.put, List.setIfInBounds_toArray, List.set_cons_zero, List.set_cons_succ]
                  have Hy4 := hide hy4
                  clear hy4 qy4
                  have HLT2 : Hid (y4 = lineT u m) := hide (by
                    unfold lineT
                    rw [unhide Hy4, unhide Hy3, unhide Hy2, unhide Hy1])
                  have HIf := hide ((unhide HI1).go (by omega) (unhide HBwf))
                  have HXf := hide (((unhide HBwf).block wr.heap.size (by omega)).trans (unhide HX1))
                  have HXCf := hide (((unhide HBwf).block wo.heap.size (by have := (Array.getElem?_eq_some_iff.1 (unhide HXA)).1; omega)).trans (unhide HXA))
                  have hszf : w2.heap.size ≤ wf.heap.size := (unhide HIf).size
                  refine wpAnyH_ready (rs := [10]) (by kernel_rfl) (by simp) ?_
                  refine AllReadyH.cons rfl (fun KK hK => ?_) AllReadyH.nil
                  go_simp
                  refine (writeString_b (w.heap.size + 1) (w.heap.size + 1) v3 (byteCells (L2 ++ repRow k l q)) y4 wf (unhide HIf).bld (by rw [byteCells_length]; omega) (by omega)).mono ?_
                  rintro e wg ⟨rfl, v4, hbl, hkp⟩
                  rw [← len_cells, List.append_assoc, unhide HLT2, ← lineT_of u m, ← unhide HRS] at hbl
                  have HIg := hide ((unhide HIf).put hbl hkp)
                  have HXg := hide ((unhide HIf).other hkp (unhide HXf) (by omega) (by decide))
                  have HXCg := hide ((unhide HIf).other hkp (unhide HXCf) (by omega) (by decide))
                  refine hK.out _ _ (unhide HS8 _ (unhide HXg)) (fun hHeld => ?_)
                  clear hK KK hbl hkp hHeld HXf HIf HXCf HX1 HI1 HBwe HBwf HSS HS8 HXA Hy1 Hy2 Hy3 Hy4
                  refine wpAnyH_done (by kernel_rfl) ?_ _
                  go_wp2_with fail
                  go_roundg (l.length - (q + 1))
                  case measure => omega
                  case rel => exact ⟨q + 1, v4, by omega, by go_num, unhide HIg, unhide HXCg⟩
                · have heb : (rf == (k : Int)) = false := by simp [he]
                  rw [if_neg he, List.append_nil] at HRS
                  clear he
                  go_wp2_with fail
                  go_roundg (l.length - (q + 1))
                  case measure => omega
                  case rel => exact ⟨q + 1, v3, by omega, by go_num, by rw [unhide HRS]; exact (unhide HI).go (by omega) (unhide HBA), unhide HXA⟩
            · obtain rfl : q = l.length := by omega
              as_aux_lemma =>
                have HRP : Hid (repTo f n fns l (k + 1) = L2 ++ repRow k l l.length) := hide (by
                  show repTo f n fns l k ++ repFn f n fns l k = _
                  rw [← unhide HLD, unhide HL2, unhide HLT]
                  obtain ⟨e1, e2, e3, e4⟩ := unhide HCS
                  have hz := unhide HCZ
                  unfold repFn
                  rw [if_neg (by rw [e1]; omega), ← e2, ← e3, ← e4, List.append_assoc])
                go_wp2_with fail
                go_roundg (nf - (k + 1))
                case measure => omega
                case rel => exact ⟨k + 1, v3, by omega, by go_num, by rw [unhide HRP]; exact (unhide HI).go (by omega) (Below.refl _ _)⟩
    · obtain rfl : k = rn := by omega
      go_wp2_with fail
      refine (Tryz.Builder_String_any (w.heap.size + 1) (w.heap.size + 1) (repTo f n fns l k) _ (unhide HI).bld.is (by omega)).mono ?_
      rintro e w9 ⟨rfl, hb9⟩
      have HFB := hide ((unhide HBO).trans (hb9.mono (by omega)))
      have HAN : Hid (RpAns nf fns n f ⟨(repTo f n fns l k).toArray⟩) := hide (by
        rcases (unhide HR).1 with ⟨h, e, -⟩ | ⟨h, e⟩
        · subst e; exact .inl ⟨h, l, unhide HL, rfl⟩
        · subst e; exact .inr ⟨h, rfl⟩)
      clear hb9
      go_wp2
      go_ret
      exact ⟨⟨_, rfl, unhide HAN⟩, unhide HFB⟩
end Go.Proofs.YtmnmeaeicjhkhaaGreatDoor
