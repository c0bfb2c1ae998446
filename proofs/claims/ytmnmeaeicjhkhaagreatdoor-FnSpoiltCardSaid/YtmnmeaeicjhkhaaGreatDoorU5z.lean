import Derived.Test.YtmnmeaeicjhkhaaGreatDoorU4z
import Derived.Deep.LoopGhost
import Derived.Deep.RegionHeld3
import Derived.Deep.DeepCutAuto
namespace Go.Proofs.YtmnmeaeicjhkhaaGreatDoor
open Go.RowKit Go.Lib

theorem fcRow_fn (f : Nat → M) (i : Nat) : ∀ n, fcRow f n i 0 = (i : Int)
  | 0 => rfl
  | n + 1 => by
    have ih := fcRow_fn f i n
    have h : fcAdd (f n) (runs f (n + 1)) i 0 = 0 := by unfold fcAdd; repeat' split
                                                        all_goals first | rfl | omega
    show fcRow f n i 0 + fcAdd (f n) (runs f (n + 1)) i 0 = _
    omega

theorem lineT_of (u m : Nat) : lineT ((u : Int).toNat) ((m : Int).toNat) = lineT u m := rfl

theorem len_bl (L : List UInt8) (y : ByteArray) : (L ++ bl y).length = L.length + y.size := by rw [List.length_append, bl_len]

theorem exec_add {P : Program} {a : Act} {o : Oper} (t ty : TypeId) (x y : Operand) (ho : o.op = .binOp .add t x y ty) (X Y : ByteArray) (hx : a.eval x = .string X) (hy : a.eval y = .string Y) (h : X.size + Y.size ≤ 140000000000000) (w : World) :
    (execOp a.eval o).run P w = .ok (.value (.string (X ++ Y))) w := by
  have e := run_add_str P t X Y w h
  unfold execOp
  simp only [ho, hx, hy, Sem.run_bind, eqGuard, Bool.not_false, ↓reduceIte, Sem.run_pure, Result.andThen_ok, e]

set_option maxRecDepth 100000 in
set_option maxHeartbeats 4000000 in
theorem specReport_any (lo : Nat) (v1 v2 : Value) (nf : Nat) (fns : Nat → ByteArray) (n : Nat) (f : Nat → M) (w : World) (h1 : StrsAt lo w v1 nf fns) (h2 : MomsAt lo w v2 n f) :
    Calls Tryz.prog 14 #[.agg #[v1, v2]] w fun e w' => (∃ s, e = .returned (.string s) ∧ RpAns nf fns n f s) ∧ Below w.heap.size w w' := by
  obtain ⟨i0, hi0, hz0, hz1, hz2⟩ := info_parts info_u8
  have II := hide (And.intro hi0 (And.intro hz0 (And.intro hz1 hz2))); clear hi0 hz0 hz1 hz2
  have H1 := hide h1
  have H2 := hide h2
  obtain ⟨a1, cap1, rfl, hn1, -⟩ := h1
  obtain ⟨a2, cap2, rfl, hn2, -⟩ := h2
  unfold maxLen at hn1 hn2
  have T0 := hide (TrBox.new w (.slice a1 nf cap1) (.slice a2 n cap2))
  go_enter Tryz.func14, Tryz.ntmps14
  go_wp2_with fail
  refine (l1ok_any lo _ _ nf fns n f _ ((unhide H1).below (unhide T0).below) ((unhide H2).below (unhide T0).below)).mono ?_
  rintro e w1 ⟨⟨ok, rfl, hok⟩, hb1⟩
  have T1 := hide ((unhide T0).go hb1)
  clear hb1 T0
  cases ok with
  | false =>
    have HN : Hid (¬ Sound nf fns n f) := hide (fun h => by have := hok.2 h; cases this)
    clear hok
    go_wp2_with fail
    go_ret
    exact ⟨⟨_, rfl, .inr ⟨unhide HN, rfl⟩⟩, (unhide T1).below⟩
  | true =>
    have hS := hok.1 rfl
    have HS := hide hS
    have hn3 : n ≤ 3000 := hS.1.2.2.1
    have hnf : nf ≤ 300 := hS.1.2.1
    clear hok hS
    have g0 := (unhide T1).b0
    have g1 := (unhide T1).b1
    go_wp2_with fail
    refine (specFnCounts_any lo _ _ nf fns n f _ ((unhide H1).below (unhide T1).below) ((unhide H2).below (unhide T1).below)).mono ?_
    rintro e w2 ⟨⟨rv, rn, F, rfl, hans, hrow⟩, hb2⟩
    have T2 := hide ((unhide T1).go hb2)
    obtain ⟨rfl, hF⟩ : nf = rn ∧ ∀ i j, i < nf → j < 4 → F i j = fcRow f n i j := by
      rcases hans with ⟨-, e, h⟩ | ⟨h, -⟩
      · exact ⟨e.symm, h⟩
      · exact absurd (unhide HS) h
    have HR := hide (hrow.congr (G := fcRow f n) (fun i j hi hj => hF i j hi hj))
    obtain ⟨ra, rc, rfl⟩ := hrow.shape
    obtain ⟨l, hl, -, -⟩ := LcIs.exists f n
    have HL := hide hl
    have HSM := hide (small_of (unhide HS) hl)
    clear hans hF hrow hb2 T1 g0 g1 hl F
    have hws : w.heap.size + 1 ≤ w2.heap.size := (unhide T2).size
    go_wp2_with fail
    go_loopg [3, 16] nf (fun gg ov i W => ∃ (k : Nat), k + gg = nf ∧ i = .int .i64 k ∧ W.ownsRow w2.heap.size 5 1 ov (repTo f n fns l k).length (byteCells (repTo f n fns l k)) ∧ Below w2.heap.size w2 W)
    case atStart => exact ⟨0, by omega, rfl, World.ownsRow_nil _ _ _ _, Below.refl _ _⟩
    case round =>
      obtain ⟨k, hk, rfl, ho, hbw⟩ := hrel
      obtain ⟨wo, hwo⟩ : ∃ wo, wo = wr := ⟨_, rfl⟩
      subst hwo
      obtain ⟨ov, hov⟩ : ∃ ov, ov = u3 := ⟨_, rfl⟩
      subst hov
      have HO := hide ho
      have HBW := hide hbw
      have HT := hide ((unhide T2).go hbw)
      have hws2 : w2.heap.size ≤ wo.heap.size := hbw.size
      clear ho hbw
      obtain ⟨L, hL⟩ : ∃ L, L = repTo f n fns l k := ⟨_, rfl⟩
      rw [← hL] at HO
      have hLl : L.length ≤ k * 800000000 := by rw [hL]; exact repTo_len (unhide HSM) hn3 k (by omega) (fun i hi => (unhide HS).1.2.2.2 i (by omega))
      have HLD := hide hL
      clear hL
      by_cases hlt : k < nf
      · have hnz := (unhide HS).1.2.2.2 k hlt
        obtain ⟨_, _, ec, hrow⟩ := (unhide HR).below (unhide HBW)
        cases ec
        obtain ⟨rb, rfl, -, hcr⟩ := hrow k hlt
        have c0 := (hcr 0 (by omega)).1
        have c1 := (hcr 1 (by omega)).1
        have c2 := (hcr 2 (by omega)).1
        have c3 := (hcr 3 (by omega)).1
        have b1 := fcRow_bound f k 1 (by omega) n
        have b2 := fcRow_bound f k 2 (by omega) n
        have b3 := fcRow_bound f k 3 (by omega) n
        obtain ⟨c, hc⟩ : ∃ c : Nat, c = (fcRow f n k 1).toNat := ⟨_, rfl⟩
        obtain ⟨s, hs⟩ : ∃ s : Nat, s = (fcRow f n k 2).toNat := ⟨_, rfl⟩
        obtain ⟨t, ht⟩ : ∃ t : Nat, t = (fcRow f n k 3).toNat := ⟨_, rfl⟩
        have hc' : fcRow f n k 1 = (c : Int) := by omega
        have hs' : fcRow f n k 2 = (s : Int) := by omega
        have ht' : fcRow f n k 3 = (t : Int) := by omega
        rw [fcRow_fn] at c0
        rw [hc'] at c1 b1
        rw [hs'] at c2 b2
        rw [ht'] at c3 b3
        replace c0 : wo.cell? ⟨rb, k * 4, none⟩ = some (.int .i64 (k : Int)) := c0
        replace c1 : wo.cell? ⟨rb, k * 4 + 1, none⟩ = some (.int .i64 (c : Int)) := c1
        replace c2 : wo.cell? ⟨rb, k * 4 + 2, none⟩ = some (.int .i64 (s : Int)) := c2
        replace c3 : wo.cell? ⟨rb, k * 4 + 3, none⟩ = some (.int .i64 (t : Int)) := c3
        have HCS := hide (And.intro hc' (And.intro hc (And.intro hs ht)))
        clear hc hs ht hc' hs' ht' hrow hcr
        have hi0 : (0 : Int) ≤ (k : Int) := by omega
        have hi1 : (k : Int) < (nf : Int) := by omega
        have wi : IntKind.i64.wrap ((k : Int) + 1) = ((k + 1 : Nat) : Int) := by rw [IntKind.wrap_i64]; omega
        have HBA := hide (below_new wo (.cells #[.int .i64 (k : Int), .int .i64 (c : Int), .int .i64 (s : Int), .int .i64 (t : Int)] 97))
        by_cases hz : c = 0
        · have hcb : ((c : Int) == 0) = true := by rw [hz]; rfl
          have HRP : Hid (repTo f n fns l (k + 1) = L) := hide (by
            show repTo f n fns l k ++ repFn f n fns l k = L
            rw [← unhide HLD]
            unfold repFn
            rw [if_pos (by rw [(unhide HCS).1, hz]; rfl), List.append_nil])
          clear hz
          as_aux_lemma =>
            go_wp2_with fail
            go_roundg (nf - (k + 1))
            case measure => omega
            case rel =>
              refine ⟨k + 1, by omega, by go_num, ?_, (unhide HBW).trans ((unhide HBA).mono hws2)⟩
              rw [unhide HRP]
              exact owns_below (unhide HO) (unhide HBA)
        · have hcb : ((c : Int) == 0) = false := by simp; omega
          have HCZ := hide hz
          clear hz
          as_aux_lemma =>
            go_upto_region 8 with fail
            have HX1 := hide (heap_alloc_new wo (.cells #[.int .i64 (k : Int), .int .i64 (c : Int), .int .i64 (s : Int), .int .i64 (t : Int)] 97))
            have hsA : (wo.alloc (.cells #[.int .i64 (k : Int), .int .i64 (c : Int), .int .i64 (s : Int), .int .i64 (t : Int)] 97)).heap.size = wo.heap.size + 1 := by simp
            generalize wo.alloc (.cells #[.int .i64 (k : Int), .int .i64 (c : Int), .int .i64 (s : Int), .int .i64 (t : Int)] 97) = W1 at HX1 HBA hsA ⊢
            have HT1 := hide ((unhide HT).go (unhide HBA))
            have HO1 := hide (owns_below (unhide HO) (unhide HBA))
            have HOB : Hid (∀ b, ov.ownBlock = some b → b < wo.heap.size) := hide (fun b hb => ((unhide HO).lt b hb).2)
            obtain ⟨_, _, ec, hn1', hst⟩ := (unhide H1).below (unhide HT1).below
            cases ec
            obtain ⟨sb, so, rfl, hsc, -, -⟩ := hst k hlt
            have HSS : Hid (∀ W, Below W1.heap.size W1 W → W.cell? ⟨wo.heap.size, 0, none⟩ = some (.int .i64 (k : Int)) ∧ W.cell? ⟨wo.heap.size, 1, none⟩ = some (.int .i64 (c : Int)) ∧ W.cell? ⟨wo.heap.size, 2, none⟩ = some (.int .i64 (s : Int)) ∧ W.cell? ⟨wo.heap.size, 3, none⟩ = some (.int .i64 (t : Int)) ∧ W.cell? ⟨w.heap.size, 0, none⟩ = some (.slice (some ⟨sb, so, none⟩) nf cap1) ∧ W.cell? ⟨sb, so + k, none⟩ = some (.string (fns k))) := hide (fun W hb => ⟨cell_below hb (by rw [cell_of_row _ _ 0 _ _ _ (unhide HX1)]; rfl), cell_below hb (by rw [cell_of_row _ _ 1 _ _ _ (unhide HX1)]; rfl), cell_below hb (by rw [cell_of_row _ _ 2 _ _ _ (unhide HX1)]; rfl), cell_below hb (by rw [cell_of_row _ _ 3 _ _ _ (unhide HX1)]; rfl), cell_below hb (unhide HT1).b0, cell_below hb hsc⟩)
            have HB1 := hide ((unhide HBW).trans ((unhide HBA).mono hws2))
            clear hst hn1' hsc c0 c1 c2 c3 HBA HT HO
            refine wp_region_held_drew (S := fun W => W.cell? ⟨wo.heap.size, 0, none⟩ = some (.int .i64 (k : Int)) ∧ W.cell? ⟨wo.heap.size, 1, none⟩ = some (.int .i64 (c : Int)) ∧ W.cell? ⟨wo.heap.size, 2, none⟩ = some (.int .i64 (s : Int)) ∧ W.cell? ⟨wo.heap.size, 3, none⟩ = some (.int .i64 (t : Int)) ∧ W.cell? ⟨w.heap.size, 0, none⟩ = some (.slice (some ⟨sb, so, none⟩) nf cap1) ∧ W.cell? ⟨sb, so + k, none⟩ = some (.string (fns k))) (by kernel_rfl) (unhide HSS _ (Below.refl _ _).drew) (fun hHeld => ?_)
            refine takeAt 0 (some 23) (v := ?v0a) (by decide) rfl (by kernel_rfl) (by kernel_rfl) (by kernel_rfl) (fun _ _ _ h => h) (by rfl) ?hy0a hHeld ?r0a
            case hy0a => (intro wx hSw; obtain ⟨s0, s1, s2, s3, s4, s5⟩ := hSw; go_simp; with_reducible rfl)
            simp only [Act.put, List.setIfInBounds_toArray, List.set_cons_zero, List.set_cons_succ]
            refine takeAt 1 (some 24) (v := ?v1a) (by decide) rfl (by kernel_rfl) (by kernel_rfl) (by kernel_rfl) (fun _ _ _ h => h) (by rfl) ?hy1a hHeld ?r1a
            case hy1a => (intro wx hSw; obtain ⟨s0, s1, s2, s3, s4, s5⟩ := hSw; go_simp; with_reducible rfl)
            simp only [Act.put, List.setIfInBounds_toArray, List.set_cons_zero, List.set_cons_succ]
            refine takeAt 4 (some 27) (v := ?v4a) (by decide) rfl (by kernel_rfl) (by kernel_rfl) (by kernel_rfl) (fun _ _ _ h => h) (by rfl) ?hy4a hHeld ?r4a
            case hy4a => (intro wx hSw; obtain ⟨s0, s1, s2, s3, s4, s5⟩ := hSw; go_simp; with_reducible rfl)
            simp only [Act.put, List.setIfInBounds_toArray, List.set_cons_zero, List.set_cons_succ]
            refine takeAt 5 (some 28) (v := ?v5a) (by decide) rfl (by kernel_rfl) (by kernel_rfl) (by kernel_rfl) (fun _ _ _ h => h) (by rfl) ?hy5a hHeld ?r5a
            case hy5a => (intro wx hSw; obtain ⟨s0, s1, s2, s3, s4, s5⟩ := hSw; go_simp; with_reducible rfl)
            simp only [Act.put, List.setIfInBounds_toArray, List.set_cons_zero, List.set_cons_succ]
            refine takeAt 6 (some 29) (v := ?v6a) (by decide) rfl (by kernel_rfl) (by kernel_rfl) (by kernel_rfl) (fun _ _ _ h => h) (by rfl) ?hy6a hHeld ?r6a
            case hy6a => (intro wx hSw; obtain ⟨s0, s1, s2, s3, s4, s5⟩ := hSw; go_simp; with_reducible rfl)
            simp only [Act.put, List.setIfInBounds_toArray, List.set_cons_zero, List.set_cons_succ]
            refine takeAt 7 (some 30) (v := ?v7a) (by decide) rfl (by kernel_rfl) (by kernel_rfl) (by kernel_rfl) (fun _ _ _ h => h) (by rfl) ?hy7a hHeld ?r7a
            case hy7a => (intro wx hSw; obtain ⟨s0, s1, s2, s3, s4, s5⟩ := hSw; go_simp; with_reducible rfl)
            simp only [Act.put, List.setIfInBounds_toArray, List.set_cons_zero, List.set_cons_succ]
            refine takeAt 8 (some 31) (v := ?v8a) (by decide) rfl (by kernel_rfl) (by kernel_rfl) (by kernel_rfl) (fun _ _ _ h => h) (by rfl) ?hy8a hHeld ?r8a
            case hy8a => (intro wx hSw; obtain ⟨s0, s1, s2, s3, s4, s5⟩ := hSw; go_simp; with_reducible rfl)
            simp only [Act.put, List.setIfInBounds_toArray, List.set_cons_zero, List.set_cons_succ]
            refine takeAt 9 (some 32) (v := ?v9a) (by decide) rfl (by kernel_rfl) (by kernel_rfl) (by kernel_rfl) (fun _ _ _ h => h) (by rfl) ?hy9a hHeld ?r9a
            case hy9a => (intro wx hSw; obtain ⟨s0, s1, s2, s3, s4, s5⟩ := hSw; go_simp; with_reducible rfl)
            simp only [Act.put, List.setIfInBounds_toArray, List.set_cons_zero, List.set_cons_succ]
            refine takeAt 12 (some 35) (v := ?v12a) (by decide) rfl (by kernel_rfl) (by kernel_rfl) (by kernel_rfl) (fun _ _ _ h => h) (by rfl) ?hy12a hHeld ?r12a
            case hy12a => (intro wx hSw; obtain ⟨s0, s1, s2, s3, s4, s5⟩ := hSw; go_simp; with_reducible rfl)
            simp only [Act.put, List.setIfInBounds_toArray, List.set_cons_zero, List.set_cons_succ]
            refine takeAt 13 (some 36) (v := ?v13a) (by decide) rfl (by kernel_rfl) (by kernel_rfl) (by kernel_rfl) (fun _ _ _ h => h) (by rfl) ?hy13a hHeld ?r13a
            case hy13a => (intro wx hSw; obtain ⟨s0, s1, s2, s3, s4, s5⟩ := hSw; go_simp; with_reducible rfl)
            simp only [Act.put, List.setIfInBounds_toArray, List.set_cons_zero, List.set_cons_succ]
            refine takeAt 17 (some 40) (v := ?v17a) (by decide) rfl (by kernel_rfl) (by kernel_rfl) (by kernel_rfl) (fun _ _ _ h => h) (by rfl) ?hy17a hHeld ?r17a
            case hy17a => (intro wx hSw; obtain ⟨s0, s1, s2, s3, s4, s5⟩ := hSw; go_simp; with_reducible rfl)
            simp only [Act.put, List.setIfInBounds_toArray, List.set_cons_zero, List.set_cons_succ]
            refine takeAt 18 (some 41) (v := ?v18a) (by decide) rfl (by kernel_rfl) (by kernel_rfl) (by kernel_rfl) (fun _ _ _ h => h) (by rfl) ?hy18a hHeld ?r18a
            case hy18a => (intro wx hSw; obtain ⟨s0, s1, s2, s3, s4, s5⟩ := hSw; go_simp; with_reducible rfl)
            simp only [Act.put, List.setIfInBounds_toArray, List.set_cons_zero, List.set_cons_succ]
            refine takeAt 22 (some 45) (v := ?v22a) (by decide) rfl (by kernel_rfl) (by kernel_rfl) (by kernel_rfl) (fun _ _ _ h => h) (by rfl) ?hy22a hHeld ?r22a
            case hy22a => (intro wx hSw; obtain ⟨s0, s1, s2, s3, s4, s5⟩ := hSw; go_simp; with_reducible rfl)
            simp only [Act.put, List.setIfInBounds_toArray, List.set_cons_zero, List.set_cons_succ]
            refine takeAt 23 (some 46) (v := ?v23a) (by decide) rfl (by kernel_rfl) (by kernel_rfl) (by kernel_rfl) (fun _ _ _ h => h) (by rfl) ?hy23a hHeld ?r23a
            case hy23a => (intro wx hSw; obtain ⟨s0, s1, s2, s3, s4, s5⟩ := hSw; go_simp; with_reducible rfl)
            simp only [Act.put, List.setIfInBounds_toArray, List.set_cons_zero, List.set_cons_succ]
            refine wpAnyH_ready (rs := [2]) (by kernel_rfl) (by simp) ?_
            refine AllReadyH.cons rfl (fun KK hK => ?_) AllReadyH.nil
            go_simp
            refine (l5decimal_any k _ (by omega)).mono ?_
            rintro e wa ⟨rfl, hb⟩
            have HBwa : Hid (Below W1.heap.size W1 wa) := hide ((Below.refl _ _).drew.trans hb)
            clear hb
            have zdwa := decS_size (u := k) (by omega)
            refine hK.out _ _ (unhide HSS _ (unhide HBwa)) (fun hHeld => ?_)
            clear hK KK
            try simp only [Act.put, List.setIfInBounds_toArray, List.getElem_toArray, List.getElem_cons_succ, List.getElem_cons_zero, List.set_cons_zero, List.set_cons_succ]
            obtain ⟨x1, hx1⟩ : ∃ x, x = (decS k) ++ (⟨#[32]⟩ : ByteArray) := ⟨_, rfl⟩
            have qx1 : (decS k).size + (⟨#[32]⟩ : ByteArray).size ≤ 140000000000000 := by have hy : ((⟨#[32]⟩ : ByteArray) : ByteArray).size ≤ 100001 := (by show _ ≤ _; decide); skip; omega
            have zx1 : x1.size ≤ 300000 := by have hy : ((⟨#[32]⟩ : ByteArray) : ByteArray).size ≤ 100001 := (by show _ ≤ _; decide); skip; rw [hx1, ByteArray.size_append]; omega
            refine takeAt 3 (some 26) (v := .string x1) (by decide) rfl (by kernel_rfl) (by kernel_rfl) (by kernel_rfl) (fun _ _ _ h => h) (by rfl) ?hy3a hHeld ?r3a
            case hy3a => (intro wx hSw; rw [hx1]; exact exec_add 9 9 _ _ rfl (decS k) (⟨#[32]⟩ : ByteArray) (by rfl) (by rfl) qx1 wx)
            simp only [Act.put, List.setIfInBounds_toArray, List.set_cons_zero, List.set_cons_succ]
            have Hx1 := hide hx1
            clear hx1 qx1
            obtain ⟨x2, hx2⟩ : ∃ x, x = x1 ++ (fns k) := ⟨_, rfl⟩
            have qx2 : x1.size + (fns k).size ≤ 140000000000000 := by have hy : ((fns k) : ByteArray).size ≤ 100001 := (by omega); skip; omega
            have zx2 : x2.size ≤ 500000 := by have hy : ((fns k) : ByteArray).size ≤ 100001 := (by omega); skip; rw [hx2, ByteArray.size_append]; omega
            refine takeAt 10 (some 33) (v := .string x2) (by decide) rfl (by kernel_rfl) (by kernel_rfl) (by kernel_rfl) (fun _ _ _ h => h) (by rfl) ?hy10a hHeld ?r10a
            case hy10a => (intro wx hSw; rw [hx2]; exact exec_add 9 9 _ _ rfl x1 (fns k) (by rfl) (by rfl) qx2 wx)
            simp only [Act.put, List.setIfInBounds_toArray, List.set_cons_zero, List.set_cons_succ]
            have Hx2 := hide hx2
            clear hx2 qx2
            obtain ⟨x3, hx3⟩ : ∃ x, x = x2 ++ (⟨#[32, 99, 97, 108, 108, 115, 32]⟩ : ByteArray) := ⟨_, rfl⟩
            have qx3 : x2.size + (⟨#[32, 99, 97, 108, 108, 115, 32]⟩ : ByteArray).size ≤ 140000000000000 := by have hy : ((⟨#[32, 99, 97, 108, 108, 115, 32]⟩ : ByteArray) : ByteArray).size ≤ 100001 := (by show _ ≤ _; decide); skip; omega
            have zx3 : x3.size ≤ 700000 := by have hy : ((⟨#[32, 99, 97, 108, 108, 115, 32]⟩ : ByteArray) : ByteArray).size ≤ 100001 := (by show _ ≤ _; decide); skip; rw [hx3, ByteArray.size_append]; omega
            refine takeAt 11 (some 34) (v := .string x3) (by decide) rfl (by kernel_rfl) (by kernel_rfl) (by kernel_rfl) (fun _ _ _ h => h) (by rfl) ?hy11a hHeld ?r11a
            case hy11a => (intro wx hSw; rw [hx3]; exact exec_add 9 9 _ _ rfl x2 (⟨#[32, 99, 97, 108, 108, 115, 32]⟩ : ByteArray) (by rfl) (by rfl) qx3 wx)
            simp only [Act.put, List.setIfInBounds_toArray, List.set_cons_zero, List.set_cons_succ]
            have Hx3 := hide hx3
            clear hx3 qx3
            refine wpAnyH_ready (rs := [14]) (by kernel_rfl) (by simp) ?_
            refine AllReadyH.cons rfl (fun KK hK => ?_) AllReadyH.nil
            go_simp
            refine (l5decimal_any c _ (by omega)).mono ?_
            rintro e wb ⟨rfl, hb⟩
            have HBwb : Hid (Below W1.heap.size W1 wb) := hide ((unhide HBwa).trans (hb.mono (unhide HBwa).size))
            clear hb
            have zdwb := decS_size (u := c) (by omega)
            refine hK.out _ _ (unhide HSS _ (unhide HBwb)) (fun hHeld => ?_)
            clear hK KK
            try simp only [Act.put, List.setIfInBounds_toArray, List.getElem_toArray, List.getElem_cons_succ, List.getElem_cons_zero, List.set_cons_zero, List.set_cons_succ]
            obtain ⟨x4, hx4⟩ : ∃ x, x = x3 ++ (decS c) := ⟨_, rfl⟩
            have qx4 : x3.size + (decS c).size ≤ 140000000000000 := by have hy : ((decS c) : ByteArray).size ≤ 100001 := (by omega); skip; omega
            have zx4 : x4.size ≤ 900000 := by have hy : ((decS c) : ByteArray).size ≤ 100001 := (by omega); skip; rw [hx4, ByteArray.size_append]; omega
            refine takeAt 15 (some 38) (v := .string x4) (by decide) rfl (by kernel_rfl) (by kernel_rfl) (by kernel_rfl) (fun _ _ _ h => h) (by rfl) ?hy15a hHeld ?r15a
            case hy15a => (intro wx hSw; rw [hx4]; exact exec_add 9 9 _ _ rfl x3 (decS c) (by rfl) (by rfl) qx4 wx)
            simp only [Act.put, List.setIfInBounds_toArray, List.set_cons_zero, List.set_cons_succ]
            have Hx4 := hide hx4
            clear hx4 qx4
            obtain ⟨x5, hx5⟩ : ∃ x, x = x4 ++ (⟨#[32, 115, 101, 108, 102, 32]⟩ : ByteArray) := ⟨_, rfl⟩
            have qx5 : x4.size + (⟨#[32, 115, 101, 108, 102, 32]⟩ : ByteArray).size ≤ 140000000000000 := by have hy : ((⟨#[32, 115, 101, 108, 102, 32]⟩ : ByteArray) : ByteArray).size ≤ 100001 := (by show _ ≤ _; decide); skip; omega
            have zx5 : x5.size ≤ 1100000 := by have hy : ((⟨#[32, 115, 101, 108, 102, 32]⟩ : ByteArray) : ByteArray).size ≤ 100001 := (by show _ ≤ _; decide); skip; rw [hx5, ByteArray.size_append]; omega
            refine takeAt 16 (some 39) (v := .string x5) (by decide) rfl (by kernel_rfl) (by kernel_rfl) (by kernel_rfl) (fun _ _ _ h => h) (by rfl) ?hy16a hHeld ?r16a
            case hy16a => (intro wx hSw; rw [hx5]; exact exec_add 9 9 _ _ rfl x4 (⟨#[32, 115, 101, 108, 102, 32]⟩ : ByteArray) (by rfl) (by rfl) qx5 wx)
            simp only [Act.put, List.setIfInBounds_toArray, List.set_cons_zero, List.set_cons_succ]
            have Hx5 := hide hx5
            clear hx5 qx5
            refine wpAnyH_ready (rs := [19]) (by kernel_rfl) (by simp) ?_
            refine AllReadyH.cons rfl (fun KK hK => ?_) AllReadyH.nil
            go_simp
            refine (l5decimal_any s _ (by omega)).mono ?_
            rintro e wc ⟨rfl, hb⟩
            have HBwc : Hid (Below W1.heap.size W1 wc) := hide ((unhide HBwb).trans (hb.mono (unhide HBwb).size))
            clear hb
            have zdwc := decS_size (u := s) (by omega)
            refine hK.out _ _ (unhide HSS _ (unhide HBwc)) (fun hHeld => ?_)
            clear hK KK
            try simp only [Act.put, List.setIfInBounds_toArray, List.getElem_toArray, List.getElem_cons_succ, List.getElem_cons_zero, List.set_cons_zero, List.set_cons_succ]
            obtain ⟨x6, hx6⟩ : ∃ x, x = x5 ++ (decS s) := ⟨_, rfl⟩
            have qx6 : x5.size + (decS s).size ≤ 140000000000000 := by have hy : ((decS s) : ByteArray).size ≤ 100001 := (by omega); skip; omega
            have zx6 : x6.size ≤ 1300000 := by have hy : ((decS s) : ByteArray).size ≤ 100001 := (by omega); skip; rw [hx6, ByteArray.size_append]; omega
            refine takeAt 20 (some 43) (v := .string x6) (by decide) rfl (by kernel_rfl) (by kernel_rfl) (by kernel_rfl) (fun _ _ _ h => h) (by rfl) ?hy20a hHeld ?r20a
            case hy20a => (intro wx hSw; rw [hx6]; exact exec_add 9 9 _ _ rfl x5 (decS s) (by rfl) (by rfl) qx6 wx)
            simp only [Act.put, List.setIfInBounds_toArray, List.set_cons_zero, List.set_cons_succ]
            have Hx6 := hide hx6
            clear hx6 qx6
            obtain ⟨x7, hx7⟩ : ∃ x, x = x6 ++ (⟨#[32, 116, 111, 116, 97, 108, 32]⟩ : ByteArray) := ⟨_, rfl⟩
            have qx7 : x6.size + (⟨#[32, 116, 111, 116, 97, 108, 32]⟩ : ByteArray).size ≤ 140000000000000 := by have hy : ((⟨#[32, 116, 111, 116, 97, 108, 32]⟩ : ByteArray) : ByteArray).size ≤ 100001 := (by show _ ≤ _; decide); skip; omega
            have zx7 : x7.size ≤ 1500000 := by have hy : ((⟨#[32, 116, 111, 116, 97, 108, 32]⟩ : ByteArray) : ByteArray).size ≤ 100001 := (by show _ ≤ _; decide); skip; rw [hx7, ByteArray.size_append]; omega
            refine takeAt 21 (some 44) (v := .string x7) (by decide) rfl (by kernel_rfl) (by kernel_rfl) (by kernel_rfl) (fun _ _ _ h => h) (by rfl) ?hy21a hHeld ?r21a
            case hy21a => (intro wx hSw; rw [hx7]; exact exec_add 9 9 _ _ rfl x6 (⟨#[32, 116, 111, 116, 97, 108, 32]⟩ : ByteArray) (by rfl) (by rfl) qx7 wx)
            simp only [Act.put, List.setIfInBounds_toArray, List.set_cons_zero, List.set_cons_succ]
            have Hx7 := hide hx7
            clear hx7 qx7
            refine wpAnyH_ready (rs := [24]) (by kernel_rfl) (by simp) ?_
            refine AllReadyH.cons rfl (fun KK hK => ?_) AllReadyH.nil
            go_simp
            refine (l5decimal_any t _ (by omega)).mono ?_
            rintro e wd ⟨rfl, hb⟩
            have HBwd : Hid (Below W1.heap.size W1 wd) := hide ((unhide HBwc).trans (hb.mono (unhide HBwc).size))
            clear hb
            have zdwd := decS_size (u := t) (by omega)
            refine hK.out _ _ (unhide HSS _ (unhide HBwd)) (fun hHeld => ?_)
            clear hK KK
            try simp only [Act.put, List.setIfInBounds_toArray, List.getElem_toArray, List.getElem_cons_succ, List.getElem_cons_zero, List.set_cons_zero, List.set_cons_succ]
            obtain ⟨x8, hx8⟩ : ∃ x, x = x7 ++ (decS t) := ⟨_, rfl⟩
            have qx8 : x7.size + (decS t).size ≤ 140000000000000 := by have hy : ((decS t) : ByteArray).size ≤ 100001 := (by omega); skip; omega
            have zx8 : x8.size ≤ 1700000 := by have hy : ((decS t) : ByteArray).size ≤ 100001 := (by omega); skip; rw [hx8, ByteArray.size_append]; omega
            refine takeAt 25 (some 48) (v := .string x8) (by decide) rfl (by kernel_rfl) (by kernel_rfl) (by kernel_rfl) (fun _ _ _ h => h) (by rfl) ?hy25a hHeld ?r25a
            case hy25a => (intro wx hSw; rw [hx8]; exact exec_add 9 9 _ _ rfl x7 (decS t) (by rfl) (by rfl) qx8 wx)
            simp only [Act.put, List.setIfInBounds_toArray, List.set_cons_zero, List.set_cons_succ]
            have Hx8 := hide hx8
            clear hx8 qx8
            obtain ⟨x9, hx9⟩ : ∃ x, x = x8 ++ (⟨#[10]⟩ : ByteArray) := ⟨_, rfl⟩
            have qx9 : x8.size + (⟨#[10]⟩ : ByteArray).size ≤ 140000000000000 := by have hy : ((⟨#[10]⟩ : ByteArray) : ByteArray).size ≤ 100001 := (by show _ ≤ _; decide); skip; omega
            have zx9 : x9.size ≤ 1900000 := by have hy : ((⟨#[10]⟩ : ByteArray) : ByteArray).size ≤ 100001 := (by show _ ≤ _; decide); skip; rw [hx9, ByteArray.size_append]; omega
            refine takeAt 26 (some 49) (v := .string x9) (by decide) rfl (by kernel_rfl) (by kernel_rfl) (by kernel_rfl) (fun _ _ _ h => h) (by rfl) ?hy26a hHeld ?r26a
            case hy26a => (intro wx hSw; rw [hx9]; exact exec_add 9 9 _ _ rfl x8 (⟨#[10]⟩ : ByteArray) (by rfl) (by rfl) qx9 wx)
            simp only [Act.put, List.setIfInBounds_toArray, List.set_cons_zero, List.set_cons_succ]
            have Hx9 := hide hx9
            clear hx9 qx9
            refine takeAt 27 (some 6) (v := ?v27a) (by decide) rfl (by kernel_rfl) (by kernel_rfl) (by kernel_rfl) (fun _ _ _ h => h) (by rfl) ?hy27a hHeld ?r27a
            case hy27a => (intro wx hSw; obtain ⟨s0, s1, s2, s3, s4, s5⟩ := hSw; go_simp; with_reducible rfl)
            simp only [Act.put, List.setIfInBounds_toArray, List.set_cons_zero, List.set_cons_succ]
            refine wpAnyH_done (by kernel_rfl) ?_ _
            have HLT : Hid (x9 = fnLineT k (fns k) c s t) := hide (by
              unfold fnLineT
              rw [unhide Hx9, unhide Hx8, unhide Hx7, unhide Hx6, unhide Hx5, unhide Hx4, unhide Hx3, unhide Hx2, unhide Hx1])
            have hzl : x9.size ≤ 500000 := by rw [unhide HLT]; exact fnLineT_size (by omega) (by omega) (by omega) (by omega) hnz
            clear Hx1 Hx2 Hx3 Hx4 Hx5 Hx6 Hx7 Hx8 Hx9 zx1 zx2 zx3 zx4 zx5 zx6 zx7 zx8 zx9 zdwa zdwb zdwc zdwd HBwa HBwb HBwc hHeld HSS
            have HTd := hide ((unhide HT1).go (unhide HBwd))
            have HOd := hide (owns_below (unhide HO1) (unhide HBwd))
            have HBd := hide ((unhide HB1).trans ((unhide HBwd).mono (unhide HB1).size))
            have HXd := hide (((unhide HBwd).block wo.heap.size (by omega)).trans (unhide HX1))
            have hsd : wo.heap.size + 1 ≤ wd.heap.size := by have := (unhide HBwd).size; omega
            have hsd2 : w2.heap.size ≤ wd.heap.size := (unhide HBd).size
            clear HT1 HO1 HB1 HX1 HBwd hsA
            go_wp2_with (at_builtin; refine wpList_append_str (by rfl) _ _ _ _ (by rfl) w2.heap.size 5 i0 Tryz.underlying22 Tryz.underlying9 (unhide II).1 (unhide II).2.1 (unhide II).2.2.1 (unhide II).2.2.2 ov _ _ (by rfl) (unhide HOd) x9 (by rfl) (by omega) hsd2 ?_; intro ov6 W6 hown6 hgrow6 hnew6; have hb6 : Below w2.heap.size wd W6 := (Below.refl _ wd).grown hgrow6 hsd2 (fun k hk => ((unhide HOd).lt k hk).1); have HT6 : Hid (TrBox w (.slice (some ⟨sb, so, none⟩) nf cap1) (.slice a2 n cap2) W6) := hide (Below.trans (unhide HTd) (hb6.mono hws)); have g0 := (unhide HT6).b0; have g1 := (unhide HT6).b1)
            obtain ⟨L2, hL2⟩ : ∃ L2, L2 = L ++ bl x9 := ⟨_, rfl⟩
            have HO6 : Hid (W6.ownsRow w2.heap.size 5 1 ov6 L2.length (byteCells L2)) := hide (by rw [hL2, List.length_append, bl_len, byteCells_app, ← strCells_bl]; exact hown6)
            have HX6 := hide ((hgrow6.block wo.heap.size (by omega) (fun e => by have := unhide HOB _ e.symm; omega)).trans (unhide HXd))
            have HA6 : Hid (∀ b, ov6.ownBlock = some b → b < W6.heap.size ∧ b ≠ wo.heap.size) := hide (fun b hb => ⟨((unhide HO6).lt b hb).2, by
              rcases hnew6 b hb with e | e
              · have := unhide HOB b e; omega
              · omega⟩)
            have hL2l : L2.length ≤ k * 800000000 + 500000 := by rw [hL2, List.length_append, bl_len]; omega
            have HL2 := hide hL2
            have HB6 := hide ((unhide HBd).trans hb6)
            have hs6 : wo.heap.size + 1 ≤ W6.heap.size := by have := hb6.size; have := hgrow6.size; omega
            clear hL2 hown6 hgrow6 hnew6 hb6 HTd HOd HBd HXd
            refine (specLineCounts_any lo _ _ nf fns n f _ ((unhide H1).below (unhide HT6).below) ((unhide H2).below (unhide HT6).below)).mono ?_
            rintro e W7 ⟨⟨lv, lc, F2, rfl, hans, hrow⟩, hb7⟩
            obtain ⟨rfl, hF⟩ : l.length = lc ∧ ∀ i j (h : i < l.length), j < 3 → F2 i j = lcCell l[i] j := by
              rcases hans with ⟨-, l2, hl2, e, h⟩ | ⟨h, -⟩
              · obtain rfl := hl2.unique (unhide HL)
                exact ⟨e.symm, h⟩
              · exact absurd (unhide HS) h
            obtain ⟨la, lcp, rfl⟩ := hrow.shape
            have HR7 := hide (And.intro hrow hF)
            have HX7 := hide ((hb7.block _ (by omega)).trans (unhide HX6))
            have hs7 : W6.heap.size ≤ W7.heap.size := hb7.size
            have hB7 : w2.heap.size ≤ W7.heap.size := by have := (unhide HB6).size; omega
            have HB7 := hide ((unhide HB6).trans (hb7.mono (unhide HB6).size))
            have HI0 : Hid (OutI w2.heap.size wo.heap.size W6.heap.size W7 ov6 (L2 ++ repRow k l 0) W7) := hide ⟨by rw [repRow_zero, List.append_nil]; exact owns_below (unhide HO6) hb7, fun b hb => .inl (unhide HA6 b hb), fun b _ _ => rfl, Below.refl _ _⟩
            have hll : l.length ≤ 3000 := (unhide HSM).1
            clear hans hrow hF hb7 HX6 HB6 HO6 HA6 HT6 g0 g1
            go_wp2_with fail
            go_loopg [3, 56] l.length (fun gg ov i W => ∃ (q : Nat), q + gg = l.length ∧ i = .int .i64 q ∧ OutI w2.heap.size wo.heap.size W6.heap.size W7 ov (L2 ++ repRow k l q) W)
            case atStart => exact ⟨0, by omega, rfl, unhide HI0⟩
            case round =>
              clear HI0
              obtain ⟨q, hq, rfl, hI⟩ := hrel
              have HI := hide hI
              have hrl := repRow_len (i := k) (unhide HSM) q (by omega)
              have hL3 : (L2 ++ repRow k l q).length ≤ 300000000000 := by rw [List.length_append]; omega
              by_cases hql : q < l.length
              · as_aux_lemma =>
                  obtain ⟨hrow, hF⟩ := unhide HR7
                  obtain ⟨_, _, ec, hrow⟩ := hrow
                  cases ec
                  obtain ⟨rb2, rfl, hlo, hcr⟩ := hrow q hql
                  have c0 := (hcr 0 (by omega)).1
                  have c1 := (hcr 1 (by omega)).1
                  have c2 := (hcr 2 (by omega)).1
                  have hbk : wr.heap[rb2]? = W7.heap[rb2]? := hI.keeps rb2 (cell_lt c0) (.inr hlo)
                  rw [hF q 0 hql (by omega)] at c0
                  rw [hF q 1 hql (by omega)] at c1
                  rw [hF q 2 hql (by omega)] at c2
                  rw [← World.cell?_of_block hbk] at c0 c1 c2
                  have hsm := (unhide HSM).2 l[q] (List.getElem_mem hql)
                  have HRS := hide (repRow_succ k l q hql)
                  obtain ⟨r, hr⟩ : ∃ r, r = l[q] := ⟨_, rfl⟩
                  rw [← hr] at c0 c1 c2 hsm HRS
                  clear hr
                  obtain ⟨rf, rl, rn⟩ := r
                  obtain ⟨u, rfl⟩ : ∃ u : Nat, rl = (u : Int) := ⟨rl.toNat, by have : 0 ≤ rl := hsm.1; omega⟩
                  obtain ⟨m, rfl⟩ : ∃ m : Nat, rn = (m : Int) := ⟨rn.toNat, by have : 0 ≤ rn := hsm.2.2.1; omega⟩
                  have hu : u ≤ 100000 := by have : (u : Int) ≤ 100000 := hsm.2.1; omega
                  have hm : m ≤ 100000 := by have : (m : Int) ≤ 100000 := hsm.2.2.2; omega
                  replace c0 : wr.cell? ⟨rb2, q * 3, none⟩ = some (.int .i64 rf) := c0
                  replace c1 : wr.cell? ⟨rb2, q * 3 + 1, none⟩ = some (.int .i64 (u : Int)) := c1
                  replace c2 : wr.cell? ⟨rb2, q * 3 + 2, none⟩ = some (.int .i64 (m : Int)) := c2
                  have hxc : wr.heap[wo.heap.size]? = some (.cells #[.int .i64 (k : Int), .int .i64 (c : Int), .int .i64 (s : Int), .int .i64 (t : Int)] 97) := (hI.keeps _ (by omega) (.inl rfl)).trans (unhide HX7)
                  have x0 : wr.cell? ⟨wo.heap.size, 0, none⟩ = some (.int .i64 (k : Int)) := by rw [cell_of_row _ _ 0 _ _ _ hxc]; rfl
                  have hsw : W7.heap.size ≤ wr.heap.size := hI.below.size
                  have hi0 : (0 : Int) ≤ (q : Int) := by omega
                  have hi1 : (q : Int) < (l.length : Int) := by omega
                  have wi2 : IntKind.i64.wrap ((q : Int) + 1) = ((q + 1 : Nat) : Int) := by rw [IntKind.wrap_i64]; omega
                  have HBA := hide (below_new wr (.cells #[.int .i64 rf, .int .i64 (u : Int), .int .i64 (m : Int)] 104))
                  have x0' := cell_below (unhide HBA) x0
                  clear hrow hcr hF hsm hxc hI hbk
                  by_cases he : rf = (k : Int)
                  · have heb : (rf == (k : Int)) = true := by rw [he]; simp
                    rw [if_pos he] at HRS
                    clear he
                    go_upto_region 14 with fail
                    have HX1 := hide (heap_alloc_new wr (.cells #[.int .i64 rf, .int .i64 (u : Int), .int .i64 (m : Int)] 104))
                    have hsA : (wr.alloc (.cells #[.int .i64 rf, .int .i64 (u : Int), .int .i64 (m : Int)] 104)).heap.size = wr.heap.size + 1 := by simp
                    have HI1 := hide ((unhide HI).go hB7 (unhide HBA))
                    generalize wr.alloc (.cells #[.int .i64 rf, .int .i64 (u : Int), .int .i64 (m : Int)] 104) = W8 at HX1 HBA hsA HI1 ⊢
                    have HSS : Hid (∀ W, Below W8.heap.size W8 W → W.cell? ⟨wr.heap.size, 1, none⟩ = some (.int .i64 (u : Int)) ∧ W.cell? ⟨wr.heap.size, 2, none⟩ = some (.int .i64 (m : Int))) := hide (fun W hb => ⟨cell_below hb (by rw [cell_of_row _ _ 1 _ _ _ (unhide HX1)]; rfl), cell_below hb (by rw [cell_of_row _ _ 2 _ _ _ (unhide HX1)]; rfl)⟩)
                    clear c0 c1 c2 x0 x0' HBA HX1
                    refine wp_region_held_drew (S := fun W => W.cell? ⟨wr.heap.size, 1, none⟩ = some (.int .i64 (u : Int)) ∧ W.cell? ⟨wr.heap.size, 2, none⟩ = some (.int .i64 (m : Int))) (by kernel_rfl) (unhide HSS _ (Below.refl _ _).drew) (fun hHeld => ?_)
                    refine takeAt 0 (some 65) (v := ?v0b) (by decide) rfl (by kernel_rfl) (by kernel_rfl) (by kernel_rfl) (fun _ _ _ h => h) (by rfl) ?hy0b hHeld ?r0b
                    case hy0b => (intro wx hSw; obtain ⟨s1, s2⟩ := hSw; go_simp; with_reducible rfl)
                    simp only [Act.put, List.setIfInBounds_toArray, List.set_cons_zero, List.set_cons_succ]
                    refine takeAt 1 (some 66) (v := ?v1b) (by decide) rfl (by kernel_rfl) (by kernel_rfl) (by kernel_rfl) (fun _ _ _ h => h) (by rfl) ?hy1b hHeld ?r1b
                    case hy1b => (intro wx hSw; obtain ⟨s1, s2⟩ := hSw; go_simp; with_reducible rfl)
                    simp only [Act.put, List.setIfInBounds_toArray, List.set_cons_zero, List.set_cons_succ]
                    refine takeAt 5 (some 70) (v := ?v5b) (by decide) rfl (by kernel_rfl) (by kernel_rfl) (by kernel_rfl) (fun _ _ _ h => h) (by rfl) ?hy5b hHeld ?r5b
                    case hy5b => (intro wx hSw; obtain ⟨s1, s2⟩ := hSw; go_simp; with_reducible rfl)
                    simp only [Act.put, List.setIfInBounds_toArray, List.set_cons_zero, List.set_cons_succ]
                    refine takeAt 6 (some 71) (v := ?v6b) (by decide) rfl (by kernel_rfl) (by kernel_rfl) (by kernel_rfl) (fun _ _ _ h => h) (by rfl) ?hy6b hHeld ?r6b
                    case hy6b => (intro wx hSw; obtain ⟨s1, s2⟩ := hSw; go_simp; with_reducible rfl)
                    simp only [Act.put, List.setIfInBounds_toArray, List.set_cons_zero, List.set_cons_succ]
                    refine wpAnyH_ready (rs := [2]) (by kernel_rfl) (by simp) ?_
                    refine AllReadyH.cons rfl (fun KK hK => ?_) AllReadyH.nil
                    go_simp
                    refine (l5decimal_any u _ (by omega)).mono ?_
                    rintro e we ⟨rfl, hb⟩
                    have HBwe : Hid (Below W8.heap.size W8 we) := hide ((Below.refl _ _).drew.trans hb)
                    clear hb
                    have zdwe := decS_size (u := u) (by omega)
                    refine hK.out _ _ (unhide HSS _ (unhide HBwe)) (fun hHeld => ?_)
                    clear hK KK
                    try simp only [Act.put, List.setIfInBounds_toArray, List.getElem_toArray, List.getElem_cons_succ, List.getElem_cons_zero, List.set_cons_zero, List.set_cons_succ]
                    obtain ⟨y1, hy1⟩ : ∃ x, x = (⟨#[9]⟩ : ByteArray) ++ (decS u) := ⟨_, rfl⟩
                    have qy1 : (⟨#[9]⟩ : ByteArray).size + (decS u).size ≤ 140000000000000 := by have hy : ((decS u) : ByteArray).size ≤ 100001 := (by omega); have hx : ((⟨#[9]⟩ : ByteArray) : ByteArray).size ≤ 100001 := (by show _ ≤ _; decide); omega
                    have zy1 : y1.size ≤ 300000 := by have hy : ((decS u) : ByteArray).size ≤ 100001 := (by omega); have hx : ((⟨#[9]⟩ : ByteArray) : ByteArray).size ≤ 100001 := (by show _ ≤ _; decide); rw [hy1, ByteArray.size_append]; omega
                    refine takeAt 3 (some 68) (v := .string y1) (by decide) rfl (by kernel_rfl) (by kernel_rfl) (by kernel_rfl) (fun _ _ _ h => h) (by rfl) ?hy3b hHeld ?r3b
                    case hy3b => (intro wx hSw; rw [hy1]; exact exec_add 9 9 _ _ rfl (⟨#[9]⟩ : ByteArray) (decS u) (by rfl) (by rfl) qy1 wx)
                    simp only [Act.put, List.setIfInBounds_toArray, List.set_cons_zero, List.set_cons_succ]
                    have Hy1 := hide hy1
                    clear hy1 qy1
                    obtain ⟨y2, hy2⟩ : ∃ x, x = y1 ++ (⟨#[32]⟩ : ByteArray) := ⟨_, rfl⟩
                    have qy2 : y1.size + (⟨#[32]⟩ : ByteArray).size ≤ 140000000000000 := by have hy : ((⟨#[32]⟩ : ByteArray) : ByteArray).size ≤ 100001 := (by show _ ≤ _; decide); skip; omega
                    have zy2 : y2.size ≤ 500000 := by have hy : ((⟨#[32]⟩ : ByteArray) : ByteArray).size ≤ 100001 := (by show _ ≤ _; decide); skip; rw [hy2, ByteArray.size_append]; omega
                    refine takeAt 4 (some 69) (v := .string y2) (by decide) rfl (by kernel_rfl) (by kernel_rfl) (by kernel_rfl) (fun _ _ _ h => h) (by rfl) ?hy4b hHeld ?r4b
                    case hy4b => (intro wx hSw; rw [hy2]; exact exec_add 9 9 _ _ rfl y1 (⟨#[32]⟩ : ByteArray) (by rfl) (by rfl) qy2 wx)
                    simp only [Act.put, List.setIfInBounds_toArray, List.set_cons_zero, List.set_cons_succ]
                    have Hy2 := hide hy2
                    clear hy2 qy2
                    refine wpAnyH_ready (rs := [7]) (by kernel_rfl) (by simp) ?_
                    refine AllReadyH.cons rfl (fun KK hK => ?_) AllReadyH.nil
                    go_simp
                    refine (l5decimal_any m _ (by omega)).mono ?_
                    rintro e wf ⟨rfl, hb⟩
                    have HBwf : Hid (Below W8.heap.size W8 wf) := hide ((unhide HBwe).trans (hb.mono (unhide HBwe).size))
                    clear hb
                    have zdwf := decS_size (u := m) (by omega)
                    refine hK.out _ _ (unhide HSS _ (unhide HBwf)) (fun hHeld => ?_)
                    clear hK KK
                    try simp only [Act.put, List.setIfInBounds_toArray, List.getElem_toArray, List.getElem_cons_succ, List.getElem_cons_zero, List.set_cons_zero, List.set_cons_succ]
                    obtain ⟨y3, hy3⟩ : ∃ x, x = y2 ++ (decS m) := ⟨_, rfl⟩
                    have qy3 : y2.size + (decS m).size ≤ 140000000000000 := by have hy : ((decS m) : ByteArray).size ≤ 100001 := (by omega); skip; omega
                    have zy3 : y3.size ≤ 700000 := by have hy : ((decS m) : ByteArray).size ≤ 100001 := (by omega); skip; rw [hy3, ByteArray.size_append]; omega
                    refine takeAt 8 (some 73) (v := .string y3) (by decide) rfl (by kernel_rfl) (by kernel_rfl) (by kernel_rfl) (fun _ _ _ h => h) (by rfl) ?hy8b hHeld ?r8b
                    case hy8b => (intro wx hSw; rw [hy3]; exact exec_add 9 9 _ _ rfl y2 (decS m) (by rfl) (by rfl) qy3 wx)
                    simp only [Act.put, List.setIfInBounds_toArray, List.set_cons_zero, List.set_cons_succ]
                    have Hy3 := hide hy3
                    clear hy3 qy3
                    obtain ⟨y4, hy4⟩ : ∃ x, x = y3 ++ (⟨#[10]⟩ : ByteArray) := ⟨_, rfl⟩
                    have qy4 : y3.size + (⟨#[10]⟩ : ByteArray).size ≤ 140000000000000 := by have hy : ((⟨#[10]⟩ : ByteArray) : ByteArray).size ≤ 100001 := (by show _ ≤ _; decide); skip; omega
                    have zy4 : y4.size ≤ 900000 := by have hy : ((⟨#[10]⟩ : ByteArray) : ByteArray).size ≤ 100001 := (by show _ ≤ _; decide); skip; rw [hy4, ByteArray.size_append]; omega
                    refine takeAt 9 (some 74) (v := .string y4) (by decide) rfl (by kernel_rfl) (by kernel_rfl) (by kernel_rfl) (fun _ _ _ h => h) (by rfl) ?hy9b hHeld ?r9b
                    case hy9b => (intro wx hSw; rw [hy4]; exact exec_add 9 9 _ _ rfl y3 (⟨#[10]⟩ : ByteArray) (by rfl) (by rfl) qy4 wx)
                    simp only [Act.put, List.setIfInBounds_toArray, List.set_cons_zero, List.set_cons_succ]
                    have Hy4 := hide hy4
                    clear hy4 qy4
                    refine takeAt 10 (some 9) (v := ?v10b) (by decide) rfl (by kernel_rfl) (by kernel_rfl) (by kernel_rfl) (fun _ _ _ h => h) (by rfl) ?hy10b hHeld ?r10b
                    case hy10b => (intro wx hSw; obtain ⟨s1, s2⟩ := hSw; go_simp; with_reducible rfl)
                    simp only [Act.put, List.setIfInBounds_toArray, List.set_cons_zero, List.set_cons_succ]
                    refine wpAnyH_done (by kernel_rfl) ?_ _
                    have HLT : Hid (y4 = lineT u m) := hide (by
                      unfold lineT
                      rw [unhide Hy4, unhide Hy3, unhide Hy2, unhide Hy1])
                    clear Hy1 Hy2 Hy3 Hy4 zy1 zy2 zy3 zdwe zdwf HBwe hHeld HSS
                    have HIf := hide ((unhide HI1).go hB7 (unhide HBwf))
                    have HOf := hide (unhide HIf).own
                    have hsf : w2.heap.size ≤ wf.heap.size := Nat.le_trans hB7 (unhide HIf).below.size
                    clear HI1 HBwf HI
                    go_wp2_with (at_builtin; refine wpList_append_str (by rfl) _ _ _ _ (by rfl) w2.heap.size 5 i0 Tryz.underlying22 Tryz.underlying9 (unhide II).1 (unhide II).2.1 (unhide II).2.2.1 (unhide II).2.2.2 u3 _ _ (by rfl) (unhide HOf) y4 (by rfl) (by omega) hsf ?_; intro ov9 W9 hown9 hgrow9 hnew9; have HI9 : Hid (OutI w2.heap.size wo.heap.size W6.heap.size W7 ov9 (L2 ++ repRow k l (q + 1)) W9) := hide ((unhide HIf).put hB7 (by have e : ((L2 ++ repRow k l q) ++ bl y4).length = (L2 ++ repRow k l q).length + y4.size := len_bl _ _; rw [unhide HRS, lineT_of, ← unhide HLT, ← List.append_assoc, e, byteCells_app (L2 ++ repRow k l q), ← strCells_bl]; exact hown9) hgrow9 hnew9); clear hown9 hgrow9 hnew9 HIf HOf)
                    go_roundg (l.length - (q + 1))
                    case measure => omega
                    case rel => exact ⟨q + 1, by omega, by go_num, unhide HI9⟩
                  · have heb : (rf == (k : Int)) = false := by simp [he]
                    rw [if_neg he, List.append_nil] at HRS
                    clear he
                    go_wp2_with fail
                    go_roundg (l.length - (q + 1))
                    case measure => omega
                    case rel => exact ⟨q + 1, by omega, by go_num, by rw [unhide HRS]; exact (unhide HI).go hB7 (unhide HBA)⟩
              · obtain rfl : q = l.length := by omega
                as_aux_lemma =>
                  have HRP : Hid (repTo f n fns l (k + 1) = L2 ++ repRow k l l.length) := hide (by
                    show repTo f n fns l k ++ repFn f n fns l k = _
                    rw [← unhide HLD, unhide HL2, unhide HLT]
                    obtain ⟨e1, e2, e3, e4⟩ := unhide HCS
                    have hz := unhide HCZ
                    unfold repFn
                    rw [if_neg (by rw [e1]; omega), ← e2, ← e3, ← e4, List.append_assoc])
                  go_wp2_with fail
                  go_roundg (nf - (k + 1))
                  case measure => omega
                  case rel => exact ⟨k + 1, by omega, by go_num, by rw [unhide HRP]; exact (unhide HI).own, (unhide HB7).trans hI.below⟩
      · obtain rfl : k = nf := by omega
        have ec := conv_bytes wo w2.heap.size ov L (unhide HO)
        have HTB := hide (unhide HT).below
        go_wp2
        go_ret
        exact ⟨⟨_, rfl, .inl ⟨unhide HS, l, unhide HL, by rw [unhide HLD]⟩⟩, unhide HTB⟩
end Go.Proofs.YtmnmeaeicjhkhaaGreatDoor
