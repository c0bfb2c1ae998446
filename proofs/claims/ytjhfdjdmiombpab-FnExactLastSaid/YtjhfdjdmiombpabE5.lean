import Derived.Test.YtjhfdjdmiombpabE4
import Derived.BigQuiet
namespace Go.Proofs.Ytjhfdjdmiombpab
open Go.RowKit Go.Lib

def ownFr (f : Nat → M) (i : Nat) : Fr := (ownOf f i).getD ⟨0, 0, 0⟩

theorem ownCells_eq (f : Nat → M) (i : Nat) : ownCells f i = [.bool (ownOf f i).isSome, .int .i64 (ownTask f i), .int .i64 (ownFr f i).fn, .int .i64 (ownFr f i).line, .int .i64 (ownFr f i).frm] := by
  unfold ownCells ownFr
  cases ownOf f i with
  | none => rfl
  | some fr => rfl

theorem ownRows_len (f : Nat → M) : ∀ n, (ownRows f n).length = n * 5
  | 0 => rfl
  | n + 1 => by
    rw [ownRows_succ, List.length_append, ownRows_len f n, ownCells_eq]
    simp; omega

theorem ownRows_get (f : Nat → M) : ∀ n i j, i < n → j < 5 → (ownRows f n)[i * 5 + j]? = (ownCells f i)[j]?
  | 0, i, j, hi, _ => absurd hi (Nat.not_lt_zero _)
  | n + 1, i, j, hi, hj => by
    have hl := ownRows_len f n
    rw [ownRows_succ]
    by_cases e : i < n
    · rw [List.getElem?_append_left (by omega)]
      exact ownRows_get f n i j e hj
    · have e : i = n := by omega
      subst e
      rw [List.getElem?_append_right (by omega)]
      congr 1
      omega

/-- The owners' cells, by index. -/
def OwnersAt (w : World) (ob n : Nat) (f : Nat → M) : Prop := ∀ i, i < n → w.cell? ⟨ob, i * 5, none⟩ = some (.bool (ownOf f i).isSome) ∧ w.cell? ⟨ob, i * 5 + 1, none⟩ = some (.int .i64 (ownTask f i)) ∧
  w.cell? ⟨ob, i * 5 + 2, none⟩ = some (.int .i64 (ownFr f i).fn) ∧ w.cell? ⟨ob, i * 5 + 3, none⟩ = some (.int .i64 (ownFr f i).line) ∧ w.cell? ⟨ob, i * 5 + 4, none⟩ = some (.int .i64 (ownFr f i).frm)

theorem OwnersAt.below {w w' : World} {ob n : Nat} {f : Nat → M} (h : OwnersAt w ob n f) (hb : Below w.heap.size w w') : OwnersAt w' ob n f := fun i hi => by
  obtain ⟨a, b, c, d, e⟩ := h i hi
  exact ⟨cell_below hb a, cell_below hb b, cell_below hb c, cell_below hb d, cell_below hb e⟩

theorem owners_of {w : World} {B n : Nat} {f : Nat → M} {v : Value} (h : w.ownsRow B 206 5 v n (ownRows f n)) (hn : 0 < n) : ∃ ob oc, v = .slice (some ⟨ob, 0, none⟩) n oc ∧ B ≤ ob ∧ OwnersAt w ob n f := by
  obtain ⟨ob, oc, e, hB, -⟩ := h.form hn
  refine ⟨ob, oc, e, hB, fun i hi => ?_⟩
  subst e
  have hg : ∀ j v, j < 5 → (ownCells f i)[j]? = some v → w.cell? ⟨ob, i * 5 + j, none⟩ = some v := fun j v hj hv => (owns_cell h (i * 5 + j) v (by rw [ownRows_get f n i j hi hj]; exact hv)).1
  rw [ownCells_eq] at hg
  exact ⟨hg 0 _ (by omega) rfl, hg 1 _ (by omega) rfl, hg 2 _ (by omega) rfl, hg 3 _ (by omega) rfl, hg 4 _ (by omega) rfl⟩

theorem prevText_early {f : Nat → M} {nm : ByteArray} {frm : Int} : ∀ {k : Nat}, (k : Int) ≤ frm → prevText f nm frm k = none
  | 0, _ => rfl
  | k + 1, h => by
    rw [prevText_step]
    have ih := prevText_early (f := f) (nm := nm) (frm := frm) (k := k) (by omega)
    cases e1 : ownOf f k with
    | none => exact ih
    | some fr =>
      cases e2 : shows f nm k with
      | none => exact ih
      | some t =>
        dsimp only
        rw [if_neg (by have := ownOf_frm e1; omega)]
        exact ih

theorem prevText_skip {f : Nat → M} {nm : ByteArray} {frm : Int} {k : Nat} (h : ∀ fr t, ownOf f k = some fr → shows f nm k = some t → fr.frm ≠ frm) : prevText f nm frm (k + 1) = prevText f nm frm k := by
  rw [prevText_step]
  cases e1 : ownOf f k with
  | none => rfl
  | some fr =>
    cases e2 : shows f nm k with
    | none => rfl
    | some t => dsimp only; rw [if_neg (h fr t e1 e2)]

theorem prevText_hit {f : Nat → M} {nm : ByteArray} {frm : Int} {k : Nat} {fr : Fr} {t : ByteArray} (h1 : ownOf f k = some fr) (h2 : shows f nm k = some t) (h3 : fr.frm = frm) : prevText f nm frm (k + 1) = some t := by
  rw [prevText_step, h1, h2]
  dsimp only
  rw [if_pos h3]

theorem watchHit_some {f : Nat → M} {s : Sp} {k : Nat} {fr : Fr} {t : ByteArray} (h1 : ownOf f k = some fr) (h2 : shows f s.name k = some t) : watchHit f s k = (decide (fr.fn = s.fn) && decide (prevText f s.name fr.frm k ≠ some t)) := by
  unfold watchHit; rw [h1, h2]

theorem watchHit_none1 {f : Nat → M} {s : Sp} {k : Nat} (h1 : ownOf f k = none) : watchHit f s k = false := by unfold watchHit; rw [h1]
theorem watchHit_none2 {f : Nat → M} {s : Sp} {k : Nat} (h2 : shows f s.name k = none) : watchHit f s k = false := by unfold watchHit; rw [h2]; split <;> first | rfl | simp_all

/-- The boxes of a call of l3changes. -/
structure Chg (w : World) (v1 v2 : Value) (s : Sp) (ok : Bool) (task fn frm : Int) (W : World) : Prop where
  below : Below w.heap.size w W
  t1 : W.cell? ⟨w.heap.size, 1, none⟩ = some v2
  s1 : W.cell? ⟨w.heap.size + 1, 1, none⟩ = some (.int .i64 s.fn)
  s3 : W.cell? ⟨w.heap.size + 1, 3, none⟩ = some (.string s.name)
  o0 : W.cell? ⟨w.heap.size + 1 + 1, 0, none⟩ = some (.bool ok)
  o1 : W.cell? ⟨w.heap.size + 1 + 1, 1, none⟩ = some (.int .i64 task)
  o2 : W.cell? ⟨w.heap.size + 1 + 1, 2, none⟩ = some (.int .i64 fn)
  o4 : W.cell? ⟨w.heap.size + 1 + 1, 4, none⟩ = some (.int .i64 frm)

theorem Chg.go {w : World} {v1 v2 : Value} {s : Sp} {ok : Bool} {task fn frm : Int} {W W' : World} (h : Chg w v1 v2 s ok task fn frm W) (hb : Below W.heap.size W W') : Chg w v1 v2 s ok task fn frm W' :=
  ⟨h.below.trans (hb.mono h.below.size), cell_below hb h.t1, cell_below hb h.s1, cell_below hb h.s3, cell_below hb h.o0, cell_below hb h.o1, cell_below hb h.o2, cell_below hb h.o4⟩

theorem Chg.new (w : World) (v1 v2 : Value) (s : Sp) (ok : Bool) (task fn line frm : Int) : Chg w v1 v2 s ok task fn frm (((w.alloc (.cells #[v1, v2] 31)).alloc (.cells #[.int .i64 s.kind, .int .i64 s.fn, .int .i64 s.line, .string s.name] 50)).alloc (.cells #[.bool ok, .int .i64 task, .int .i64 fn, .int .i64 line, .int .i64 frm] 206)) := by
  obtain ⟨A, hA⟩ : ∃ A, A = w.alloc (.cells #[v1, v2] 31) := ⟨_, rfl⟩
  have sA : A.heap.size = w.heap.size + 1 := by rw [hA]; simp
  have kA : A.heap[w.heap.size]? = some (.cells #[v1, v2] 31 (0, 0)) := by rw [hA]; exact heap_alloc_new w _
  have bA : Below w.heap.size w A := by rw [hA]; exact below_new _ _
  rw [← hA]
  obtain ⟨C, hC⟩ : ∃ C, C = A.alloc (.cells #[.int .i64 s.kind, .int .i64 s.fn, .int .i64 s.line, .string s.name] 50) := ⟨_, rfl⟩
  have sC : C.heap.size = w.heap.size + 1 + 1 := by rw [hC]; simp [sA]
  have kC : C.heap[w.heap.size + 1]? = some (.cells #[.int .i64 s.kind, .int .i64 s.fn, .int .i64 s.line, .string s.name] 50 (0, 0)) := by rw [hC, ← sA]; exact heap_alloc_new A _
  have bC : Below A.heap.size A C := by rw [hC]; exact below_new _ _
  rw [← hC]
  obtain ⟨D, hD⟩ : ∃ D, D = C.alloc (.cells #[.bool ok, .int .i64 task, .int .i64 fn, .int .i64 line, .int .i64 frm] 206) := ⟨_, rfl⟩
  have kD : D.heap[w.heap.size + 1 + 1]? = some (.cells #[.bool ok, .int .i64 task, .int .i64 fn, .int .i64 line, .int .i64 frm] 206 (0, 0)) := by rw [hD, ← sC]; exact heap_alloc_new C _
  have bD : Below C.heap.size C D := by rw [hD]; exact below_new _ _
  rw [← hD]
  refine ⟨bA.trans ((bC.mono (by omega)).trans (bD.mono (by omega))), ?_, ?_, ?_, ?_, ?_, ?_, ?_⟩
  · exact cell_below bD (cell_below bC (by rw [cell_of_row A _ 1 _ _ _ kA]; rfl))
  · exact cell_below bD (by rw [cell_of_row C _ 1 _ _ _ kC]; rfl)
  · exact cell_below bD (by rw [cell_of_row C _ 3 _ _ _ kC]; rfl)
  · rw [cell_of_row D _ 0 _ _ _ kD]; rfl
  · rw [cell_of_row D _ 1 _ _ _ kD]; rfl
  · rw [cell_of_row D _ 2 _ _ _ kD]; rfl
  · rw [cell_of_row D _ 4 _ _ _ kD]; rfl

set_option maxRecDepth 100000 in
set_option maxHeartbeats 4000000 in
theorem l3changes_any (lo B : Nat) (v1 v2 ov : Value) (n : Nat) (f : Nat → M) (s : Sp) (k : Nat) (w : World) (h2 : MomsAt lo w v2 n f) (ho : w.ownsRow B 206 5 ov n (ownRows f n)) (hk : k < n) (hn : n ≤ 3000) :
    Calls Try.prog 123 #[.agg #[v1, v2], ov, .agg #[.int .i64 s.kind, .int .i64 s.fn, .int .i64 s.line, .string s.name], .int .i64 k] w fun e w' => e = .returned (.bool (watchHit f s k)) ∧ Below w.heap.size w w' := by
  obtain ⟨ob, oc, rfl, -, hos⟩ := owners_of ho (by omega)
  have H2 := hide h2
  have HO := hide hos
  obtain ⟨a2, cap2, rfl, hn2, hv⟩ := h2
  obtain ⟨bm, om, -, rfl, -⟩ := hv k hk
  obtain ⟨p0, p1, p2, p3, p4⟩ := hos k hk
  have hkz : (0 : Int) ≤ (k : Int) := by omega
  have hkn : (k : Int) < (n : Int) := by omega
  unfold maxLen at hn2
  clear hv hos ho
  have hob : ob < w.heap.size := cell_lt p0
  have p0' : ((w.alloc (.cells #[v1, .slice (some ⟨bm, om, none⟩) n cap2] 31)).alloc (.cells #[.int .i64 s.kind, .int .i64 s.fn, .int .i64 s.line, .string s.name] 50)).cell? ⟨ob, k * 5, none⟩ = some (.bool (ownOf f k).isSome) := cell_below (((Below.refl _ _).alloc (Nat.le_refl _) _).alloc (by simp) _) p0
  have p1' : ((w.alloc (.cells #[v1, .slice (some ⟨bm, om, none⟩) n cap2] 31)).alloc (.cells #[.int .i64 s.kind, .int .i64 s.fn, .int .i64 s.line, .string s.name] 50)).cell? ⟨ob, k * 5 + 1, none⟩ = some (.int .i64 (ownTask f k)) := cell_below (((Below.refl _ _).alloc (Nat.le_refl _) _).alloc (by simp) _) p1
  have p2' : ((w.alloc (.cells #[v1, .slice (some ⟨bm, om, none⟩) n cap2] 31)).alloc (.cells #[.int .i64 s.kind, .int .i64 s.fn, .int .i64 s.line, .string s.name] 50)).cell? ⟨ob, k * 5 + 2, none⟩ = some (.int .i64 (ownFr f k).fn) := cell_below (((Below.refl _ _).alloc (Nat.le_refl _) _).alloc (by simp) _) p2
  have p3' : ((w.alloc (.cells #[v1, .slice (some ⟨bm, om, none⟩) n cap2] 31)).alloc (.cells #[.int .i64 s.kind, .int .i64 s.fn, .int .i64 s.line, .string s.name] 50)).cell? ⟨ob, k * 5 + 3, none⟩ = some (.int .i64 (ownFr f k).line) := cell_below (((Below.refl _ _).alloc (Nat.le_refl _) _).alloc (by simp) _) p3
  have p4' : ((w.alloc (.cells #[v1, .slice (some ⟨bm, om, none⟩) n cap2] 31)).alloc (.cells #[.int .i64 s.kind, .int .i64 s.fn, .int .i64 s.line, .string s.name] 50)).cell? ⟨ob, k * 5 + 4, none⟩ = some (.int .i64 (ownFr f k).frm) := cell_below (((Below.refl _ _).alloc (Nat.le_refl _) _).alloc (by simp) _) p4
  clear p0 p1 p2 p3 p4
  go_enter Try.func123, Try.ntmps123
  go_upto_region 2 with fail
  have HC := hide (Chg.new w v1 (.slice (some ⟨bm, om, none⟩) n cap2) s (ownOf f k).isSome (ownTask f k) (ownFr f k).fn (ownFr f k).line (ownFr f k).frm)
  generalize ((w.alloc (.cells #[v1, .slice (some ⟨bm, om, none⟩) n cap2] 31)).alloc (.cells #[.int .i64 s.kind, .int .i64 s.fn, .int .i64 s.line, .string s.name] 50)).alloc (.cells #[.bool (ownOf f k).isSome, .int .i64 (ownTask f k), .int .i64 (ownFr f k).fn, .int .i64 (ownFr f k).line, .int .i64 (ownFr f k).frm] 206) = W0 at HC ⊢
  clear p0' p1' p2' p3' p4'
  have HM0 := hide ((unhide H2).below (unhide HC).below)
  obtain ⟨_, _, e, _, hv⟩ := unhide HM0
  cases e
  obtain ⟨_, _, vv, e, -, -, -, -, -, hc5, -, hvv, -⟩ := hv k hk
  cases e
  have HVV := hide hvv
  have t1 := (unhide HC).t1
  have s3 := (unhide HC).s3
  clear hv hvv
  go_region_held3 (fun w' => w'.cell? ⟨w.heap.size, 1, none⟩ = some (.slice (some ⟨bm, om, none⟩) n cap2) ∧ w'.cell? ⟨bm, om + k * 6 + 5, none⟩ = some vv ∧ w'.cell? ⟨w.heap.size + 1, 3, none⟩ = some (.string s.name))
    (first | (exact ⟨t1, hc5, s3⟩) | (exact ⟨cell_below hbA t1, cell_below hbA hc5, cell_below hbA s3⟩))
    ((go_at_call 148; refine (l3value_any lo vv (f k).nv (f k).vars s.name _ (by exact (unhide HVV).below (Below.refl _ _).drew)).mono ?_; rintro e wA ⟨rfl, hbA⟩))
  have HC1 := hide (((unhide HC).go (Below.refl _ _).drew).go hbA)
  have hlt : lastText (f k).vars s.name (f k).nv = shows f s.name k := rfl
  rw [hlt]
  clear hlt HC HM0 HVV t1 s3 hc5 hbA
  have q0 := (unhide HC1).o0
  have q2 := (unhide HC1).o2
  have r1 := (unhide HC1).s1
  cases hown : ownOf f k with
  | none =>
    rw [hown] at q0
    simp only [Option.isSome_none] at q0
    have HW := hide (watchHit_none1 (s := s) hown)
    clear hown q2 r1
    go_wp2_with fail
    go_ret
    exact ⟨by rw [unhide HW]; rfl, (unhide HC1).below⟩
  | some fr =>
    have efr : ownFr f k = fr := by unfold ownFr; rw [hown]; rfl
    rw [hown] at q0
    rw [efr] at q2 HC1
    simp only [Option.isSome_some] at q0
    have HOWN := hide hown
    clear efr hown
    by_cases hfn : fr.fn = s.fn
    · have hfb : (fr.fn != s.fn) = false := by rw [hfn]; simp
      have HFN := hide hfn
      clear hfn
      cases hsh : shows f s.name k with
      | none =>
        have HW := hide (watchHit_none2 hsh)
        clear hsh
        go_wp2_with fail
        go_ret
        exact ⟨by rw [unhide HW]; rfl, (unhide HC1).below⟩
      | some t =>
        have HW := hide (watchHit_some (unhide HOWN) hsh)
        have wx : IntKind.i64.wrap ((k : Int) - 1) = (k : Int) - 1 := by rw [IntKind.wrap_i64]; omega
        clear hsh
        go_wp2_with fail
        go_loopw [12] (fun i W => ∃ (k' : Nat), k' ≤ k ∧ i = .int .i64 ((k' : Int) - 1) ∧ prevText f s.name fr.frm k = prevText f s.name fr.frm k' ∧ Chg w v1 (.slice (some ⟨bm, om, none⟩) n cap2) s (ownOf f k).isSome (ownTask f k) fr.fn fr.frm W) (fun i _ => (intOf i + 1).toNat)
        case atStart => exact ⟨k, Nat.le_refl _, rfl, rfl, unhide HC1⟩
        case round =>
          clear HC1 q0 q2 r1 wx hfb
          obtain ⟨k', hk', rfl, hpv, hch⟩ := hrel
          have HPV := hide hpv
          have HC := hide hch
          clear hpv hch
          cases k' with
          | zero =>
            have e0 : (((0 : Nat) : Int) - 1) = -1 := rfl
            rw [e0]
            have HW2 : Hid (watchHit f s k = true) := hide (by rw [unhide HW, unhide HPV]; simp [prevText, unhide HFN])
            clear e0
            go_wp2_with fail
            go_ret
            exact ⟨by rw [unhide HW2]; rfl, (unhide HC).below⟩
          | succ j =>
            have e0 : (((j + 1 : Nat) : Int) - 1) = (j : Int) := by omega
            rw [e0]
            have hjz : (0 : Int) ≤ (j : Int) := by omega
            have hjn : (j : Int) < (n : Int) := by omega
            have q4 := (unhide HC).o4
            by_cases hge : fr.frm ≤ (j : Int)
            · have wj : IntKind.i64.wrap ((j : Int) - 1) = (j : Int) - 1 := by rw [IntKind.wrap_i64]; omega
              obtain ⟨x0, x1, x2, x3, x4⟩ := ((unhide HO).below (unhide HC).below) j (by omega)
              have q1 := (unhide HC).o1
              cases hj : ownOf f j with
              | none =>
                rw [hj] at x0
                simp only [Option.isSome_none] at x0
                have HJ := hide hj
                clear hj x1 x2 x3 x4 e0
                go_wp2_with fail
                go_quiet (fail)
                go_wp2_with fail
                go_roundw
                case rel => exact ⟨j, by omega, by go_num, (unhide HPV).trans (prevText_skip (fun _ _ h _ => by rw [unhide HJ] at h; cases h)), (unhide HC).go (below_drewN (Below.refl _ _) _)⟩
                case measure => first | (simp [intOf]; done) | (simp [intOf]; omega)
              | some fj =>
                have efj : ownFr f j = fj := by unfold ownFr; rw [hj]; rfl
                rw [hj] at x0
                rw [efj] at x2 x3 x4
                simp only [Option.isSome_some] at x0
                have HJ := hide hj
                clear hj efj e0
                by_cases htk : (ownTask f j : Int) = (ownTask f k : Int)
                · have htb : ((ownTask f j : Int) != (ownTask f k : Int)) = false := by rw [htk]; simp
                  by_cases hfm : fj.frm = fr.frm
                  · have hfb : (fj.frm != fr.frm) = false := by rw [hfm]; simp
                    have HFM := hide hfm
                    clear hfm htk
                    go_upto_region 9 with (go_quiet (fail))
                    generalize hwq : wr.drewN _ = wq
                    have HCq : Hid (Chg w v1 (.slice (some ⟨bm, om, none⟩) n cap2) s (ownOf f k).isSome (ownTask f k) fr.fn fr.frm wq) := by rw [← hwq]; exact hide ((unhide HC).go (below_drewN (Below.refl _ _) _))
                    have HMq := hide ((unhide H2).below (unhide HCq).below)
                    obtain ⟨_, _, e, _, hv⟩ := unhide HMq
                    cases e
                    obtain ⟨_, _, vj, e, -, -, -, -, -, hc5, -, hvv, -⟩ := hv j (by omega)
                    cases e
                    have HVV := hide hvv
                    have t1 := (unhide HCq).t1
                    have s3 := (unhide HCq).s3
                    clear hv hvv hwq x0 x1 x2 x3 x4 q1 q4 htb hfb
                    go_region_held3 (fun w' => w'.cell? ⟨w.heap.size, 1, none⟩ = some (.slice (some ⟨bm, om, none⟩) n cap2) ∧ w'.cell? ⟨bm, om + j * 6 + 5, none⟩ = some vj ∧ w'.cell? ⟨w.heap.size + 1, 3, none⟩ = some (.string s.name))
                      (first | (exact ⟨t1, hc5, s3⟩) | (exact ⟨cell_below hbA t1, cell_below hbA hc5, cell_below hbA s3⟩))
                      ((go_at_call 148; refine (l3value_any lo vj (f j).nv (f j).vars s.name _ (by exact (unhide HVV).below (Below.refl _ _).drew)).mono ?_; rintro e wB ⟨rfl, hbA⟩))
                    have HC2 := hide (((unhide HCq).go (Below.refl _ _).drew).go hbA)
                    have hlt2 : lastText (f j).vars s.name (f j).nv = shows f s.name j := rfl
                    rw [hlt2]
                    clear hlt2 HCq HMq HVV t1 s3 hc5 hbA
                    cases hsj : shows f s.name j with
                    | none =>
                      have HSJ := hide hsj
                      clear hsj
                      simp only [Option.isSome_none]
                      go_wp2_with fail
                      refine ⟨⟨_, _, _, _, _, _, _, _, _, _, _, _, _, _, _, _, _, _, _, _, _, _, _, _, _, _, _, _, _, _, _, _, _, _, _, _, _, _, _, _, _, _, _, _, _, _, _, _, _, _, _, _, _, _, _, _, _, _, _, ?rel, rfl⟩, ?measure⟩
                      case rel => exact ⟨j, by omega, by go_num, (unhide HPV).trans (prevText_skip (fun _ _ _ h => by rw [unhide HSJ] at h; cases h)), unhide HC2⟩
                      case measure => first | (simp [intOf]; done) | (simp [intOf]; omega)
                    | some tj =>
                      have HPH := hide ((unhide HPV).trans (prevText_hit (unhide HJ) hsj (unhide HFM)))
                      clear hsj
                      simp only [Option.isSome_some]
                      by_cases het : tj = t
                      · subst het
                        have HW2 : Hid (watchHit f s k = false) := hide (by rw [unhide HW, unhide HPH]; simp)
                        go_wp2_with fail
                        go_ret
                        exact ⟨by rw [unhide HW2]; simp [textOr], (unhide HC2).below⟩
                      · have HW2 : Hid (watchHit f s k = true) := hide (by rw [unhide HW, unhide HPH]; simp [unhide HFN, het])
                        have hbe := bytes_ne het
                        clear het
                        go_wp2_with fail
                        go_ret
                        exact ⟨by rw [unhide HW2]; simp [textOr, hbe], (unhide HC2).below⟩
                  · have hfb : (fj.frm != fr.frm) = true := by simpa using hfm
                    have HFM := hide hfm
                    clear hfm htk
                    go_wp2_with fail
                    go_quiet (fail)
                    go_wp2_with fail
                    go_roundw
                    case rel => exact ⟨j, by omega, by go_num, (unhide HPV).trans (prevText_skip (fun fr2 _ h _ => by rw [unhide HJ] at h; cases h; exact unhide HFM)), (unhide HC).go (below_drewN (Below.refl _ _) _)⟩
                    case measure => first | (simp [intOf]; done) | (simp [intOf]; omega)
                · have htb : ((ownTask f j : Int) != (ownTask f k : Int)) = true := by simpa using htk
                  have HTK := hide htk
                  clear htk
                  go_wp2_with fail
                  go_quiet (fail)
                  go_wp2_with fail
                  go_roundw
                  case rel => exact ⟨j, by omega, by go_num, (unhide HPV).trans (prevText_skip (fun fr2 _ h _ e => by rw [unhide HJ] at h; cases h; exact unhide HTK (by rw [(opened_same (ownOf_opened (unhide HJ)) (ownOf_opened (unhide HOWN)) e).1]))), (unhide HC).go (below_drewN (Below.refl _ _) _)⟩
                  case measure => first | (simp [intOf]; done) | (simp [intOf]; omega)
            · have hgb : ¬ (fr.frm ≤ (j : Int)) := hge
              have HW2 : Hid (watchHit f s k = true) := hide (by rw [unhide HW, unhide HPV, prevText_early (by omega)]; simp [unhide HFN])
              clear hge e0
              go_wp2_with fail
              go_ret
              exact ⟨by rw [unhide HW2]; rfl, (unhide HC).below⟩
    · have hfb : (fr.fn != s.fn) = true := by simpa using hfn
      have HFN := hide hfn
      clear hfn
      go_wp2_with fail
      go_ret
      refine ⟨?_, (unhide HC1).below⟩
      cases hsh : shows f s.name k with
      | none => rw [watchHit_none2 hsh]; rfl
      | some t => rw [watchHit_some (unhide HOWN) hsh, decide_eq_false (unhide HFN)]; rfl
end Go.Proofs.Ytjhfdjdmiombpab
