import Derived.Test.YtmnmeaeicjhkhaaGreatDoorGXaz
import Derived.BigQuiet
import Derived.Test.YtmnmeaeicjhkhaaGreatDoorGFbz
import Derived.Test.YtmnmeaeicjhkhaaGreatDoorGEdz
/-
  Spec's ask: undo, to, vars.
-/
namespace Go.Proofs.YtmnmeaeicjhkhaaGreatDoor
open Go.RowKit

theorem owns_short {w : World} {B : Nat} {e : TypeId} {v : Value} {n m : Nat} {xs : List Value} {g cap : Nat} (h : w.ownsRow B e 1 (.slice (some ⟨g, 0, none⟩) n cap) n xs) (hm : m ≤ n) : w.ownsRow B e 1 (.slice (some ⟨g, 0, none⟩) m cap) m (xs.take m) ∧ v = v := by
  obtain ⟨h1, h2⟩ := h
  refine ⟨⟨by rw [List.length_take]; omega, ?_⟩, rfl⟩
  rcases h2 with ⟨e, _⟩ | ⟨g', cap', cur, e, hB, hh, hc, hx, hs, ht⟩
  · cases e
  · cases e
    refine .inr ⟨g, cap, cur, rfl, hB, hh, by omega, hx, hs, ?_⟩
    rw [← ht, List.take_take]
    congr 1
    omega

theorem getLast_at {l : List Int} (h : l ≠ []) : l.getLast? = some (l.getD (l.length - 1) 0) := by
  rw [List.getLast?_eq_getElem?, List.getD_eq_getElem?_getD]
  have : l.length - 1 < l.length := by have := List.length_pos_iff.2 h; omega
  rw [List.getElem?_eq_getElem this]; rfl

set_option maxRecDepth 100000 in
set_option maxHeartbeats 4000000 in
theorem specAsk_undo (B lb lo : Nat) (v1 v2 hv pv : Value) (nf : Nat) (fns : Nat → ByteArray) (n : Nat) (f : Nat → M) (s : LS) (nn : Int) (name : ByteArray) (kd fn line : Int) (sn : ByteArray) (w : World) (h : SL B w lb v1 v2 n f s hv pv) (h2 : ∀ W, Below B w W → MomsAt lo W v2 n f) (hs : Sound nf fns n f) (hok : LsOk n s) (hp : s.past.length ≤ 10000) (hB : B ≤ w.heap.size) (hz : name.size ≤ maxLen) (hz2 : sn.size ≤ maxLen) (ho : OkAsk (⟨8, nn, name, ⟨kd, fn, line, sn⟩⟩ : Ak)) :
    Calls Tryz.prog 38 #[.pointer (some ⟨lb, 0, none⟩), .agg #[.int .i64 8, .int .i64 nn, .string name, .int .i64 kd, .int .i64 fn, .int .i64 line, .string sn]] w fun e w' => SAsk B lb v1 v2 n f s (⟨8, nn, name, ⟨kd, fn, line, sn⟩⟩ : Ak) w e w' := by
  have H := hide h
  have H2 := hide h2
  have HS := hide hs
  have HOK := hide hok
  have HP := hide hp
  clear hp
  have A0 := hide (AB.new w (⟨8, nn, name, ⟨kd, fn, line, sn⟩⟩ : Ak))
  have HBW := hide (((below_new w (.cells #[.int .i64 8, .int .i64 nn, .string name, .int .i64 kd, .int .i64 fn, .int .i64 line, .string sn] 47)).alloc (by simp) (.cells #[.int .i64 0, .int .i64 0, .int .i64 0, .string ⟨#[]⟩, .slice none 0 0, .slice none 0 0] 38)).alloc (by simp; omega) (.cells #[.int .i64 0, .int .i64 0, .int .i64 0, .string ⟨#[]⟩, .slice none 0 0, .slice none 0 0] 38))
  clear h h2 hs hok
  go_enter Tryz.func38, Tryz.ntmps38
  go_wp2_with fail
  refine (l5askOk_any 8 nn name kd fn line sn _ hz hz2).mono ?_
  rintro e w1 ⟨⟨b, rfl, hbb⟩, hbl⟩
  have A1 := hide ((unhide A0).go hbl)
  have HB1 := hide ((unhide HBW).trans (hbl.mono (unhide HBW).size))
  have H1 := hide ((unhide H).below (unhide HB1))
  obtain rfl : b = true := hbb.2 ho
  clear hbb hbl
  have HO := hide ho
  clear ho
  have c4 := (unhide H1).c4
  obtain ⟨pa, pc, hpv⟩ := (unhide H1).pslice
  obtain ⟨m, hm⟩ : ∃ m, m = s.past.length := ⟨_, rfl⟩
  rw [← hm] at hpv
  subst hpv
  have HM := hide hm
  clear hm
  have hm1 : m ≤ 10000 := by rw [unhide HM]; exact unhide HP
  have a0 : w1.cell? ⟨w.heap.size, 0, none⟩ = some (.int .i64 8) := (unhide A1).a0
  by_cases h0 : m = 0
  · have hb0 : ((m : Int) == 0) = true := by rw [h0]; rfl
    have HE : Hid (s.past = []) := hide (List.length_eq_zero_iff.1 (by rw [← unhide HM]; exact h0))
    clear h0
    obtain ⟨⟨r0, r1, r2, r3, r4, r5⟩, x0, x1, x2, x3, x4, x5⟩ := (unhide A1).rc
    obtain ⟨⟨o0, o1, o2, o3, o4, o5⟩, ofz⟩ := (unhide A1).oc
    have y1 := ofz 1
    have y2 := ofz 2
    have y3 := ofz 3
    have y4 := ofz 4
    have y5 := ofz 5
    clear ofz
    have hne : w.heap.size + 1 + 1 ≠ w.heap.size + 1 := by omega
    have hne' : w.heap.size + 1 ≠ w.heap.size + 1 + 1 := by omega
    go_wp2
    refine bodyPost_ret (v := .agg #[.int .i64 0, .int .i64 4, .int .i64 0, .string ⟨#[]⟩, .slice none 0 0, .slice none 0 0]) (by simp [results, Tryz.results38, go_sem, r0, r1, r2, r3, r4, r5]) rfl ?_
    exact sask_end (AskIs.undo4 (unhide HO) rfl (unhide HE)) rfl rfl rfl ((unhide H1).told (unhide A1) 1 (.int .i64 4)) ((unhide A1).set1 4) (frs_nil _ _) (VsAt.nil _ _) (((unhide HB1).mono hB).setCell (p := ⟨w.heap.size + 1 + 1, 1, none⟩) (show B ≤ w.heap.size + 1 + 1 by omega) _) ((Same.of_below (unhide HB1)).far (by omega)) hB
  have hb0 : ((m : Int) == 0) = false := by simp; omega
  have hrow := (unhide H1).past
  rw [← unhide HM] at hrow
  obtain ⟨g, cap, eg, hBg, _⟩ := owns_atx hrow h0
  cases eg
  obtain ⟨j, rfl⟩ : ∃ j, m = j + 1 := ⟨m - 1, by omega⟩
  have hjl : j < s.past.length := by rw [← unhide HM]; omega
  obtain ⟨x, hx⟩ : ∃ x, x = s.past.getD j 0 := ⟨_, rfl⟩
  have hxe : s.past[j]? = some x := by rw [hx, List.getD_eq_getElem?_getD, List.getElem?_eq_getElem hjl]; rfl
  have q0 : w1.cell? ⟨g, j, none⟩ = some (.int .i64 x) := (owns_cell hrow j (.int .i64 x) (by rw [List.getElem?_map, hxe]; rfl)).1
  have HROW := hide hrow
  have HX : Hid (s.past.getLast? = some x) := hide (by rw [getLast_at (by intro e; rw [e] at hjl; simp at hjl), ← unhide HM, hx]; rfl)
  have f2 := (unhide H1).fz 2
  have f4 := (unhide H1).fz 4
  have c2 := (unhide H1).c2
  have wj : IntKind.i64.wrap (((j + 1 : Nat) : Int) - 1) = (j : Int) := by rw [IntKind.wrap_i64]; omega
  have j0 : (0 : Int) ≤ (j : Int) := by omega
  have j1 : (j : Int) < ((j + 1 : Nat) : Int) := by omega
  have j2 : (j : Int) ≤ (pc : Int) := by omega
  clear hrow hx hxe h0
  have H2' := hide ((unhide H1).setAt x)
  obtain ⟨hsh, -⟩ := owns_short (v := .slice none 0 0) (owns_same (P := fun t => t ≠ 82) (unhide HROW) (Same.set (i := 2) (u := .int .i64 x) (unhide H1).box (fun q => q rfl)) (by decide)) (Nat.le_succ j)
  have H3 : Hid (SL B ((w1.setCell ⟨lb, 2, none⟩ (.int .i64 x)).setCell ⟨lb, 4, none⟩ (.slice (some ⟨g, 0, none⟩) j pc)) lb v1 v2 n f ⟨x, s.stops, s.past.dropLast⟩ hv (.slice (some ⟨g, 0, none⟩) j pc)) := hide ((unhide H2').setPast (p := s.past.dropLast) (by
    have e1 : s.past.dropLast.length = j := by rw [List.length_dropLast, ← unhide HM]; rfl
    rw [e1, List.dropLast_eq_take, ← unhide HM, List.map_take]
    exact hsh))
  clear hsh
  have hl1 : lb ≠ w.heap.size + 1 := by have h1 := (unhide H1).box; have h2 := (unhide A1).rb; intro e; rw [e, h2] at h1; simp at h1
  have hl2 : lb ≠ w.heap.size + 1 + 1 := by have h1 := (unhide H1).box; have h2 := (unhide A1).ob; intro e; rw [e, h2] at h1; simp at h1
  have SK : Hid (Same KindL w1 ((w1.setCell ⟨lb, 2, none⟩ (.int .i64 x)).setCell ⟨lb, 4, none⟩ (.slice (some ⟨g, 0, none⟩) j pc))) := hide ((Same.set (unhide H1).box KindL.no).trans (Same.set (unhide H2').box KindL.no))
  have A3 := hide ((unhide A1).same (unhide SK))
  obtain ⟨⟨r0, r1, r2, r3, r4, r5⟩, x0, x1, x2, x3, x4, x5⟩ := (unhide A1).rc
  obtain ⟨⟨o0, o1, o2, o3, o4, o5⟩, ofz⟩ := (unhide A1).oc
  have y1 := ofz 1
  have y2 := ofz 2
  have y3 := ofz 3
  have y4 := ofz 4
  have y5 := ofz 5
  clear ofz
  have hne : w.heap.size + 1 + 1 ≠ w.heap.size + 1 := by omega
  have hne' : w.heap.size + 1 ≠ w.heap.size + 1 + 1 := by omega
  have hl3 : w.heap.size + 1 ≠ lb := fun e => hl1 e.symm
  have hl4 : w.heap.size + 1 + 1 ≠ lb := fun e => hl2 e.symm
  go_wp2
  refine bodyPost_ret (v := .agg #[.int .i64 0, .int .i64 0, .int .i64 0, .string ⟨#[]⟩, .slice none 0 0, .slice none 0 0]) (by simp [results, Tryz.results38, go_sem, r0, r1, r2, r3, r4, r5]) rfl ?_
  exact sask_end (AskIs.undo (unhide HO) rfl (unhide HX)) rfl rfl rfl (unhide H3) (unhide A3) (frs_nil _ _) (VsAt.nil _ _) ((((unhide HB1).mono hB).setCell (p := ⟨lb, 2, none⟩) (unhide H).lbB _).setCell (p := ⟨lb, 4, none⟩) (unhide H).lbB _) ((Same.of_below (unhide HB1)).trans (unhide SK)) hB

set_option maxRecDepth 100000 in
set_option maxHeartbeats 4000000 in
theorem specAsk_vars (B lb lo : Nat) (v1 v2 hv pv : Value) (nf : Nat) (fns : Nat → ByteArray) (n : Nat) (f : Nat → M) (s : LS) (nn : Int) (name : ByteArray) (kd fn line : Int) (sn : ByteArray) (w : World) (h : SL B w lb v1 v2 n f s hv pv) (h2 : ∀ W, Below B w W → MomsAt lo W v2 n f) (hs : Sound nf fns n f) (hok : LsOk n s) (hp : s.past.length ≤ 10000) (hB : B ≤ w.heap.size) (hz : name.size ≤ maxLen) (hz2 : sn.size ≤ maxLen) (ho : OkAsk (⟨11, nn, name, ⟨kd, fn, line, sn⟩⟩ : Ak)) :
    Calls Tryz.prog 38 #[.pointer (some ⟨lb, 0, none⟩), .agg #[.int .i64 11, .int .i64 nn, .string name, .int .i64 kd, .int .i64 fn, .int .i64 line, .string sn]] w fun e w' => SAsk B lb v1 v2 n f s (⟨11, nn, name, ⟨kd, fn, line, sn⟩⟩ : Ak) w e w' := by
  have H := hide h
  have H2 := hide h2
  have HS := hide hs
  have HOK := hide hok
  have HP := hide hp
  clear hp
  have A0 := hide (AB.new w (⟨11, nn, name, ⟨kd, fn, line, sn⟩⟩ : Ak))
  have HBW := hide (((below_new w (.cells #[.int .i64 11, .int .i64 nn, .string name, .int .i64 kd, .int .i64 fn, .int .i64 line, .string sn] 47)).alloc (by simp) (.cells #[.int .i64 0, .int .i64 0, .int .i64 0, .string ⟨#[]⟩, .slice none 0 0, .slice none 0 0] 38)).alloc (by simp; omega) (.cells #[.int .i64 0, .int .i64 0, .int .i64 0, .string ⟨#[]⟩, .slice none 0 0, .slice none 0 0] 38))
  clear h h2 hs hok
  go_enter Tryz.func38, Tryz.ntmps38
  go_wp2_with fail
  refine (l5askOk_any 11 nn name kd fn line sn _ hz hz2).mono ?_
  rintro e w1 ⟨⟨b, rfl, hbb⟩, hbl⟩
  have A1 := hide ((unhide A0).go hbl)
  have HB1 := hide ((unhide HBW).trans (hbl.mono (unhide HBW).size))
  have H1 := hide ((unhide H).below (unhide HB1))
  obtain rfl : b = true := hbb.2 ho
  clear hbb hbl
  have HO := hide ho
  clear ho
  have a0 : w1.cell? ⟨w.heap.size, 0, none⟩ = some (.int .i64 11) := (unhide A1).a0
  go_wp2_with fail
  refine (l5vars_any B lb lo v1 v2 hv pv n f s w1 (unhide H1) (unhide H2 _ ((unhide HB1).mono hB)) (fun i hi => by have := ((unhide HS).2.1 i hi).2.1; omega) (unhide HOK).lo (unhide HOK).hi).mono ?_
  rintro e w2 ⟨⟨v, rfl, hvs⟩, hb2⟩
  have A2 := hide ((unhide A1).go hb2)
  have HL2 := hide ((unhide H1).below hb2)
  have HB2 := hide ((unhide HB1).trans (hb2.mono (unhide HB1).size))
  have HV := hide (hvs.low (unhide HB1).size)
  obtain ⟨va, vc, rfl⟩ := owns_slice hvs.row
  obtain ⟨nv, hnv⟩ : ∃ nv, nv = (varsOf n f s.at_).length := ⟨_, rfl⟩
  rw [← hnv] at HV ⊢
  clear hvs hb2 hnv
  obtain ⟨⟨r0, r1, r2, r3, r4, r5⟩, x0, x1, x2, x3, x4, x5⟩ := (unhide A2).rc
  obtain ⟨⟨o0, o1, o2, o3, o4, o5⟩, ofz⟩ := (unhide A2).oc
  have y1 := ofz 1
  have y2 := ofz 2
  have y3 := ofz 3
  have y4 := ofz 4
  have y5 := ofz 5
  clear ofz
  have hne : w.heap.size + 1 + 1 ≠ w.heap.size + 1 := by omega
  have hne' : w.heap.size + 1 ≠ w.heap.size + 1 + 1 := by omega
  go_wp2
  refine bodyPost_ret (v := .agg #[.int .i64 0, .int .i64 0, .int .i64 0, .string ⟨#[]⟩, .slice none 0 0, .slice va nv vc]) (by simp [results, Tryz.results38, go_sem, r0, r1, r2, r3, r4, r5]) rfl ?_
  exact sask_end (AskIs.vars (unhide HO) rfl) rfl rfl rfl ((unhide HL2).told (unhide A2) 5 (.slice va nv vc)) ((unhide A2).set5 (.slice va nv vc)) (frs_nil _ _) ((unhide HV).same (P := fun q => q ≠ 38) (Same.set (unhide A2).ob (fun q => q rfl)) (by decide)) (((unhide HB2).mono hB).setCell (p := ⟨w.heap.size + 1 + 1, 5, none⟩) (show B ≤ w.heap.size + 1 + 1 by omega) _) ((Same.of_below (unhide HB2)).far (by omega)) hB

set_option maxRecDepth 100000 in
set_option maxHeartbeats 4000000 in
theorem specAsk_to (B lb lo : Nat) (v1 v2 hv pv : Value) (nf : Nat) (fns : Nat → ByteArray) (n : Nat) (f : Nat → M) (s : LS) (nn : Int) (name : ByteArray) (kd fn line : Int) (sn : ByteArray) (w : World) (h : SL B w lb v1 v2 n f s hv pv) (h2 : ∀ W, Below B w W → MomsAt lo W v2 n f) (hs : Sound nf fns n f) (hok : LsOk n s) (hp : s.past.length ≤ 10000) (hB : B ≤ w.heap.size) (hz : name.size ≤ maxLen) (hz2 : sn.size ≤ maxLen) (ho : OkAsk (⟨9, nn, name, ⟨kd, fn, line, sn⟩⟩ : Ak)) :
    Calls Tryz.prog 38 #[.pointer (some ⟨lb, 0, none⟩), .agg #[.int .i64 9, .int .i64 nn, .string name, .int .i64 kd, .int .i64 fn, .int .i64 line, .string sn]] w fun e w' => SAsk B lb v1 v2 n f s (⟨9, nn, name, ⟨kd, fn, line, sn⟩⟩ : Ak) w e w' := by
  have H := hide h
  have H2 := hide h2
  have HS := hide hs
  have HOK := hide hok
  have HP := hide hp
  clear hp
  have A0 := hide (AB.new w (⟨9, nn, name, ⟨kd, fn, line, sn⟩⟩ : Ak))
  have HBW := hide (((below_new w (.cells #[.int .i64 9, .int .i64 nn, .string name, .int .i64 kd, .int .i64 fn, .int .i64 line, .string sn] 47)).alloc (by simp) (.cells #[.int .i64 0, .int .i64 0, .int .i64 0, .string ⟨#[]⟩, .slice none 0 0, .slice none 0 0] 38)).alloc (by simp; omega) (.cells #[.int .i64 0, .int .i64 0, .int .i64 0, .string ⟨#[]⟩, .slice none 0 0, .slice none 0 0] 38))
  clear h h2 hs hok
  go_enter Tryz.func38, Tryz.ntmps38
  go_wp2_with fail
  refine (l5askOk_any 9 nn name kd fn line sn _ hz hz2).mono ?_
  rintro e w1 ⟨⟨b, rfl, hbb⟩, hbl⟩
  have A1 := hide ((unhide A0).go hbl)
  have HB1 := hide ((unhide HBW).trans (hbl.mono (unhide HBW).size))
  have H1 := hide ((unhide H).below (unhide HB1))
  obtain rfl : b = true := hbb.2 ho
  clear hbb hbl
  have HO := hide ho
  clear ho
  have a0 : w1.cell? ⟨w.heap.size, 0, none⟩ = some (.int .i64 9) := (unhide A1).a0
  have a1 : w1.cell? ⟨w.heap.size, 1, none⟩ = some (.int .i64 nn) := (unhide A1).a1
  have c1 := (unhide H1).c1
  obtain ⟨a2, cap2, e2, hn2, -⟩ := unhide H2 _ ((unhide HB1).mono hB)
  subst e2
  unfold maxLen at hn2
  by_cases hgt : (n : Int) < nn
  · have HGT := hide hgt
    go_upto_region 42 with fail
    go_quiet (fail)
    generalize hW2 : w1.drewN _ = w2
    have hb2 : Below w1.heap.size w1 w2 := by rw [← hW2]; exact below_drewN' _ _
    have A2 := hide ((unhide A1).go hb2)
    have HL2 := hide ((unhide H1).below hb2)
    have HB2 := hide ((unhide HB1).trans (hb2.mono (unhide HB1).size))
    clear hb2 hW2
    obtain ⟨⟨r0, r1, r2, r3, r4, r5⟩, x0, x1, x2, x3, x4, x5⟩ := (unhide A2).rc
    obtain ⟨⟨o0, o1, o2, o3, o4, o5⟩, ofz⟩ := (unhide A2).oc
    have y1 := ofz 1
    have y2 := ofz 2
    have y3 := ofz 3
    have y4 := ofz 4
    have y5 := ofz 5
    clear ofz
    have hne : w.heap.size + 1 + 1 ≠ w.heap.size + 1 := by omega
    have hne' : w.heap.size + 1 ≠ w.heap.size + 1 + 1 := by omega
    go_wp2
    refine bodyPost_ret (v := .agg #[.int .i64 0, .int .i64 4, .int .i64 0, .string ⟨#[]⟩, .slice none 0 0, .slice none 0 0]) (by simp [results, Tryz.results38, go_sem, r0, r1, r2, r3, r4, r5]) rfl ?_
    exact sask_end (AskIs.to4 (unhide HO) rfl (unhide HGT)) rfl rfl rfl ((unhide HL2).told (unhide A2) 1 (.int .i64 4)) ((unhide A2).set1 4) (frs_nil _ _) (VsAt.nil _ _) (((unhide HB2).mono hB).setCell (p := ⟨w.heap.size + 1 + 1, 1, none⟩) (show B ≤ w.heap.size + 1 + 1 by omega) _) ((Same.of_below (unhide HB2)).far (by omega)) hB
  have hgt' : ¬ (n : Int) < nn := hgt
  go_upto_region 42 with fail
  go_quiet (fail)
  generalize hW2 : w1.drewN _ = w2
  have hb2 : Below w1.heap.size w1 w2 := by rw [← hW2]; exact below_drewN' _ _
  have A2 := hide ((unhide A1).go hb2)
  have HL2 := hide ((unhide H1).below hb2)
  have HB2 := hide ((unhide HB1).trans (hb2.mono (unhide HB1).size))
  clear hb2 hW2 a0 a1 c1
  have a1 : w2.cell? ⟨w.heap.size, 1, none⟩ = some (.int .i64 nn) := (unhide A2).a1
  go_wp2_with fail
  refine (l5move_any B lb v1 _ hv pv n f s nn w2 (unhide HL2) (by have := unhide HP; omega) (Nat.le_trans hB (unhide HB2).size)).mono ?_
  rintro e w3 ⟨rfl, ⟨pv', hl3⟩, hb3, hk3⟩
  have A3 := hide ((unhide A2).same hk3)
  have HL3 := hide hl3
  have HB3 := hide (((unhide HB2).mono hB).trans hb3)
  have HK3 := hide ((Same.of_below (P := KindL) (unhide HB2)).trans hk3)
  clear hl3 hb3 hk3 a1
  obtain ⟨⟨r0, r1, r2, r3, r4, r5⟩, x0, x1, x2, x3, x4, x5⟩ := (unhide A3).rc
  obtain ⟨⟨o0, o1, o2, o3, o4, o5⟩, ofz⟩ := (unhide A3).oc
  have y1 := ofz 1
  have y2 := ofz 2
  have y3 := ofz 3
  have y4 := ofz 4
  have y5 := ofz 5
  clear ofz
  have hne : w.heap.size + 1 + 1 ≠ w.heap.size + 1 := by omega
  have hne' : w.heap.size + 1 ≠ w.heap.size + 1 + 1 := by omega
  go_wp2
  refine bodyPost_ret (v := .agg #[.int .i64 0, .int .i64 0, .int .i64 0, .string ⟨#[]⟩, .slice none 0 0, .slice none 0 0]) (by simp [results, Tryz.results38, go_sem, r0, r1, r2, r3, r4, r5]) rfl ?_
  exact sask_end (AskIs.move (z := nn) (unhide HO) (.inr ⟨rfl, by show nn ≤ (n : Int); omega⟩) (by unfold MoveTo; rw [if_neg (by show ¬ (9 : Int) = 3; omega), if_neg (by show ¬ (9 : Int) = 4; omega), if_neg (by show ¬ (9 : Int) = 5; omega), if_neg (by show ¬ (9 : Int) = 6; omega), if_neg (by show ¬ (9 : Int) = 7; omega)])) rfl rfl rfl (unhide HL3) (unhide A3) (frs_nil _ _) (VsAt.nil _ _) (unhide HB3) (unhide HK3) hB
end Go.Proofs.YtmnmeaeicjhkhaaGreatDoor

/-
  Spec's ask: the moves.
-/
namespace Go.Proofs.YtmnmeaeicjhkhaaGreatDoor
open Go.RowKit

set_option maxRecDepth 100000 in
set_option maxHeartbeats 4000000 in
theorem specAsk_go (B lb lo : Nat) (v1 v2 hv pv : Value) (nf : Nat) (fns : Nat → ByteArray) (n : Nat) (f : Nat → M) (s : LS) (nn : Int) (name : ByteArray) (kd fn line : Int) (sn : ByteArray) (w : World) (h : SL B w lb v1 v2 n f s hv pv) (h2 : ∀ W, Below B w W → MomsAt lo W v2 n f) (hs : Sound nf fns n f) (hok : LsOk n s) (hp : s.past.length ≤ 10000) (hB : B ≤ w.heap.size) (hz : name.size ≤ maxLen) (hz2 : sn.size ≤ maxLen) (ho : OkAsk (⟨3, nn, name, ⟨kd, fn, line, sn⟩⟩ : Ak)) :
    Calls Tryz.prog 38 #[.pointer (some ⟨lb, 0, none⟩), .agg #[.int .i64 3, .int .i64 nn, .string name, .int .i64 kd, .int .i64 fn, .int .i64 line, .string sn]] w fun e w' => SAsk B lb v1 v2 n f s (⟨3, nn, name, ⟨kd, fn, line, sn⟩⟩ : Ak) w e w' := by
  have H := hide h
  have H2 := hide h2
  have HS := hide hs
  have HOK := hide hok
  have HP := hide hp
  clear hp
  have A0 := hide (AB.new w (⟨3, nn, name, ⟨kd, fn, line, sn⟩⟩ : Ak))
  have HBW := hide (((below_new w (.cells #[.int .i64 3, .int .i64 nn, .string name, .int .i64 kd, .int .i64 fn, .int .i64 line, .string sn] 47)).alloc (by simp) (.cells #[.int .i64 0, .int .i64 0, .int .i64 0, .string ⟨#[]⟩, .slice none 0 0, .slice none 0 0] 38)).alloc (by simp; omega) (.cells #[.int .i64 0, .int .i64 0, .int .i64 0, .string ⟨#[]⟩, .slice none 0 0, .slice none 0 0] 38))
  clear h h2 hs hok
  go_enter Tryz.func38, Tryz.ntmps38
  go_wp2_with fail
  refine (l5askOk_any 3 nn name kd fn line sn _ hz hz2).mono ?_
  rintro e w1 ⟨⟨b, rfl, hbb⟩, hbl⟩
  have A1 := hide ((unhide A0).go hbl)
  have HB1 := hide ((unhide HBW).trans (hbl.mono (unhide HBW).size))
  have H1 := hide ((unhide H).below (unhide HB1))
  obtain rfl : b = true := hbb.2 ho
  clear hbb hbl
  have HO := hide ho
  clear ho
  have a0 : w1.cell? ⟨w.heap.size, 0, none⟩ = some (.int .i64 3) := (unhide A1).a0
  obtain ⟨a2, cap2, e2, hn2, -⟩ := unhide H2 _ ((unhide HB1).mono hB)
  subst e2
  clear hn2
  obtain ⟨ha, hc, hve⟩ := (unhide H1).hslice
  obtain ⟨ns, hns⟩ : ∃ ns, ns = s.stops.length := ⟨_, rfl⟩
  rw [← hns] at hve
  subst hve
  have HNS := hide hns
  have hn3 : n ≤ 3000 := (unhide HS).1.2.2.1
  have hk0 := (unhide HOK).lo
  have hk1 := (unhide HOK).hi
  obtain ⟨k, hk⟩ : ∃ k, k = s.at_ := ⟨_, rfl⟩
  rw [← hk] at hk0 hk1
  have HK := hide hk
  clear hk hns
  have HSS : Hid (∀ W, Below w1.heap.size w1 W → W.cell? ⟨lb, 3, none⟩ = some (.slice ha ns hc) ∧ W.cell? ⟨lb, 1, none⟩ = some (.slice a2 n cap2)) := hide (fun W hb => ⟨cell_below hb (unhide H1).c3, cell_below hb (unhide H1).c1⟩)
  have HC2 : Hid (∀ W, Below w1.heap.size w1 W → W.cell? ⟨lb, 2, none⟩ = some (.int .i64 k)) := hide (fun W hb => by rw [unhide HK]; exact cell_below hb (unhide H1).c2)
  go_upto_region 25 with fail
  refine wp_region_held_drew (S := fun W => W.cell? ⟨lb, 3, none⟩ = some (.slice ha ns hc) ∧ W.cell? ⟨lb, 1, none⟩ = some (.slice a2 n cap2)) (by kernel_rfl) (unhide HSS _ (Below.refl _ _).drew) (fun hHeld => ?_)
  refine takeAt 0 (some 92) (v := ?v0a) (by decide) rfl (by kernel_rfl) (by kernel_rfl) (by kernel_rfl) (fun _ _ _ h => h) (by rfl) ?hy0a hHeld ?r0a
  case hy0a => (intro wx hSw; obtain ⟨s0, s1⟩ := hSw; go_simp; with_reducible rfl)
  simp only [Act.put, List.setIfInBounds_toArray, List.set_cons_zero, List.set_cons_succ]
  refine takeAt 1 (some 93) (v := ?v1a) (by decide) rfl (by kernel_rfl) (by kernel_rfl) (by kernel_rfl) (fun _ _ _ h => h) (by rfl) ?hy1a hHeld ?r1a
  case hy1a => (intro wx hSw; obtain ⟨s0, s1⟩ := hSw; go_simp; with_reducible rfl)
  simp only [Act.put, List.setIfInBounds_toArray, List.set_cons_zero, List.set_cons_succ]
  refine takeAt 2 (some 94) (v := ?v2a) (by decide) rfl (by kernel_rfl) (by kernel_rfl) (by kernel_rfl) (fun _ _ _ h => h) (by rfl) ?hy2a hHeld ?r2a
  case hy2a => (intro wx hSw; obtain ⟨s0, s1⟩ := hSw; go_simp; with_reducible rfl)
  simp only [Act.put, List.setIfInBounds_toArray, List.set_cons_zero, List.set_cons_succ]
  refine takeAt 3 (some 95) (v := ?v3a) (by decide) rfl (by kernel_rfl) (by kernel_rfl) (by kernel_rfl) (fun _ _ _ h => h) (by rfl) ?hy3a hHeld ?r3a
  case hy3a => (intro wx hSw; obtain ⟨s0, s1⟩ := hSw; go_simp; with_reducible rfl)
  simp only [Act.put, List.setIfInBounds_toArray, List.set_cons_zero, List.set_cons_succ]
  refine takeAt 4 (some 96) (v := ?v4a) (by decide) rfl (by kernel_rfl) (by kernel_rfl) (by kernel_rfl) (fun _ _ _ h => h) (by rfl) ?hy4a hHeld ?r4a
  case hy4a => (intro wx hSw; obtain ⟨s0, s1⟩ := hSw; go_simp; with_reducible rfl)
  simp only [Act.put, List.setIfInBounds_toArray, List.set_cons_zero, List.set_cons_succ]
  refine takeAt 5 (some 97) (v := ?v5a) (by decide) rfl (by kernel_rfl) (by kernel_rfl) (by kernel_rfl) (fun _ _ _ h => h) (by rfl) ?hy5a hHeld ?r5a
  case hy5a => (intro wx hSw; obtain ⟨s0, s1⟩ := hSw; go_simp; with_reducible rfl)
  simp only [Act.put, List.setIfInBounds_toArray, List.set_cons_zero, List.set_cons_succ]
  refine takeAt 6 (some 98) (v := ?v6a) (by decide) rfl (by kernel_rfl) (by kernel_rfl) (by kernel_rfl) (fun _ _ _ h => h) (by rfl) ?hy6a hHeld ?r6a
  case hy6a => (intro wx hSw; obtain ⟨s0, s1⟩ := hSw; go_simp; with_reducible rfl)
  simp only [Act.put, List.setIfInBounds_toArray, List.set_cons_zero, List.set_cons_succ]
  refine takeAt 7 (some 99) (v := ?v7a) (by decide) rfl (by kernel_rfl) (by kernel_rfl) (by kernel_rfl) (fun _ _ _ h => h) (by rfl) ?hy7a hHeld ?r7a
  case hy7a => (intro wx hSw; obtain ⟨s0, s1⟩ := hSw; go_simp; with_reducible rfl)
  simp only [Act.put, List.setIfInBounds_toArray, List.set_cons_zero, List.set_cons_succ]
  refine takeAt 8 (some 100) (v := ?v8a) (by decide) rfl (by kernel_rfl) (by kernel_rfl) (by kernel_rfl) (fun _ _ _ h => h) (by rfl) ?hy8a hHeld ?r8a
  case hy8a => (intro wx hSw; obtain ⟨s0, s1⟩ := hSw; go_simp; with_reducible rfl)
  simp only [Act.put, List.setIfInBounds_toArray, List.set_cons_zero, List.set_cons_succ]
  refine takeAt 9 (some 101) (v := ?v9a) (by decide) rfl (by kernel_rfl) (by kernel_rfl) (by kernel_rfl) (fun _ _ _ h => h) (by rfl) ?hy9a hHeld ?r9a
  case hy9a => (intro wx hSw; obtain ⟨s0, s1⟩ := hSw; go_simp; with_reducible rfl)
  simp only [Act.put, List.setIfInBounds_toArray, List.set_cons_zero, List.set_cons_succ]
  refine takeAt 10 (some 102) (v := ?v10a) (by decide) rfl (by kernel_rfl) (by kernel_rfl) (by kernel_rfl) (fun _ _ _ h => h) (by rfl) ?hy10a hHeld ?r10a
  case hy10a => (intro wx hSw; obtain ⟨s0, s1⟩ := hSw; go_simp; with_reducible rfl)
  simp only [Act.put, List.setIfInBounds_toArray, List.set_cons_zero, List.set_cons_succ]
  refine takeAt 11 (some 103) (v := ?v11a) (by decide) rfl (by kernel_rfl) (by kernel_rfl) (by kernel_rfl) (fun _ _ _ h => h) (by rfl) ?hy11a hHeld ?r11a
  case hy11a => (intro wx hSw; obtain ⟨s0, s1⟩ := hSw; go_simp; with_reducible rfl)
  simp only [Act.put, List.setIfInBounds_toArray, List.set_cons_zero, List.set_cons_succ]
  refine takeAt 12 (some 104) (v := ?v12a) (by decide) rfl (by kernel_rfl) (by kernel_rfl) (by kernel_rfl) (fun _ _ _ h => h) (by rfl) ?hy12a hHeld ?r12a
  case hy12a => (intro wx hSw; obtain ⟨s0, s1⟩ := hSw; go_simp; with_reducible rfl)
  simp only [Act.put, List.setIfInBounds_toArray, List.set_cons_zero, List.set_cons_succ]
  refine takeAt 13 (some 105) (v := ?v13a) (by decide) rfl (by kernel_rfl) (by kernel_rfl) (by kernel_rfl) (fun _ _ _ h => h) (by rfl) ?hy13a hHeld ?r13a
  case hy13a => (intro wx hSw; obtain ⟨s0, s1⟩ := hSw; go_simp; with_reducible rfl)
  simp only [Act.put, List.setIfInBounds_toArray, List.set_cons_zero, List.set_cons_succ]
  refine wpAnyH_ready (rs := [14]) (by kernel_rfl) (by simp) ?_
  refine AllReadyH.cons rfl (fun KK hK => ?_) AllReadyH.nil
  have q2 := unhide HC2 _ (Below.refl w1.heap.size w1).drew
  go_simp
  refine hK.out _ _ (unhide HSS _ (Below.refl _ _).drew) (fun hHeld => ?_)
  clear hK KK q2
  try simp only [Act.put, List.setIfInBounds_toArray, List.getElem_toArray, List.getElem_cons_succ, List.getElem_cons_zero, List.set_cons_zero, List.set_cons_succ]
  refine wpAnyH_ready (rs := [15]) (by kernel_rfl) (by simp) ?_
  refine AllReadyH.cons rfl (fun KK hK => ?_) AllReadyH.nil
  have hdr := (Below.refl w1.heap.size w1).drew
  go_simp
  refine (l3next_any B _ n f ns s.ss k _ (by have hh := (unhide H1).hits; rw [← unhide HNS] at hh; exact hh.below hdr) (by omega) (by rw [unhide HNS]; exact (unhide HOK).st) hk0 hk1).mono ?_
  rintro e w2 ⟨⟨z, rfl, hz⟩, hw2⟩
  have hb2 : Below w1.heap.size w1 w2 := by rw [hw2]; exact hdr
  have HZ := hide hz
  clear hz hw2
  have H2b := hide ((unhide H1).below hb2)
  have A2 := hide ((unhide A1).go hb2)
  have HB2 := hide ((unhide HB1).trans (hb2.mono (unhide HB1).size))
  refine hK.out _ _ (unhide HSS _ hb2) (fun hHeld => ?_)
  clear hK KK hb2 hdr
  try simp only [Act.put, List.setIfInBounds_toArray, List.getElem_toArray, List.getElem_cons_succ, List.getElem_cons_zero, List.set_cons_zero, List.set_cons_succ]
  refine wpAnyH_ready (rs := [16]) (by kernel_rfl) (by simp) ?_
  refine AllReadyH.cons rfl (fun KK hK => ?_) AllReadyH.nil
  go_simp
  refine (l5move_any B lb v1 _ _ pv n f s z w2 (unhide H2b) (by have := unhide HP; omega) (Nat.le_trans hB (unhide HB2).size)).mono ?_
  rintro e w3 ⟨rfl, ⟨pv', hl3⟩, hb3, hk3⟩
  have A3 := hide ((unhide A2).same hk3)
  have HL3 := hide hl3
  have HB3 := hide (((unhide HB2).mono hB).trans hb3)
  have HK3 := hide ((Same.of_below (P := KindL) (unhide HB2)).trans hk3)
  clear hb3 hk3
  refine hK.out _ _ ⟨hl3.c3, hl3.c1⟩ (fun hHeld => ?_)
  clear hK KK hHeld hl3
  try simp only [Act.put, List.setIfInBounds_toArray, List.getElem_toArray, List.getElem_cons_succ, List.getElem_cons_zero, List.set_cons_zero, List.set_cons_succ]
  refine wpAnyH_done (by kernel_rfl) ?_ _
  obtain ⟨⟨r0, r1, r2, r3, r4, r5⟩, x0, x1, x2, x3, x4, x5⟩ := (unhide A3).rc
  obtain ⟨⟨o0, o1, o2, o3, o4, o5⟩, ofz⟩ := (unhide A3).oc
  have y1 := ofz 1
  have y2 := ofz 2
  have y3 := ofz 3
  have y4 := ofz 4
  have y5 := ofz 5
  clear ofz
  have hne : w.heap.size + 1 + 1 ≠ w.heap.size + 1 := by omega
  have hne' : w.heap.size + 1 ≠ w.heap.size + 1 + 1 := by omega
  clear a0
  go_wp2
  refine bodyPost_ret (v := .agg #[.int .i64 0, .int .i64 0, .int .i64 0, .string ⟨#[]⟩, .slice none 0 0, .slice none 0 0]) (by simp [results, Tryz.results38, go_sem, r0, r1, r2, r3, r4, r5]) rfl ?_
  exact sask_end (AskIs.move (z := z) (unhide HO) (.inl ⟨by show (3 : Int) ≤ 3; omega, by show (3 : Int) ≤ 7; omega⟩) (by unfold MoveTo; rw [if_pos rfl]; have hz := unhide HZ; rw [unhide HNS, unhide HK] at hz; exact hz)) rfl rfl rfl (unhide HL3) (unhide A3) (frs_nil _ _) (VsAt.nil _ _) (unhide HB3) (unhide HK3) hB

set_option maxRecDepth 100000 in
set_option maxHeartbeats 4000000 in
theorem specAsk_back (B lb lo : Nat) (v1 v2 hv pv : Value) (nf : Nat) (fns : Nat → ByteArray) (n : Nat) (f : Nat → M) (s : LS) (nn : Int) (name : ByteArray) (kd fn line : Int) (sn : ByteArray) (w : World) (h : SL B w lb v1 v2 n f s hv pv) (h2 : ∀ W, Below B w W → MomsAt lo W v2 n f) (hs : Sound nf fns n f) (hok : LsOk n s) (hp : s.past.length ≤ 10000) (hB : B ≤ w.heap.size) (hz : name.size ≤ maxLen) (hz2 : sn.size ≤ maxLen) (ho : OkAsk (⟨4, nn, name, ⟨kd, fn, line, sn⟩⟩ : Ak)) :
    Calls Tryz.prog 38 #[.pointer (some ⟨lb, 0, none⟩), .agg #[.int .i64 4, .int .i64 nn, .string name, .int .i64 kd, .int .i64 fn, .int .i64 line, .string sn]] w fun e w' => SAsk B lb v1 v2 n f s (⟨4, nn, name, ⟨kd, fn, line, sn⟩⟩ : Ak) w e w' := by
  have H := hide h
  have H2 := hide h2
  have HS := hide hs
  have HOK := hide hok
  have HP := hide hp
  clear hp
  have A0 := hide (AB.new w (⟨4, nn, name, ⟨kd, fn, line, sn⟩⟩ : Ak))
  have HBW := hide (((below_new w (.cells #[.int .i64 4, .int .i64 nn, .string name, .int .i64 kd, .int .i64 fn, .int .i64 line, .string sn] 47)).alloc (by simp) (.cells #[.int .i64 0, .int .i64 0, .int .i64 0, .string ⟨#[]⟩, .slice none 0 0, .slice none 0 0] 38)).alloc (by simp; omega) (.cells #[.int .i64 0, .int .i64 0, .int .i64 0, .string ⟨#[]⟩, .slice none 0 0, .slice none 0 0] 38))
  clear h h2 hs hok
  go_enter Tryz.func38, Tryz.ntmps38
  go_wp2_with fail
  refine (l5askOk_any 4 nn name kd fn line sn _ hz hz2).mono ?_
  rintro e w1 ⟨⟨b, rfl, hbb⟩, hbl⟩
  have A1 := hide ((unhide A0).go hbl)
  have HB1 := hide ((unhide HBW).trans (hbl.mono (unhide HBW).size))
  have H1 := hide ((unhide H).below (unhide HB1))
  obtain rfl : b = true := hbb.2 ho
  clear hbb hbl
  have HO := hide ho
  clear ho
  have a0 : w1.cell? ⟨w.heap.size, 0, none⟩ = some (.int .i64 4) := (unhide A1).a0
  obtain ⟨a2, cap2, e2, hn2, -⟩ := unhide H2 _ ((unhide HB1).mono hB)
  subst e2
  clear hn2
  obtain ⟨ha, hc, hve⟩ := (unhide H1).hslice
  obtain ⟨ns, hns⟩ : ∃ ns, ns = s.stops.length := ⟨_, rfl⟩
  rw [← hns] at hve
  subst hve
  have HNS := hide hns
  have hn3 : n ≤ 3000 := (unhide HS).1.2.2.1
  have hk0 := (unhide HOK).lo
  have hk1 := (unhide HOK).hi
  obtain ⟨k, hk⟩ : ∃ k, k = s.at_ := ⟨_, rfl⟩
  rw [← hk] at hk0 hk1
  have HK := hide hk
  clear hk hns
  have HSS : Hid (∀ W, Below w1.heap.size w1 W → W.cell? ⟨lb, 3, none⟩ = some (.slice ha ns hc)) := hide (fun W hb => cell_below hb (unhide H1).c3)
  have HC2 : Hid (∀ W, Below w1.heap.size w1 W → W.cell? ⟨lb, 2, none⟩ = some (.int .i64 k)) := hide (fun W hb => by rw [unhide HK]; exact cell_below hb (unhide H1).c2)
  go_upto_region 27 with fail
  refine wp_region_held_drew (S := fun W => W.cell? ⟨lb, 3, none⟩ = some (.slice ha ns hc)) (by kernel_rfl) (unhide HSS _ (Below.refl _ _).drew) (fun hHeld => ?_)
  refine takeAt 0 (some 111) (v := ?v0a) (by decide) rfl (by kernel_rfl) (by kernel_rfl) (by kernel_rfl) (fun _ _ _ h => h) (by rfl) ?hy0a hHeld ?r0a
  case hy0a => (intro wx hSw; have s0 := hSw; go_simp; with_reducible rfl)
  simp only [Act.put, List.setIfInBounds_toArray, List.set_cons_zero, List.set_cons_succ]
  refine takeAt 1 (some 112) (v := ?v1a) (by decide) rfl (by kernel_rfl) (by kernel_rfl) (by kernel_rfl) (fun _ _ _ h => h) (by rfl) ?hy1a hHeld ?r1a
  case hy1a => (intro wx hSw; have s0 := hSw; go_simp; with_reducible rfl)
  simp only [Act.put, List.setIfInBounds_toArray, List.set_cons_zero, List.set_cons_succ]
  refine takeAt 2 (some 113) (v := ?v2a) (by decide) rfl (by kernel_rfl) (by kernel_rfl) (by kernel_rfl) (fun _ _ _ h => h) (by rfl) ?hy2a hHeld ?r2a
  case hy2a => (intro wx hSw; have s0 := hSw; go_simp; with_reducible rfl)
  simp only [Act.put, List.setIfInBounds_toArray, List.set_cons_zero, List.set_cons_succ]
  refine takeAt 3 (some 114) (v := ?v3a) (by decide) rfl (by kernel_rfl) (by kernel_rfl) (by kernel_rfl) (fun _ _ _ h => h) (by rfl) ?hy3a hHeld ?r3a
  case hy3a => (intro wx hSw; have s0 := hSw; go_simp; with_reducible rfl)
  simp only [Act.put, List.setIfInBounds_toArray, List.set_cons_zero, List.set_cons_succ]
  refine takeAt 4 (some 115) (v := ?v4a) (by decide) rfl (by kernel_rfl) (by kernel_rfl) (by kernel_rfl) (fun _ _ _ h => h) (by rfl) ?hy4a hHeld ?r4a
  case hy4a => (intro wx hSw; have s0 := hSw; go_simp; with_reducible rfl)
  simp only [Act.put, List.setIfInBounds_toArray, List.set_cons_zero, List.set_cons_succ]
  refine takeAt 5 (some 116) (v := ?v5a) (by decide) rfl (by kernel_rfl) (by kernel_rfl) (by kernel_rfl) (fun _ _ _ h => h) (by rfl) ?hy5a hHeld ?r5a
  case hy5a => (intro wx hSw; have s0 := hSw; go_simp; with_reducible rfl)
  simp only [Act.put, List.setIfInBounds_toArray, List.set_cons_zero, List.set_cons_succ]
  refine takeAt 6 (some 117) (v := ?v6a) (by decide) rfl (by kernel_rfl) (by kernel_rfl) (by kernel_rfl) (fun _ _ _ h => h) (by rfl) ?hy6a hHeld ?r6a
  case hy6a => (intro wx hSw; have s0 := hSw; go_simp; with_reducible rfl)
  simp only [Act.put, List.setIfInBounds_toArray, List.set_cons_zero, List.set_cons_succ]
  refine takeAt 7 (some 118) (v := ?v7a) (by decide) rfl (by kernel_rfl) (by kernel_rfl) (by kernel_rfl) (fun _ _ _ h => h) (by rfl) ?hy7a hHeld ?r7a
  case hy7a => (intro wx hSw; have s0 := hSw; go_simp; with_reducible rfl)
  simp only [Act.put, List.setIfInBounds_toArray, List.set_cons_zero, List.set_cons_succ]
  refine wpAnyH_ready (rs := [8]) (by kernel_rfl) (by simp) ?_
  refine AllReadyH.cons rfl (fun KK hK => ?_) AllReadyH.nil
  have q2 := unhide HC2 _ (Below.refl w1.heap.size w1).drew
  go_simp
  refine hK.out _ _ (unhide HSS _ (Below.refl _ _).drew) (fun hHeld => ?_)
  clear hK KK q2
  try simp only [Act.put, List.setIfInBounds_toArray, List.getElem_toArray, List.getElem_cons_succ, List.getElem_cons_zero, List.set_cons_zero, List.set_cons_succ]
  refine wpAnyH_ready (rs := [9]) (by kernel_rfl) (by simp) ?_
  refine AllReadyH.cons rfl (fun KK hK => ?_) AllReadyH.nil
  have hdr := (Below.refl w1.heap.size w1).drew
  go_simp
  refine (l3last_any B _ n f ns s.ss k _ (by have hh := (unhide H1).hits; rw [← unhide HNS] at hh; exact hh.below hdr) (by omega) (by rw [unhide HNS]; exact (unhide HOK).st) hk0 hk1).mono ?_
  rintro e w2 ⟨⟨z, rfl, hz⟩, hw2⟩
  have hb2 : Below w1.heap.size w1 w2 := by rw [hw2]; exact hdr
  have HZ := hide hz
  clear hz hw2
  have H2b := hide ((unhide H1).below hb2)
  have A2 := hide ((unhide A1).go hb2)
  have HB2 := hide ((unhide HB1).trans (hb2.mono (unhide HB1).size))
  refine hK.out _ _ (unhide HSS _ hb2) (fun hHeld => ?_)
  clear hK KK hb2 hdr
  try simp only [Act.put, List.setIfInBounds_toArray, List.getElem_toArray, List.getElem_cons_succ, List.getElem_cons_zero, List.set_cons_zero, List.set_cons_succ]
  refine wpAnyH_ready (rs := [10]) (by kernel_rfl) (by simp) ?_
  refine AllReadyH.cons rfl (fun KK hK => ?_) AllReadyH.nil
  go_simp
  refine (l5move_any B lb v1 _ _ pv n f s z w2 (unhide H2b) (by have := unhide HP; omega) (Nat.le_trans hB (unhide HB2).size)).mono ?_
  rintro e w3 ⟨rfl, ⟨pv', hl3⟩, hb3, hk3⟩
  have A3 := hide ((unhide A2).same hk3)
  have HL3 := hide hl3
  have HB3 := hide (((unhide HB2).mono hB).trans hb3)
  have HK3 := hide ((Same.of_below (P := KindL) (unhide HB2)).trans hk3)
  clear hb3 hk3
  refine hK.out _ _ hl3.c3 (fun hHeld => ?_)
  clear hK KK hHeld hl3
  try simp only [Act.put, List.setIfInBounds_toArray, List.getElem_toArray, List.getElem_cons_succ, List.getElem_cons_zero, List.set_cons_zero, List.set_cons_succ]
  refine wpAnyH_done (by kernel_rfl) ?_ _
  obtain ⟨⟨r0, r1, r2, r3, r4, r5⟩, x0, x1, x2, x3, x4, x5⟩ := (unhide A3).rc
  obtain ⟨⟨o0, o1, o2, o3, o4, o5⟩, ofz⟩ := (unhide A3).oc
  have y1 := ofz 1
  have y2 := ofz 2
  have y3 := ofz 3
  have y4 := ofz 4
  have y5 := ofz 5
  clear ofz
  have hne : w.heap.size + 1 + 1 ≠ w.heap.size + 1 := by omega
  have hne' : w.heap.size + 1 ≠ w.heap.size + 1 + 1 := by omega
  clear a0
  go_wp2
  refine bodyPost_ret (v := .agg #[.int .i64 0, .int .i64 0, .int .i64 0, .string ⟨#[]⟩, .slice none 0 0, .slice none 0 0]) (by simp [results, Tryz.results38, go_sem, r0, r1, r2, r3, r4, r5]) rfl ?_
  exact sask_end (AskIs.move (z := z) (unhide HO) (.inl ⟨by show (3 : Int) ≤ 4; omega, by show (4 : Int) ≤ 7; omega⟩) (by unfold MoveTo; rw [if_neg (by show ¬ (4 : Int) = 3; omega)]; rw [if_pos rfl]; have hz := unhide HZ; rw [unhide HNS, unhide HK] at hz; exact hz)) rfl rfl rfl (unhide HL3) (unhide A3) (frs_nil _ _) (VsAt.nil _ _) (unhide HB3) (unhide HK3) hB

set_option maxRecDepth 100000 in
set_option maxHeartbeats 4000000 in
theorem specAsk_into (B lb lo : Nat) (v1 v2 hv pv : Value) (nf : Nat) (fns : Nat → ByteArray) (n : Nat) (f : Nat → M) (s : LS) (nn : Int) (name : ByteArray) (kd fn line : Int) (sn : ByteArray) (w : World) (h : SL B w lb v1 v2 n f s hv pv) (h2 : ∀ W, Below B w W → MomsAt lo W v2 n f) (hs : Sound nf fns n f) (hok : LsOk n s) (hp : s.past.length ≤ 10000) (hB : B ≤ w.heap.size) (hz : name.size ≤ maxLen) (hz2 : sn.size ≤ maxLen) (ho : OkAsk (⟨5, nn, name, ⟨kd, fn, line, sn⟩⟩ : Ak)) :
    Calls Tryz.prog 38 #[.pointer (some ⟨lb, 0, none⟩), .agg #[.int .i64 5, .int .i64 nn, .string name, .int .i64 kd, .int .i64 fn, .int .i64 line, .string sn]] w fun e w' => SAsk B lb v1 v2 n f s (⟨5, nn, name, ⟨kd, fn, line, sn⟩⟩ : Ak) w e w' := by
  have H := hide h
  have H2 := hide h2
  have HS := hide hs
  have HOK := hide hok
  have HP := hide hp
  clear hp
  have A0 := hide (AB.new w (⟨5, nn, name, ⟨kd, fn, line, sn⟩⟩ : Ak))
  have HBW := hide (((below_new w (.cells #[.int .i64 5, .int .i64 nn, .string name, .int .i64 kd, .int .i64 fn, .int .i64 line, .string sn] 47)).alloc (by simp) (.cells #[.int .i64 0, .int .i64 0, .int .i64 0, .string ⟨#[]⟩, .slice none 0 0, .slice none 0 0] 38)).alloc (by simp; omega) (.cells #[.int .i64 0, .int .i64 0, .int .i64 0, .string ⟨#[]⟩, .slice none 0 0, .slice none 0 0] 38))
  clear h h2 hs hok
  go_enter Tryz.func38, Tryz.ntmps38
  go_wp2_with fail
  refine (l5askOk_any 5 nn name kd fn line sn _ hz hz2).mono ?_
  rintro e w1 ⟨⟨b, rfl, hbb⟩, hbl⟩
  have A1 := hide ((unhide A0).go hbl)
  have HB1 := hide ((unhide HBW).trans (hbl.mono (unhide HBW).size))
  have H1 := hide ((unhide H).below (unhide HB1))
  obtain rfl : b = true := hbb.2 ho
  clear hbb hbl
  have HO := hide ho
  clear ho
  have a0 : w1.cell? ⟨w.heap.size, 0, none⟩ = some (.int .i64 5) := (unhide A1).a0
  obtain ⟨a2, cap2, e2, hn2, -⟩ := unhide H2 _ ((unhide HB1).mono hB)
  subst e2
  clear hn2
  obtain ⟨ha, hc, hve⟩ := (unhide H1).hslice
  obtain ⟨ns, hns⟩ : ∃ ns, ns = s.stops.length := ⟨_, rfl⟩
  rw [← hns] at hve
  subst hve
  have HNS := hide hns
  have hn3 : n ≤ 3000 := (unhide HS).1.2.2.1
  have hk0 := (unhide HOK).lo
  have hk1 := (unhide HOK).hi
  obtain ⟨k, hk⟩ : ∃ k, k = s.at_ := ⟨_, rfl⟩
  rw [← hk] at hk0 hk1
  have HK := hide hk
  clear hk hns
  have HSS : Hid (∀ W, Below w1.heap.size w1 W → W.cell? ⟨lb, 0, none⟩ = some v1 ∧ W.cell? ⟨lb, 1, none⟩ = some (.slice a2 n cap2)) := hide (fun W hb => ⟨cell_below hb (unhide H1).c0, cell_below hb (unhide H1).c1⟩)
  have HC2 : Hid (∀ W, Below w1.heap.size w1 W → W.cell? ⟨lb, 2, none⟩ = some (.int .i64 k)) := hide (fun W hb => by rw [unhide HK]; exact cell_below hb (unhide H1).c2)
  go_upto_region 29 with fail
  refine wp_region_held_drew (S := fun W => W.cell? ⟨lb, 0, none⟩ = some v1 ∧ W.cell? ⟨lb, 1, none⟩ = some (.slice a2 n cap2)) (by kernel_rfl) (unhide HSS _ (Below.refl _ _).drew) (fun hHeld => ?_)
  refine takeAt 0 (some 124) (v := ?v0a) (by decide) rfl (by kernel_rfl) (by kernel_rfl) (by kernel_rfl) (fun _ _ _ h => h) (by rfl) ?hy0a hHeld ?r0a
  case hy0a => (intro wx hSw; obtain ⟨s0, s1⟩ := hSw; go_simp; with_reducible rfl)
  simp only [Act.put, List.setIfInBounds_toArray, List.set_cons_zero, List.set_cons_succ]
  refine takeAt 1 (some 125) (v := ?v1a) (by decide) rfl (by kernel_rfl) (by kernel_rfl) (by kernel_rfl) (fun _ _ _ h => h) (by rfl) ?hy1a hHeld ?r1a
  case hy1a => (intro wx hSw; obtain ⟨s0, s1⟩ := hSw; go_simp; with_reducible rfl)
  simp only [Act.put, List.setIfInBounds_toArray, List.set_cons_zero, List.set_cons_succ]
  refine takeAt 2 (some 126) (v := ?v2a) (by decide) rfl (by kernel_rfl) (by kernel_rfl) (by kernel_rfl) (fun _ _ _ h => h) (by rfl) ?hy2a hHeld ?r2a
  case hy2a => (intro wx hSw; obtain ⟨s0, s1⟩ := hSw; go_simp; with_reducible rfl)
  simp only [Act.put, List.setIfInBounds_toArray, List.set_cons_zero, List.set_cons_succ]
  refine takeAt 3 (some 127) (v := ?v3a) (by decide) rfl (by kernel_rfl) (by kernel_rfl) (by kernel_rfl) (fun _ _ _ h => h) (by rfl) ?hy3a hHeld ?r3a
  case hy3a => (intro wx hSw; obtain ⟨s0, s1⟩ := hSw; go_simp; with_reducible rfl)
  simp only [Act.put, List.setIfInBounds_toArray, List.set_cons_zero, List.set_cons_succ]
  refine takeAt 4 (some 128) (v := ?v4a) (by decide) rfl (by kernel_rfl) (by kernel_rfl) (by kernel_rfl) (fun _ _ _ h => h) (by rfl) ?hy4a hHeld ?r4a
  case hy4a => (intro wx hSw; obtain ⟨s0, s1⟩ := hSw; go_simp; with_reducible rfl)
  simp only [Act.put, List.setIfInBounds_toArray, List.set_cons_zero, List.set_cons_succ]
  refine takeAt 5 (some 129) (v := ?v5a) (by decide) rfl (by kernel_rfl) (by kernel_rfl) (by kernel_rfl) (fun _ _ _ h => h) (by rfl) ?hy5a hHeld ?r5a
  case hy5a => (intro wx hSw; obtain ⟨s0, s1⟩ := hSw; go_simp; with_reducible rfl)
  simp only [Act.put, List.setIfInBounds_toArray, List.set_cons_zero, List.set_cons_succ]
  refine takeAt 6 (some 130) (v := ?v6a) (by decide) rfl (by kernel_rfl) (by kernel_rfl) (by kernel_rfl) (fun _ _ _ h => h) (by rfl) ?hy6a hHeld ?r6a
  case hy6a => (intro wx hSw; obtain ⟨s0, s1⟩ := hSw; go_simp; with_reducible rfl)
  simp only [Act.put, List.setIfInBounds_toArray, List.set_cons_zero, List.set_cons_succ]
  refine takeAt 7 (some 131) (v := ?v7a) (by decide) rfl (by kernel_rfl) (by kernel_rfl) (by kernel_rfl) (fun _ _ _ h => h) (by rfl) ?hy7a hHeld ?r7a
  case hy7a => (intro wx hSw; obtain ⟨s0, s1⟩ := hSw; go_simp; with_reducible rfl)
  simp only [Act.put, List.setIfInBounds_toArray, List.set_cons_zero, List.set_cons_succ]
  refine wpAnyH_ready (rs := [8]) (by kernel_rfl) (by simp) ?_
  refine AllReadyH.cons rfl (fun KK hK => ?_) AllReadyH.nil
  have q2 := unhide HC2 _ (Below.refl w1.heap.size w1).drew
  go_simp
  refine hK.out _ _ (unhide HSS _ (Below.refl _ _).drew) (fun hHeld => ?_)
  clear hK KK q2
  try simp only [Act.put, List.setIfInBounds_toArray, List.getElem_toArray, List.getElem_cons_succ, List.getElem_cons_zero, List.set_cons_zero, List.set_cons_succ]
  refine wpAnyH_ready (rs := [9]) (by kernel_rfl) (by simp) ?_
  refine AllReadyH.cons rfl (fun KK hK => ?_) AllReadyH.nil
  have hdr := (Below.refl w1.heap.size w1).drew
  go_simp
  refine (l4into_any lo _ _ nf fns n f k _ ((unhide H2 _ ((unhide HB1).mono hB)).below hdr) (unhide HS) hk0 hk1).mono ?_
  rintro e w2 ⟨⟨z, rfl, hz⟩, hbx⟩
  have hb2 : Below w1.heap.size w1 w2 := hdr.trans hbx
  have HZ := hide hz
  clear hz hbx
  have H2b := hide ((unhide H1).below hb2)
  have A2 := hide ((unhide A1).go hb2)
  have HB2 := hide ((unhide HB1).trans (hb2.mono (unhide HB1).size))
  refine hK.out _ _ (unhide HSS _ hb2) (fun hHeld => ?_)
  clear hK KK hb2 hdr
  try simp only [Act.put, List.setIfInBounds_toArray, List.getElem_toArray, List.getElem_cons_succ, List.getElem_cons_zero, List.set_cons_zero, List.set_cons_succ]
  refine wpAnyH_ready (rs := [10]) (by kernel_rfl) (by simp) ?_
  refine AllReadyH.cons rfl (fun KK hK => ?_) AllReadyH.nil
  go_simp
  refine (l5move_any B lb v1 _ _ pv n f s z w2 (unhide H2b) (by have := unhide HP; omega) (Nat.le_trans hB (unhide HB2).size)).mono ?_
  rintro e w3 ⟨rfl, ⟨pv', hl3⟩, hb3, hk3⟩
  have A3 := hide ((unhide A2).same hk3)
  have HL3 := hide hl3
  have HB3 := hide (((unhide HB2).mono hB).trans hb3)
  have HK3 := hide ((Same.of_below (P := KindL) (unhide HB2)).trans hk3)
  clear hb3 hk3
  refine hK.out _ _ ⟨hl3.c0, hl3.c1⟩ (fun hHeld => ?_)
  clear hK KK hHeld hl3
  try simp only [Act.put, List.setIfInBounds_toArray, List.getElem_toArray, List.getElem_cons_succ, List.getElem_cons_zero, List.set_cons_zero, List.set_cons_succ]
  refine wpAnyH_done (by kernel_rfl) ?_ _
  obtain ⟨⟨r0, r1, r2, r3, r4, r5⟩, x0, x1, x2, x3, x4, x5⟩ := (unhide A3).rc
  obtain ⟨⟨o0, o1, o2, o3, o4, o5⟩, ofz⟩ := (unhide A3).oc
  have y1 := ofz 1
  have y2 := ofz 2
  have y3 := ofz 3
  have y4 := ofz 4
  have y5 := ofz 5
  clear ofz
  have hne : w.heap.size + 1 + 1 ≠ w.heap.size + 1 := by omega
  have hne' : w.heap.size + 1 ≠ w.heap.size + 1 + 1 := by omega
  clear a0
  go_wp2
  refine bodyPost_ret (v := .agg #[.int .i64 0, .int .i64 0, .int .i64 0, .string ⟨#[]⟩, .slice none 0 0, .slice none 0 0]) (by simp [results, Tryz.results38, go_sem, r0, r1, r2, r3, r4, r5]) rfl ?_
  exact sask_end (AskIs.move (z := z) (unhide HO) (.inl ⟨by show (3 : Int) ≤ 5; omega, by show (5 : Int) ≤ 7; omega⟩) (by unfold MoveTo; rw [if_neg (by show ¬ (5 : Int) = 3; omega)]; rw [if_neg (by show ¬ (5 : Int) = 4; omega)]; rw [if_pos rfl]; rw [← unhide HK]; exact unhide HZ)) rfl rfl rfl (unhide HL3) (unhide A3) (frs_nil _ _) (VsAt.nil _ _) (unhide HB3) (unhide HK3) hB

set_option maxRecDepth 100000 in
set_option maxHeartbeats 4000000 in
theorem specAsk_over (B lb lo : Nat) (v1 v2 hv pv : Value) (nf : Nat) (fns : Nat → ByteArray) (n : Nat) (f : Nat → M) (s : LS) (nn : Int) (name : ByteArray) (kd fn line : Int) (sn : ByteArray) (w : World) (h : SL B w lb v1 v2 n f s hv pv) (h2 : ∀ W, Below B w W → MomsAt lo W v2 n f) (hs : Sound nf fns n f) (hok : LsOk n s) (hp : s.past.length ≤ 10000) (hB : B ≤ w.heap.size) (hz : name.size ≤ maxLen) (hz2 : sn.size ≤ maxLen) (ho : OkAsk (⟨6, nn, name, ⟨kd, fn, line, sn⟩⟩ : Ak)) :
    Calls Tryz.prog 38 #[.pointer (some ⟨lb, 0, none⟩), .agg #[.int .i64 6, .int .i64 nn, .string name, .int .i64 kd, .int .i64 fn, .int .i64 line, .string sn]] w fun e w' => SAsk B lb v1 v2 n f s (⟨6, nn, name, ⟨kd, fn, line, sn⟩⟩ : Ak) w e w' := by
  have H := hide h
  have H2 := hide h2
  have HS := hide hs
  have HOK := hide hok
  have HP := hide hp
  clear hp
  have A0 := hide (AB.new w (⟨6, nn, name, ⟨kd, fn, line, sn⟩⟩ : Ak))
  have HBW := hide (((below_new w (.cells #[.int .i64 6, .int .i64 nn, .string name, .int .i64 kd, .int .i64 fn, .int .i64 line, .string sn] 47)).alloc (by simp) (.cells #[.int .i64 0, .int .i64 0, .int .i64 0, .string ⟨#[]⟩, .slice none 0 0, .slice none 0 0] 38)).alloc (by simp; omega) (.cells #[.int .i64 0, .int .i64 0, .int .i64 0, .string ⟨#[]⟩, .slice none 0 0, .slice none 0 0] 38))
  clear h h2 hs hok
  go_enter Tryz.func38, Tryz.ntmps38
  go_wp2_with fail
  refine (l5askOk_any 6 nn name kd fn line sn _ hz hz2).mono ?_
  rintro e w1 ⟨⟨b, rfl, hbb⟩, hbl⟩
  have A1 := hide ((unhide A0).go hbl)
  have HB1 := hide ((unhide HBW).trans (hbl.mono (unhide HBW).size))
  have H1 := hide ((unhide H).below (unhide HB1))
  obtain rfl : b = true := hbb.2 ho
  clear hbb hbl
  have HO := hide ho
  clear ho
  have a0 : w1.cell? ⟨w.heap.size, 0, none⟩ = some (.int .i64 6) := (unhide A1).a0
  obtain ⟨a2, cap2, e2, hn2, -⟩ := unhide H2 _ ((unhide HB1).mono hB)
  subst e2
  clear hn2
  obtain ⟨ha, hc, hve⟩ := (unhide H1).hslice
  obtain ⟨ns, hns⟩ : ∃ ns, ns = s.stops.length := ⟨_, rfl⟩
  rw [← hns] at hve
  subst hve
  have HNS := hide hns
  have hn3 : n ≤ 3000 := (unhide HS).1.2.2.1
  have hk0 := (unhide HOK).lo
  have hk1 := (unhide HOK).hi
  obtain ⟨k, hk⟩ : ∃ k, k = s.at_ := ⟨_, rfl⟩
  rw [← hk] at hk0 hk1
  have HK := hide hk
  clear hk hns
  have HSS : Hid (∀ W, Below w1.heap.size w1 W → W.cell? ⟨lb, 0, none⟩ = some v1 ∧ W.cell? ⟨lb, 1, none⟩ = some (.slice a2 n cap2)) := hide (fun W hb => ⟨cell_below hb (unhide H1).c0, cell_below hb (unhide H1).c1⟩)
  have HC2 : Hid (∀ W, Below w1.heap.size w1 W → W.cell? ⟨lb, 2, none⟩ = some (.int .i64 k)) := hide (fun W hb => by rw [unhide HK]; exact cell_below hb (unhide H1).c2)
  go_upto_region 31 with fail
  refine wp_region_held_drew (S := fun W => W.cell? ⟨lb, 0, none⟩ = some v1 ∧ W.cell? ⟨lb, 1, none⟩ = some (.slice a2 n cap2)) (by kernel_rfl) (unhide HSS _ (Below.refl _ _).drew) (fun hHeld => ?_)
  refine takeAt 0 (some 137) (v := ?v0a) (by decide) rfl (by kernel_rfl) (by kernel_rfl) (by kernel_rfl) (fun _ _ _ h => h) (by rfl) ?hy0a hHeld ?r0a
  case hy0a => (intro wx hSw; obtain ⟨s0, s1⟩ := hSw; go_simp; with_reducible rfl)
  simp only [Act.put, List.setIfInBounds_toArray, List.set_cons_zero, List.set_cons_succ]
  refine takeAt 1 (some 138) (v := ?v1a) (by decide) rfl (by kernel_rfl) (by kernel_rfl) (by kernel_rfl) (fun _ _ _ h => h) (by rfl) ?hy1a hHeld ?r1a
  case hy1a => (intro wx hSw; obtain ⟨s0, s1⟩ := hSw; go_simp; with_reducible rfl)
  simp only [Act.put, List.setIfInBounds_toArray, List.set_cons_zero, List.set_cons_succ]
  refine takeAt 2 (some 139) (v := ?v2a) (by decide) rfl (by kernel_rfl) (by kernel_rfl) (by kernel_rfl) (fun _ _ _ h => h) (by rfl) ?hy2a hHeld ?r2a
  case hy2a => (intro wx hSw; obtain ⟨s0, s1⟩ := hSw; go_simp; with_reducible rfl)
  simp only [Act.put, List.setIfInBounds_toArray, List.set_cons_zero, List.set_cons_succ]
  refine takeAt 3 (some 140) (v := ?v3a) (by decide) rfl (by kernel_rfl) (by kernel_rfl) (by kernel_rfl) (fun _ _ _ h => h) (by rfl) ?hy3a hHeld ?r3a
  case hy3a => (intro wx hSw; obtain ⟨s0, s1⟩ := hSw; go_simp; with_reducible rfl)
  simp only [Act.put, List.setIfInBounds_toArray, List.set_cons_zero, List.set_cons_succ]
  refine takeAt 4 (some 141) (v := ?v4a) (by decide) rfl (by kernel_rfl) (by kernel_rfl) (by kernel_rfl) (fun _ _ _ h => h) (by rfl) ?hy4a hHeld ?r4a
  case hy4a => (intro wx hSw; obtain ⟨s0, s1⟩ := hSw; go_simp; with_reducible rfl)
  simp only [Act.put, List.setIfInBounds_toArray, List.set_cons_zero, List.set_cons_succ]
  refine takeAt 5 (some 142) (v := ?v5a) (by decide) rfl (by kernel_rfl) (by kernel_rfl) (by kernel_rfl) (fun _ _ _ h => h) (by rfl) ?hy5a hHeld ?r5a
  case hy5a => (intro wx hSw; obtain ⟨s0, s1⟩ := hSw; go_simp; with_reducible rfl)
  simp only [Act.put, List.setIfInBounds_toArray, List.set_cons_zero, List.set_cons_succ]
  refine takeAt 6 (some 143) (v := ?v6a) (by decide) rfl (by kernel_rfl) (by kernel_rfl) (by kernel_rfl) (fun _ _ _ h => h) (by rfl) ?hy6a hHeld ?r6a
  case hy6a => (intro wx hSw; obtain ⟨s0, s1⟩ := hSw; go_simp; with_reducible rfl)
  simp only [Act.put, List.setIfInBounds_toArray, List.set_cons_zero, List.set_cons_succ]
  refine takeAt 7 (some 144) (v := ?v7a) (by decide) rfl (by kernel_rfl) (by kernel_rfl) (by kernel_rfl) (fun _ _ _ h => h) (by rfl) ?hy7a hHeld ?r7a
  case hy7a => (intro wx hSw; obtain ⟨s0, s1⟩ := hSw; go_simp; with_reducible rfl)
  simp only [Act.put, List.setIfInBounds_toArray, List.set_cons_zero, List.set_cons_succ]
  refine wpAnyH_ready (rs := [8]) (by kernel_rfl) (by simp) ?_
  refine AllReadyH.cons rfl (fun KK hK => ?_) AllReadyH.nil
  have q2 := unhide HC2 _ (Below.refl w1.heap.size w1).drew
  go_simp
  refine hK.out _ _ (unhide HSS _ (Below.refl _ _).drew) (fun hHeld => ?_)
  clear hK KK q2
  try simp only [Act.put, List.setIfInBounds_toArray, List.getElem_toArray, List.getElem_cons_succ, List.getElem_cons_zero, List.set_cons_zero, List.set_cons_succ]
  refine wpAnyH_ready (rs := [9]) (by kernel_rfl) (by simp) ?_
  refine AllReadyH.cons rfl (fun KK hK => ?_) AllReadyH.nil
  have hdr := (Below.refl w1.heap.size w1).drew
  go_simp
  refine (l4leave_any lo _ _ nf fns n f k 1 0 _ ((unhide H2 _ ((unhide HB1).mono hB)).below hdr) (unhide HS) hk0 hk1 (by omega) (by omega)).mono ?_
  rintro e w2 ⟨⟨z, rfl, hz⟩, hbx⟩
  have hb2 : Below w1.heap.size w1 w2 := hdr.trans hbx
  have HZ := hide hz
  clear hz hbx
  have H2b := hide ((unhide H1).below hb2)
  have A2 := hide ((unhide A1).go hb2)
  have HB2 := hide ((unhide HB1).trans (hb2.mono (unhide HB1).size))
  refine hK.out _ _ (unhide HSS _ hb2) (fun hHeld => ?_)
  clear hK KK hb2 hdr
  try simp only [Act.put, List.setIfInBounds_toArray, List.getElem_toArray, List.getElem_cons_succ, List.getElem_cons_zero, List.set_cons_zero, List.set_cons_succ]
  refine wpAnyH_ready (rs := [10]) (by kernel_rfl) (by simp) ?_
  refine AllReadyH.cons rfl (fun KK hK => ?_) AllReadyH.nil
  go_simp
  refine (l5move_any B lb v1 _ _ pv n f s z w2 (unhide H2b) (by have := unhide HP; omega) (Nat.le_trans hB (unhide HB2).size)).mono ?_
  rintro e w3 ⟨rfl, ⟨pv', hl3⟩, hb3, hk3⟩
  have A3 := hide ((unhide A2).same hk3)
  have HL3 := hide hl3
  have HB3 := hide (((unhide HB2).mono hB).trans hb3)
  have HK3 := hide ((Same.of_below (P := KindL) (unhide HB2)).trans hk3)
  clear hb3 hk3
  refine hK.out _ _ ⟨hl3.c0, hl3.c1⟩ (fun hHeld => ?_)
  clear hK KK hHeld hl3
  try simp only [Act.put, List.setIfInBounds_toArray, List.getElem_toArray, List.getElem_cons_succ, List.getElem_cons_zero, List.set_cons_zero, List.set_cons_succ]
  refine wpAnyH_done (by kernel_rfl) ?_ _
  obtain ⟨⟨r0, r1, r2, r3, r4, r5⟩, x0, x1, x2, x3, x4, x5⟩ := (unhide A3).rc
  obtain ⟨⟨o0, o1, o2, o3, o4, o5⟩, ofz⟩ := (unhide A3).oc
  have y1 := ofz 1
  have y2 := ofz 2
  have y3 := ofz 3
  have y4 := ofz 4
  have y5 := ofz 5
  clear ofz
  have hne : w.heap.size + 1 + 1 ≠ w.heap.size + 1 := by omega
  have hne' : w.heap.size + 1 ≠ w.heap.size + 1 + 1 := by omega
  clear a0
  go_wp2
  refine bodyPost_ret (v := .agg #[.int .i64 0, .int .i64 0, .int .i64 0, .string ⟨#[]⟩, .slice none 0 0, .slice none 0 0]) (by simp [results, Tryz.results38, go_sem, r0, r1, r2, r3, r4, r5]) rfl ?_
  exact sask_end (AskIs.move (z := z) (unhide HO) (.inl ⟨by show (3 : Int) ≤ 6; omega, by show (6 : Int) ≤ 7; omega⟩) (by unfold MoveTo; rw [if_neg (by show ¬ (6 : Int) = 3; omega)]; rw [if_neg (by show ¬ (6 : Int) = 4; omega)]; rw [if_neg (by show ¬ (6 : Int) = 5; omega)]; rw [if_pos rfl]; rw [← unhide HK]; exact .inl ⟨by omega, by rw [← leave_over]; exact unhide HZ⟩)) rfl rfl rfl (unhide HL3) (unhide A3) (frs_nil _ _) (VsAt.nil _ _) (unhide HB3) (unhide HK3) hB

set_option maxRecDepth 100000 in
set_option maxHeartbeats 4000000 in
theorem specAsk_out (B lb lo : Nat) (v1 v2 hv pv : Value) (nf : Nat) (fns : Nat → ByteArray) (n : Nat) (f : Nat → M) (s : LS) (nn : Int) (name : ByteArray) (kd fn line : Int) (sn : ByteArray) (w : World) (h : SL B w lb v1 v2 n f s hv pv) (h2 : ∀ W, Below B w W → MomsAt lo W v2 n f) (hs : Sound nf fns n f) (hok : LsOk n s) (hp : s.past.length ≤ 10000) (hB : B ≤ w.heap.size) (hz : name.size ≤ maxLen) (hz2 : sn.size ≤ maxLen) (ho : OkAsk (⟨7, nn, name, ⟨kd, fn, line, sn⟩⟩ : Ak)) :
    Calls Tryz.prog 38 #[.pointer (some ⟨lb, 0, none⟩), .agg #[.int .i64 7, .int .i64 nn, .string name, .int .i64 kd, .int .i64 fn, .int .i64 line, .string sn]] w fun e w' => SAsk B lb v1 v2 n f s (⟨7, nn, name, ⟨kd, fn, line, sn⟩⟩ : Ak) w e w' := by
  have H := hide h
  have H2 := hide h2
  have HS := hide hs
  have HOK := hide hok
  have HP := hide hp
  clear hp
  have A0 := hide (AB.new w (⟨7, nn, name, ⟨kd, fn, line, sn⟩⟩ : Ak))
  have HBW := hide (((below_new w (.cells #[.int .i64 7, .int .i64 nn, .string name, .int .i64 kd, .int .i64 fn, .int .i64 line, .string sn] 47)).alloc (by simp) (.cells #[.int .i64 0, .int .i64 0, .int .i64 0, .string ⟨#[]⟩, .slice none 0 0, .slice none 0 0] 38)).alloc (by simp; omega) (.cells #[.int .i64 0, .int .i64 0, .int .i64 0, .string ⟨#[]⟩, .slice none 0 0, .slice none 0 0] 38))
  clear h h2 hs hok
  go_enter Tryz.func38, Tryz.ntmps38
  go_wp2_with fail
  refine (l5askOk_any 7 nn name kd fn line sn _ hz hz2).mono ?_
  rintro e w1 ⟨⟨b, rfl, hbb⟩, hbl⟩
  have A1 := hide ((unhide A0).go hbl)
  have HB1 := hide ((unhide HBW).trans (hbl.mono (unhide HBW).size))
  have H1 := hide ((unhide H).below (unhide HB1))
  obtain rfl : b = true := hbb.2 ho
  clear hbb hbl
  have HO := hide ho
  clear ho
  have a0 : w1.cell? ⟨w.heap.size, 0, none⟩ = some (.int .i64 7) := (unhide A1).a0
  obtain ⟨a2, cap2, e2, hn2, -⟩ := unhide H2 _ ((unhide HB1).mono hB)
  subst e2
  clear hn2
  obtain ⟨ha, hc, hve⟩ := (unhide H1).hslice
  obtain ⟨ns, hns⟩ : ∃ ns, ns = s.stops.length := ⟨_, rfl⟩
  rw [← hns] at hve
  subst hve
  have HNS := hide hns
  have hn3 : n ≤ 3000 := (unhide HS).1.2.2.1
  have hk0 := (unhide HOK).lo
  have hk1 := (unhide HOK).hi
  obtain ⟨k, hk⟩ : ∃ k, k = s.at_ := ⟨_, rfl⟩
  rw [← hk] at hk0 hk1
  have HK := hide hk
  clear hk hns
  have HSS : Hid (∀ W, Below w1.heap.size w1 W → W.cell? ⟨lb, 0, none⟩ = some v1 ∧ W.cell? ⟨lb, 1, none⟩ = some (.slice a2 n cap2)) := hide (fun W hb => ⟨cell_below hb (unhide H1).c0, cell_below hb (unhide H1).c1⟩)
  have HC2 : Hid (∀ W, Below w1.heap.size w1 W → W.cell? ⟨lb, 2, none⟩ = some (.int .i64 k)) := hide (fun W hb => by rw [unhide HK]; exact cell_below hb (unhide H1).c2)
  go_upto_region 33 with fail
  refine wp_region_held_drew (S := fun W => W.cell? ⟨lb, 0, none⟩ = some v1 ∧ W.cell? ⟨lb, 1, none⟩ = some (.slice a2 n cap2)) (by kernel_rfl) (unhide HSS _ (Below.refl _ _).drew) (fun hHeld => ?_)
  refine takeAt 0 (some 150) (v := ?v0a) (by decide) rfl (by kernel_rfl) (by kernel_rfl) (by kernel_rfl) (fun _ _ _ h => h) (by rfl) ?hy0a hHeld ?r0a
  case hy0a => (intro wx hSw; obtain ⟨s0, s1⟩ := hSw; go_simp; with_reducible rfl)
  simp only [Act.put, List.setIfInBounds_toArray, List.set_cons_zero, List.set_cons_succ]
  refine takeAt 1 (some 151) (v := ?v1a) (by decide) rfl (by kernel_rfl) (by kernel_rfl) (by kernel_rfl) (fun _ _ _ h => h) (by rfl) ?hy1a hHeld ?r1a
  case hy1a => (intro wx hSw; obtain ⟨s0, s1⟩ := hSw; go_simp; with_reducible rfl)
  simp only [Act.put, List.setIfInBounds_toArray, List.set_cons_zero, List.set_cons_succ]
  refine takeAt 2 (some 152) (v := ?v2a) (by decide) rfl (by kernel_rfl) (by kernel_rfl) (by kernel_rfl) (fun _ _ _ h => h) (by rfl) ?hy2a hHeld ?r2a
  case hy2a => (intro wx hSw; obtain ⟨s0, s1⟩ := hSw; go_simp; with_reducible rfl)
  simp only [Act.put, List.setIfInBounds_toArray, List.set_cons_zero, List.set_cons_succ]
  refine takeAt 3 (some 153) (v := ?v3a) (by decide) rfl (by kernel_rfl) (by kernel_rfl) (by kernel_rfl) (fun _ _ _ h => h) (by rfl) ?hy3a hHeld ?r3a
  case hy3a => (intro wx hSw; obtain ⟨s0, s1⟩ := hSw; go_simp; with_reducible rfl)
  simp only [Act.put, List.setIfInBounds_toArray, List.set_cons_zero, List.set_cons_succ]
  refine takeAt 4 (some 154) (v := ?v4a) (by decide) rfl (by kernel_rfl) (by kernel_rfl) (by kernel_rfl) (fun _ _ _ h => h) (by rfl) ?hy4a hHeld ?r4a
  case hy4a => (intro wx hSw; obtain ⟨s0, s1⟩ := hSw; go_simp; with_reducible rfl)
  simp only [Act.put, List.setIfInBounds_toArray, List.set_cons_zero, List.set_cons_succ]
  refine takeAt 5 (some 155) (v := ?v5a) (by decide) rfl (by kernel_rfl) (by kernel_rfl) (by kernel_rfl) (fun _ _ _ h => h) (by rfl) ?hy5a hHeld ?r5a
  case hy5a => (intro wx hSw; obtain ⟨s0, s1⟩ := hSw; go_simp; with_reducible rfl)
  simp only [Act.put, List.setIfInBounds_toArray, List.set_cons_zero, List.set_cons_succ]
  refine takeAt 6 (some 156) (v := ?v6a) (by decide) rfl (by kernel_rfl) (by kernel_rfl) (by kernel_rfl) (fun _ _ _ h => h) (by rfl) ?hy6a hHeld ?r6a
  case hy6a => (intro wx hSw; obtain ⟨s0, s1⟩ := hSw; go_simp; with_reducible rfl)
  simp only [Act.put, List.setIfInBounds_toArray, List.set_cons_zero, List.set_cons_succ]
  refine takeAt 7 (some 157) (v := ?v7a) (by decide) rfl (by kernel_rfl) (by kernel_rfl) (by kernel_rfl) (fun _ _ _ h => h) (by rfl) ?hy7a hHeld ?r7a
  case hy7a => (intro wx hSw; obtain ⟨s0, s1⟩ := hSw; go_simp; with_reducible rfl)
  simp only [Act.put, List.setIfInBounds_toArray, List.set_cons_zero, List.set_cons_succ]
  refine wpAnyH_ready (rs := [8]) (by kernel_rfl) (by simp) ?_
  refine AllReadyH.cons rfl (fun KK hK => ?_) AllReadyH.nil
  have q2 := unhide HC2 _ (Below.refl w1.heap.size w1).drew
  go_simp
  refine hK.out _ _ (unhide HSS _ (Below.refl _ _).drew) (fun hHeld => ?_)
  clear hK KK q2
  try simp only [Act.put, List.setIfInBounds_toArray, List.getElem_toArray, List.getElem_cons_succ, List.getElem_cons_zero, List.set_cons_zero, List.set_cons_succ]
  refine wpAnyH_ready (rs := [9]) (by kernel_rfl) (by simp) ?_
  refine AllReadyH.cons rfl (fun KK hK => ?_) AllReadyH.nil
  have hdr := (Below.refl w1.heap.size w1).drew
  go_simp
  refine (l4leave_any lo _ _ nf fns n f k 3 1 _ ((unhide H2 _ ((unhide HB1).mono hB)).below hdr) (unhide HS) hk0 hk1 (by omega) (by omega)).mono ?_
  rintro e w2 ⟨⟨z, rfl, hz⟩, hbx⟩
  have hb2 : Below w1.heap.size w1 w2 := hdr.trans hbx
  have HZ := hide hz
  clear hz hbx
  have H2b := hide ((unhide H1).below hb2)
  have A2 := hide ((unhide A1).go hb2)
  have HB2 := hide ((unhide HB1).trans (hb2.mono (unhide HB1).size))
  refine hK.out _ _ (unhide HSS _ hb2) (fun hHeld => ?_)
  clear hK KK hb2 hdr
  try simp only [Act.put, List.setIfInBounds_toArray, List.getElem_toArray, List.getElem_cons_succ, List.getElem_cons_zero, List.set_cons_zero, List.set_cons_succ]
  refine wpAnyH_ready (rs := [10]) (by kernel_rfl) (by simp) ?_
  refine AllReadyH.cons rfl (fun KK hK => ?_) AllReadyH.nil
  go_simp
  refine (l5move_any B lb v1 _ _ pv n f s z w2 (unhide H2b) (by have := unhide HP; omega) (Nat.le_trans hB (unhide HB2).size)).mono ?_
  rintro e w3 ⟨rfl, ⟨pv', hl3⟩, hb3, hk3⟩
  have A3 := hide ((unhide A2).same hk3)
  have HL3 := hide hl3
  have HB3 := hide (((unhide HB2).mono hB).trans hb3)
  have HK3 := hide ((Same.of_below (P := KindL) (unhide HB2)).trans hk3)
  clear hb3 hk3
  refine hK.out _ _ ⟨hl3.c0, hl3.c1⟩ (fun hHeld => ?_)
  clear hK KK hHeld hl3
  try simp only [Act.put, List.setIfInBounds_toArray, List.getElem_toArray, List.getElem_cons_succ, List.getElem_cons_zero, List.set_cons_zero, List.set_cons_succ]
  refine wpAnyH_done (by kernel_rfl) ?_ _
  obtain ⟨⟨r0, r1, r2, r3, r4, r5⟩, x0, x1, x2, x3, x4, x5⟩ := (unhide A3).rc
  obtain ⟨⟨o0, o1, o2, o3, o4, o5⟩, ofz⟩ := (unhide A3).oc
  have y1 := ofz 1
  have y2 := ofz 2
  have y3 := ofz 3
  have y4 := ofz 4
  have y5 := ofz 5
  clear ofz
  have hne : w.heap.size + 1 + 1 ≠ w.heap.size + 1 := by omega
  have hne' : w.heap.size + 1 ≠ w.heap.size + 1 + 1 := by omega
  clear a0
  go_wp2
  refine bodyPost_ret (v := .agg #[.int .i64 0, .int .i64 0, .int .i64 0, .string ⟨#[]⟩, .slice none 0 0, .slice none 0 0]) (by simp [results, Tryz.results38, go_sem, r0, r1, r2, r3, r4, r5]) rfl ?_
  exact sask_end (AskIs.move (z := z) (unhide HO) (.inl ⟨by show (3 : Int) ≤ 7; omega, by show (7 : Int) ≤ 7; omega⟩) (by unfold MoveTo; rw [if_neg (by show ¬ (7 : Int) = 3; omega)]; rw [if_neg (by show ¬ (7 : Int) = 4; omega)]; rw [if_neg (by show ¬ (7 : Int) = 5; omega)]; rw [if_neg (by show ¬ (7 : Int) = 6; omega)]; rw [if_pos rfl]; rw [← unhide HK]; exact .inl ⟨by omega, by rw [← leave_out]; exact unhide HZ⟩)) rfl rfl rfl (unhide HL3) (unhide A3) (frs_nil _ _) (VsAt.nil _ _) (unhide HB3) (unhide HK3) hB

end Go.Proofs.YtmnmeaeicjhkhaaGreatDoor

/-
  Spec's ask: a stop is set.
-/
namespace Go.Proofs.YtmnmeaeicjhkhaaGreatDoor
open Go.RowKit

theorem HitsAt.snoc {B : Nat} {W : World} {hv' : Value} {ns n : Nat} {f : Nat → M} {ss ss' : Nat → Sp} {st : Sp} {bs : Nat → Nat} {b' : Nat} (ro : W.ownsRow B 157 1 hv' (ns + 1) ((List.range ns).map (fun i => Value.slice (some ⟨bs i, 0, none⟩) n n) ++ [.slice (some ⟨b', 0, none⟩) n n]))
    (hk : ∀ i, i < ns → Bools (bs i) W n (hit f (ss i))) (hb : Bools b' W n (hit f st)) (e1 : ∀ i, i < ns → ss' i = ss i) (e2 : ss' ns = st) : HitsAt B W hv' (ns + 1) n f ss' := by
  refine ⟨fun i => if i < ns then bs i else b', ?_, fun i hi => ?_⟩
  · rw [List.range_succ, List.map_append, List.map_singleton]
    dsimp only
    rw [if_neg (Nat.lt_irrefl ns)]
    have e : (List.range ns).map (fun i => Value.slice (some ⟨if i < ns then bs i else b', 0, none⟩) n n) = (List.range ns).map (fun i => Value.slice (some ⟨bs i, 0, none⟩) n n) := by
      apply List.map_congr_left
      intro i hi
      rw [if_pos (List.mem_range.1 hi)]
    rw [e]
    exact ro
  · dsimp only
    by_cases h : i < ns
    · rw [if_pos h, e1 i h]; exact hk i h
    · obtain rfl : i = ns := by omega
      rw [if_neg h, e2]; exact hb

theorem ss_snoc {s : LS} {st : Sp} : (∀ i, i < s.stops.length → LS.ss ⟨s.at_, s.stops ++ [st], s.past⟩ i = s.ss i) ∧ LS.ss ⟨s.at_, s.stops ++ [st], s.past⟩ s.stops.length = st := by
  constructor
  · intro i hi
    unfold LS.ss
    dsimp only
    rw [List.getD_eq_getElem?_getD, List.getD_eq_getElem?_getD, List.getElem?_append_left hi]
  · unfold LS.ss
    dsimp only
    rw [List.getD_eq_getElem?_getD, List.getElem?_append_right (Nat.le_refl _)]
    simp

theorem SL.grownHits {B lb n : Nat} {W W1 W' : World} {v1 v2 hv pv : Value} {f : Nat → M} {s : LS} (h : SL B W lb v1 v2 n f s hv pv) (hb : Below W.heap.size W W1) (hg : W1.grownBy W' hv.ownBlock) (hB : B ≤ W.heap.size) :
    W'.heap[lb]? = some (.cells #[v1, v2, .int .i64 s.at_, hv, pv] 82 (0, 0)) ∧ W'.ownsRow B 3 1 pv s.past.length (s.past.map (Value.int .i64)) ∧ Same (fun t => t ≠ 157) W1 W' ∧ Same KindL W W' ∧ Below B W W' := by
  obtain ⟨bs, r, k⟩ := h.hits
  have ha := owns_below r hb
  have h1 : Same (fun t => t ≠ 157) W1 W' := Same.grown ha hg (fun q => q rfl)
  have h0 : ∀ P, Same P W W1 := fun P => Same.of_below hb
  exact ⟨h1 _ _ _ _ (h0 (fun _ => True) _ _ _ _ h.box trivial) (by decide), owns_same (owns_below h.past hb) h1 (by decide), h1, (h0 _).trans (h1.mono (fun t q => q.2.1)), (hb.mono hB).grown hg (Nat.le_trans hB hb.size) (fun b e => (owns_kd ha b e).1)⟩

theorem Bools.same {P : TypeId → Prop} {b : Nat} {w w' : World} {n : Nat} {F : Nat → Bool} (h : Bools b w n F) (hs : Same P w w') (hp : P 4) : Bools b w' n F := by
  obtain ⟨⟨cs, hb⟩, hc⟩ := h
  exact Bools.of_block ⟨⟨cs, hb⟩, hc⟩ ((hs _ _ _ _ hb hp).trans hb.symm)

set_option maxRecDepth 100000 in
set_option maxHeartbeats 4000000 in
theorem specAsk_stop (B lb lo : Nat) (v1 v2 hv pv : Value) (nf : Nat) (fns : Nat → ByteArray) (n : Nat) (f : Nat → M) (s : LS) (nn : Int) (name : ByteArray) (kd fn line : Int) (sn : ByteArray) (w : World) (h : SL B w lb v1 v2 n f s hv pv) (h2 : ∀ W, Below B w W → MomsAt lo W v2 n f) (hs : Sound nf fns n f) (hok : LsOk n s) (hp : s.past.length ≤ 10000) (hB : B ≤ w.heap.size) (hz : name.size ≤ maxLen) (hz2 : sn.size ≤ maxLen) (ho : OkAsk (⟨1, nn, name, ⟨kd, fn, line, sn⟩⟩ : Ak)) :
    Calls Tryz.prog 38 #[.pointer (some ⟨lb, 0, none⟩), .agg #[.int .i64 1, .int .i64 nn, .string name, .int .i64 kd, .int .i64 fn, .int .i64 line, .string sn]] w fun e w' => SAsk B lb v1 v2 n f s (⟨1, nn, name, ⟨kd, fn, line, sn⟩⟩ : Ak) w e w' := by
  have H := hide h
  have H2 := hide h2
  have HS := hide hs
  have HOK := hide hok
  have HP := hide hp
  clear hp
  have A0 := hide (AB.new w (⟨1, nn, name, ⟨kd, fn, line, sn⟩⟩ : Ak))
  have HBW := hide (((below_new w (.cells #[.int .i64 1, .int .i64 nn, .string name, .int .i64 kd, .int .i64 fn, .int .i64 line, .string sn] 47)).alloc (by simp) (.cells #[.int .i64 0, .int .i64 0, .int .i64 0, .string ⟨#[]⟩, .slice none 0 0, .slice none 0 0] 38)).alloc (by simp; omega) (.cells #[.int .i64 0, .int .i64 0, .int .i64 0, .string ⟨#[]⟩, .slice none 0 0, .slice none 0 0] 38))
  clear h h2 hs hok
  go_enter Tryz.func38, Tryz.ntmps38
  go_wp2_with fail
  refine (l5askOk_any 1 nn name kd fn line sn _ hz hz2).mono ?_
  rintro e w1 ⟨⟨b, rfl, hbb⟩, hbl⟩
  have A1 := hide ((unhide A0).go hbl)
  have HB1 := hide ((unhide HBW).trans (hbl.mono (unhide HBW).size))
  have H1 := hide ((unhide H).below (unhide HB1))
  obtain rfl : b = true := hbb.2 ho
  clear hbb hbl
  have HO := hide ho
  clear ho
  have a0 : w1.cell? ⟨w.heap.size, 0, none⟩ = some (.int .i64 1) := (unhide A1).a0
  obtain ⟨ha, hc, hve⟩ := (unhide H1).hslice
  obtain ⟨ns, hns⟩ : ∃ ns, ns = s.stops.length := ⟨_, rfl⟩
  rw [← hns] at hve
  subst hve
  have HNS := hide hns
  have hn50 : ns ≤ 50 := by rw [hns]; exact (unhide HOK).st
  have c3 := (unhide H1).c3
  clear hns
  by_cases h50 : ns = 50
  · have hb50 : ((ns : Int) == 50) = true := by rw [h50]; rfl
    have HE : Hid (s.stops.length = 50) := hide (by rw [← unhide HNS]; exact h50)
    clear h50
    obtain ⟨⟨r0, r1, r2, r3, r4, r5⟩, x0, x1, x2, x3, x4, x5⟩ := (unhide A1).rc
    obtain ⟨⟨o0, o1, o2, o3, o4, o5⟩, ofz⟩ := (unhide A1).oc
    have y1 := ofz 1
    have y2 := ofz 2
    have y3 := ofz 3
    have y4 := ofz 4
    have y5 := ofz 5
    clear ofz
    have hne : w.heap.size + 1 + 1 ≠ w.heap.size + 1 := by omega
    have hne' : w.heap.size + 1 ≠ w.heap.size + 1 + 1 := by omega
    go_wp2
    refine bodyPost_ret (v := .agg #[.int .i64 0, .int .i64 2, .int .i64 0, .string ⟨#[]⟩, .slice none 0 0, .slice none 0 0]) (by simp [results, Tryz.results38, go_sem, r0, r1, r2, r3, r4, r5]) rfl ?_
    exact sask_end (AskIs.stop50 (unhide HO) rfl (unhide HE)) rfl rfl rfl ((unhide H1).told (unhide A1) 1 (.int .i64 2)) ((unhide A1).set1 2) (frs_nil _ _) (VsAt.nil _ _) (((unhide HB1).mono hB).setCell (p := ⟨w.heap.size + 1 + 1, 1, none⟩) (show B ≤ w.heap.size + 1 + 1 by omega) _) ((Same.of_below (unhide HB1)).far (by omega)) hB
  have hb50 : ((ns : Int) == 50) = false := by simp; omega
  obtain ⟨i0, hi0, hz0, hz1, hz2'⟩ := info_parts info_bools
  have II := hide (And.intro hi0 (And.intro hz0 (And.intro hz1 hz2'))); clear hi0 hz0 hz1 hz2'
  obtain ⟨bs, hrow, hbo⟩ := (unhide H1).hits
  rw [← unhide HNS] at hrow hbo
  have HROW := hide hrow
  have HBO := hide hbo
  clear hrow hbo
  have HSS : Hid (∀ W, Below w1.heap.size w1 W → W.cell? ⟨lb, 0, none⟩ = some v1 ∧ W.cell? ⟨lb, 1, none⟩ = some v2 ∧ W.cell? ⟨w.heap.size, 3, none⟩ = some (.int .i64 kd) ∧ W.cell? ⟨w.heap.size, 4, none⟩ = some (.int .i64 fn) ∧ W.cell? ⟨w.heap.size, 5, none⟩ = some (.int .i64 line) ∧ W.cell? ⟨w.heap.size, 6, none⟩ = some (.string sn)) := hide (fun W hb => ⟨cell_below hb (unhide H1).c0, cell_below hb (unhide H1).c1, cell_below hb (unhide A1).a3, cell_below hb (unhide A1).a4, cell_below hb (unhide A1).a5, cell_below hb (unhide A1).a6⟩)
  have HC3 : Hid (∀ W, Below w1.heap.size w1 W → W.cell? ⟨lb, 3, none⟩ = some (.slice ha ns hc)) := hide (fun W hb => cell_below hb (unhide H1).c3)
  go_upto_region 10 with fail
  clear c3 a0
  refine wp_region_held_drew (S := fun W => W.cell? ⟨lb, 0, none⟩ = some v1 ∧ W.cell? ⟨lb, 1, none⟩ = some v2 ∧ W.cell? ⟨w.heap.size, 3, none⟩ = some (.int .i64 kd) ∧ W.cell? ⟨w.heap.size, 4, none⟩ = some (.int .i64 fn) ∧ W.cell? ⟨w.heap.size, 5, none⟩ = some (.int .i64 line) ∧ W.cell? ⟨w.heap.size, 6, none⟩ = some (.string sn)) (by kernel_rfl) (unhide HSS _ (Below.refl _ _).drew) (fun hHeld => ?_)
  refine takeAt 0 (some 32) (v := ?v0a) (by decide) rfl (by kernel_rfl) (by kernel_rfl) (by kernel_rfl) (fun _ _ _ h => h) (by rfl) ?hy0a hHeld ?r0a
  case hy0a => (intro wx hSw; obtain ⟨s0, s1, s2, s3, s4, s5⟩ := hSw; go_simp; with_reducible rfl)
  simp only [Act.put, List.setIfInBounds_toArray, List.set_cons_zero, List.set_cons_succ]
  refine takeAt 1 (some 33) (v := ?v1a) (by decide) rfl (by kernel_rfl) (by kernel_rfl) (by kernel_rfl) (fun _ _ _ h => h) (by rfl) ?hy1a hHeld ?r1a
  case hy1a => (intro wx hSw; obtain ⟨s0, s1, s2, s3, s4, s5⟩ := hSw; go_simp; with_reducible rfl)
  simp only [Act.put, List.setIfInBounds_toArray, List.set_cons_zero, List.set_cons_succ]
  refine takeAt 2 (some 34) (v := ?v2a) (by decide) rfl (by kernel_rfl) (by kernel_rfl) (by kernel_rfl) (fun _ _ _ h => h) (by rfl) ?hy2a hHeld ?r2a
  case hy2a => (intro wx hSw; obtain ⟨s0, s1, s2, s3, s4, s5⟩ := hSw; go_simp; with_reducible rfl)
  simp only [Act.put, List.setIfInBounds_toArray, List.set_cons_zero, List.set_cons_succ]
  refine takeAt 3 (some 35) (v := ?v3a) (by decide) rfl (by kernel_rfl) (by kernel_rfl) (by kernel_rfl) (fun _ _ _ h => h) (by rfl) ?hy3a hHeld ?r3a
  case hy3a => (intro wx hSw; obtain ⟨s0, s1, s2, s3, s4, s5⟩ := hSw; go_simp; with_reducible rfl)
  simp only [Act.put, List.setIfInBounds_toArray, List.set_cons_zero, List.set_cons_succ]
  refine takeAt 5 (some 37) (v := ?v5a) (by decide) rfl (by kernel_rfl) (by kernel_rfl) (by kernel_rfl) (fun _ _ _ h => h) (by rfl) ?hy5a hHeld ?r5a
  case hy5a => (intro wx hSw; obtain ⟨s0, s1, s2, s3, s4, s5⟩ := hSw; go_simp; with_reducible rfl)
  simp only [Act.put, List.setIfInBounds_toArray, List.set_cons_zero, List.set_cons_succ]
  refine takeAt 6 (some 38) (v := ?v6a) (by decide) rfl (by kernel_rfl) (by kernel_rfl) (by kernel_rfl) (fun _ _ _ h => h) (by rfl) ?hy6a hHeld ?r6a
  case hy6a => (intro wx hSw; obtain ⟨s0, s1, s2, s3, s4, s5⟩ := hSw; go_simp; with_reducible rfl)
  simp only [Act.put, List.setIfInBounds_toArray, List.set_cons_zero, List.set_cons_succ]
  refine takeAt 7 (some 39) (v := ?v7a) (by decide) rfl (by kernel_rfl) (by kernel_rfl) (by kernel_rfl) (fun _ _ _ h => h) (by rfl) ?hy7a hHeld ?r7a
  case hy7a => (intro wx hSw; obtain ⟨s0, s1, s2, s3, s4, s5⟩ := hSw; go_simp; with_reducible rfl)
  simp only [Act.put, List.setIfInBounds_toArray, List.set_cons_zero, List.set_cons_succ]
  refine takeAt 8 (some 40) (v := ?v8a) (by decide) rfl (by kernel_rfl) (by kernel_rfl) (by kernel_rfl) (fun _ _ _ h => h) (by rfl) ?hy8a hHeld ?r8a
  case hy8a => (intro wx hSw; obtain ⟨s0, s1, s2, s3, s4, s5⟩ := hSw; go_simp; with_reducible rfl)
  simp only [Act.put, List.setIfInBounds_toArray, List.set_cons_zero, List.set_cons_succ]
  refine takeAt 9 (some 41) (v := ?v9a) (by decide) rfl (by kernel_rfl) (by kernel_rfl) (by kernel_rfl) (fun _ _ _ h => h) (by rfl) ?hy9a hHeld ?r9a
  case hy9a => (intro wx hSw; obtain ⟨s0, s1, s2, s3, s4, s5⟩ := hSw; go_simp; with_reducible rfl)
  simp only [Act.put, List.setIfInBounds_toArray, List.set_cons_zero, List.set_cons_succ]
  refine takeAt 10 (some 42) (v := ?v10a) (by decide) rfl (by kernel_rfl) (by kernel_rfl) (by kernel_rfl) (fun _ _ _ h => h) (by rfl) ?hy10a hHeld ?r10a
  case hy10a => (intro wx hSw; obtain ⟨s0, s1, s2, s3, s4, s5⟩ := hSw; go_simp; with_reducible rfl)
  simp only [Act.put, List.setIfInBounds_toArray, List.set_cons_zero, List.set_cons_succ]
  have HB0 := hide ((Below.refl w1.heap.size w1).drew)
  refine wpAnyH_ready (rs := [4, 11]) (by kernel_rfl) (by simp) ?_
  refine AllReadyH.cons rfl (fun KK hK => ?_) (AllReadyH.cons rfl (fun KK hK => ?_) AllReadyH.nil)
  · have q3 := unhide HC3 _ (unhide HB0)
    go_simp
    refine hK.out _ _ (unhide HSS _ (unhide HB0)) (fun hHeld => ?_)
    clear hK KK q3
    try simp only [Act.put, List.setIfInBounds_toArray, List.getElem_toArray, List.getElem_cons_succ, List.getElem_cons_zero, List.set_cons_zero, List.set_cons_succ]
    refine wpAnyH_ready (rs := [11]) (by kernel_rfl) (by simp) ?_
    refine AllReadyH.cons rfl (fun KK hK => ?_) AllReadyH.nil
    go_simp
    refine (l3hits_any lo _ _ nf fns n f ⟨kd, fn, line, sn⟩ _ ((unhide H2 _ ((unhide HB1).mono hB)).below (unhide HB0)) (unhide HS)).mono ?_
    rintro e w2 ⟨⟨b1, rfl, hbo, hb1⟩, hbx⟩
    have hb2 : Below w1.heap.size w1 w2 := (unhide HB0).trans hbx
    have HB2 := hide hb2
    have HN1 := hide hbo
    have HB3 : Hid (Below w1.heap.size w1 (w2.alloc (.cells #[.slice (some ⟨b1, 0, none⟩) n n] 157))) := hide (hb2.trans ((below_new w2 _).mono hb2.size))
    refine hK.out _ _ (unhide HSS _ hb2) (fun hHeld => ?_)
    clear hK KK hb2 hbo hb1 hbx
    try simp only [Act.put, List.setIfInBounds_toArray, List.getElem_toArray, List.getElem_cons_succ, List.getElem_cons_zero, List.set_cons_zero, List.set_cons_succ]
    refine wpAnyH_ready (rs := [12]) (by kernel_rfl) (by simp) ?_
    refine AllReadyH.cons rfl (fun KK hK => ?_) AllReadyH.nil
    go_simp
    refine hK.out _ _ (unhide HSS _ (unhide HB3)) (fun hHeld => ?_)
    clear hK KK
    try simp only [Act.put, List.setIfInBounds_toArray, List.getElem_toArray, List.getElem_cons_succ, List.getElem_cons_zero, List.set_cons_zero, List.set_cons_succ]
    have hrw := owns_below (unhide HROW) (unhide HB3)
    refine wpAnyH_ready (rs := [13]) (by kernel_rfl) (by simp) ?_
    refine AllReadyH.cons rfl (fun KK hK => ?_) AllReadyH.nil
    refine step_append_lies _ (by rfl) _ _ _ (by rfl) B 157 i0 _ 1 24 Tryz.underlying79 (unhide II).1 (unhide II).2.1 (unhide II).2.2.1 (unhide II).2.2.2 rfl (by omega) (.slice ha ns hc) ns _ (by rfl) hrw
      ⟨w2.heap.size, 0, none⟩ 1 1 [.slice (some ⟨b1, 0, none⟩) n n] (by rfl) (by rfl) (World.news_of_block (cs := #[.slice (some ⟨b1, 0, none⟩) n n]) (t := 157) (fr := (0, 0)) (heap_alloc_new w2 _)) (by simp [Value.oneCell'])
      (by omega) (by unfold maxLen; omega) (by omega) (by have := (unhide HB3).size; have := (unhide HB1).size; omega) _ rfl ?_
    intro g2 cp2 w7 hown hgrow _ _
    obtain ⟨hq, hpa, hs1, hs2, hbl⟩ := (unhide H1).grownHits (unhide HB3) hgrow (Nat.le_trans hB (unhide HB1).size)
    have HL : Hid (SL B (w7.setCell ⟨lb, 3, none⟩ (.slice (some ⟨g2, 0, none⟩) (ns + 1) cp2)) lb v1 v2 n f ⟨s.at_, s.stops ++ [⟨kd, fn, line, sn⟩], s.past⟩ (.slice (some ⟨g2, 0, none⟩) (ns + 1) cp2) pv) := hide (by
      have hs7 : Same (fun t => t ≠ 82) w7 (w7.setCell ⟨lb, 3, none⟩ (.slice (some ⟨g2, 0, none⟩) (ns + 1) cp2)) := Same.set hq (fun q => q rfl)
      have hh : HitsAt B w7 (.slice (some ⟨g2, 0, none⟩) (ns + 1) cp2) (ns + 1) n f (LS.ss ⟨s.at_, s.stops ++ [⟨kd, fn, line, sn⟩], s.past⟩) := HitsAt.snoc hown (fun i hi => (((unhide HBO) i hi).below (unhide HB3)).same hs1 (by decide)) (((unhide HN1).below (below_new w2 _)).same hs1 (by decide)) (fun i hi => ss_snoc.1 i (by rw [← unhide HNS]; exact hi)) (by have := (ss_snoc (s := s) (st := ⟨kd, fn, line, sn⟩)).2; rw [← unhide HNS] at this; exact this)
      have el : (s.stops ++ [(⟨kd, fn, line, sn⟩ : Sp)]).length = ns + 1 := by rw [List.length_append, ← unhide HNS]; rfl
      exact ⟨by simp [World.setCell, Array.getElem?_modify, hq], by rw [el]; exact hh.same hs7 (by decide) (by decide), owns_same hpa hs7 (by decide), (unhide H).lbB⟩)
    have HQ := hide hq
    have HSA : Hid (Same KindL w1 (w7.setCell ⟨lb, 3, none⟩ (.slice (some ⟨g2, 0, none⟩) (ns + 1) cp2))) := hide (hs2.trans (Same.set hq KindL.no))
    have HBL : Hid (Below B w1 (w7.setCell ⟨lb, 3, none⟩ (.slice (some ⟨g2, 0, none⟩) (ns + 1) cp2))) := hide (hbl.setCell (p := ⟨lb, 3, none⟩) (unhide H).lbB _)
    have A7 := hide ((unhide A1).same hs2)
    have A8 := hide ((unhide A1).same (unhide HSA))
    clear hown hgrow hq hpa hs1 hs2 hbl hrw
    have k0 : w7.cell? ⟨lb, 0, none⟩ = some v1 := by rw [cell_of_row w7 _ 0 _ _ _ (unhide HQ)]; rfl
    have k1 : w7.cell? ⟨lb, 1, none⟩ = some v2 := by rw [cell_of_row w7 _ 1 _ _ _ (unhide HQ)]; rfl
    have k3 : w7.cell? ⟨lb, 3, none⟩ = some (.slice ha ns hc) := by rw [cell_of_row w7 _ 3 _ _ _ (unhide HQ)]; rfl
    have f3 : w7.frozen? ⟨lb, 3, none⟩ = false := frozen_of_row _ _ _ _ _ (unhide HQ)
    refine hK.out _ _ ⟨k0, k1, (unhide A7).a3, (unhide A7).a4, (unhide A7).a5, (unhide A7).a6⟩ (fun hHeld => ?_)
    clear hK KK
    try simp only [Act.put, List.setIfInBounds_toArray, List.getElem_toArray, List.getElem_cons_succ, List.getElem_cons_zero, List.set_cons_zero, List.set_cons_succ]
    refine takeAt 14 (some 46) (v := ?v14b) (by decide) rfl (by kernel_rfl) (by kernel_rfl) (by kernel_rfl) (fun _ _ _ h => h) (by rfl) ?hy14b hHeld ?r14b
    case hy14b => (intro wx hSw; obtain ⟨s0, s1, s2, s3, s4, s5⟩ := hSw; go_simp; with_reducible rfl)
    simp only [Act.put, List.setIfInBounds_toArray, List.set_cons_zero, List.set_cons_succ]
    refine takeAt 15 (some 47) (v := ?v15b) (by decide) rfl (by kernel_rfl) (by kernel_rfl) (by kernel_rfl) (fun _ _ _ h => h) (by rfl) ?hy15b hHeld ?r15b
    case hy15b => (intro wx hSw; obtain ⟨s0, s1, s2, s3, s4, s5⟩ := hSw; go_simp; with_reducible rfl)
    simp only [Act.put, List.setIfInBounds_toArray, List.set_cons_zero, List.set_cons_succ]
    refine wpAnyH_ready (rs := [16]) (by kernel_rfl) (by simp) ?_
    refine AllReadyH.cons rfl (fun KK hK => ?_) AllReadyH.nil
    go_simp
    have d3 := (unhide HL).c3
    refine hK.out _ _ ⟨(unhide HL).c0, (unhide HL).c1, (unhide A8).a3, (unhide A8).a4, (unhide A8).a5, (unhide A8).a6⟩ (fun hHeld => ?_)
    clear hK KK hHeld k0 k1 k3 f3
    try simp only [Act.put, List.setIfInBounds_toArray, List.getElem_toArray, List.getElem_cons_succ, List.getElem_cons_zero, List.set_cons_zero, List.set_cons_succ]
    refine wpAnyH_done (by kernel_rfl) ?_ _
    obtain ⟨W8, hW8⟩ : ∃ W8, W8 = w7.setCell ⟨lb, 3, none⟩ (.slice (some ⟨g2, 0, none⟩) (ns + 1) cp2) := ⟨_, rfl⟩
    rw [← hW8] at HL HSA HBL A8 d3 ⊢
    clear hW8 HQ A7
    have wn : IntKind.i64.wrap (((ns + 1 : Nat) : Int) - 1) = (ns : Int) := by rw [IntKind.wrap_i64]; omega
    obtain ⟨⟨r0, r1, r2, r3, r4, r5⟩, x0, x1, x2, x3, x4, x5⟩ := (unhide A8).rc
    obtain ⟨⟨o0, o1, o2, o3, o4, o5⟩, ofz⟩ := (unhide A8).oc
    have y1 := ofz 1
    have y2 := ofz 2
    have y3 := ofz 3
    have y4 := ofz 4
    have y5 := ofz 5
    clear ofz
    have hne : w.heap.size + 1 + 1 ≠ w.heap.size + 1 := by omega
    have hne' : w.heap.size + 1 ≠ w.heap.size + 1 + 1 := by omega
    go_wp2
    refine bodyPost_ret (v := .agg #[.int .i64 0, .int .i64 0, .int .i64 (ns : Int), .string ⟨#[]⟩, .slice none 0 0, .slice none 0 0]) (by simp [results, Tryz.results38, go_sem, r0, r1, r2, r3, r4, r5]) rfl ?_
    exact sask_end (AskIs.stop (unhide HO) rfl (by rw [← unhide HNS]; exact h50)) rfl (by rw [unhide HNS]) rfl ((unhide HL).told (unhide A8) 2 (.int .i64 (ns : Int))) ((unhide A8).set2 (ns : Int)) (frs_nil _ _) (VsAt.nil _ _) ((((unhide HB1).mono hB).trans (unhide HBL)).setCell (p := ⟨w.heap.size + 1 + 1, 2, none⟩) (show B ≤ w.heap.size + 1 + 1 by omega) _) (((Same.of_below (unhide HB1)).trans (unhide HSA)).far (by omega)) hB
  · go_simp
    refine (l3hits_any lo _ _ nf fns n f ⟨kd, fn, line, sn⟩ _ ((unhide H2 _ ((unhide HB1).mono hB)).below (unhide HB0)) (unhide HS)).mono ?_
    rintro e w2 ⟨⟨b1, rfl, hbo, hb1⟩, hbx⟩
    have hb2 : Below w1.heap.size w1 w2 := (unhide HB0).trans hbx
    have HB2 := hide hb2
    have HN1 := hide hbo
    have HB3 : Hid (Below w1.heap.size w1 (w2.alloc (.cells #[.slice (some ⟨b1, 0, none⟩) n n] 157))) := hide (hb2.trans ((below_new w2 _).mono hb2.size))
    refine hK.out _ _ (unhide HSS _ hb2) (fun hHeld => ?_)
    clear hK KK hb2 hbo hb1 hbx
    try simp only [Act.put, List.setIfInBounds_toArray, List.getElem_toArray, List.getElem_cons_succ, List.getElem_cons_zero, List.set_cons_zero, List.set_cons_succ]
    refine wpAnyH_ready (rs := [4, 12]) (by kernel_rfl) (by simp) ?_
    refine AllReadyH.cons rfl (fun KK hK => ?_) (AllReadyH.cons rfl (fun KK hK => ?_) AllReadyH.nil)
    · have q3 := unhide HC3 _ (unhide HB2)
      go_simp
      refine hK.out _ _ (unhide HSS _ (unhide HB2)) (fun hHeld => ?_)
      clear hK KK q3
      try simp only [Act.put, List.setIfInBounds_toArray, List.getElem_toArray, List.getElem_cons_succ, List.getElem_cons_zero, List.set_cons_zero, List.set_cons_succ]
      refine wpAnyH_ready (rs := [12]) (by kernel_rfl) (by simp) ?_
      refine AllReadyH.cons rfl (fun KK hK => ?_) AllReadyH.nil
      go_simp
      refine hK.out _ _ (unhide HSS _ (unhide HB3)) (fun hHeld => ?_)
      clear hK KK
      try simp only [Act.put, List.setIfInBounds_toArray, List.getElem_toArray, List.getElem_cons_succ, List.getElem_cons_zero, List.set_cons_zero, List.set_cons_succ]
      have hrw := owns_below (unhide HROW) (unhide HB3)
      refine wpAnyH_ready (rs := [13]) (by kernel_rfl) (by simp) ?_
      refine AllReadyH.cons rfl (fun KK hK => ?_) AllReadyH.nil
      refine step_append_lies _ (by rfl) _ _ _ (by rfl) B 157 i0 _ 1 24 Tryz.underlying79 (unhide II).1 (unhide II).2.1 (unhide II).2.2.1 (unhide II).2.2.2 rfl (by omega) (.slice ha ns hc) ns _ (by rfl) hrw
        ⟨w2.heap.size, 0, none⟩ 1 1 [.slice (some ⟨b1, 0, none⟩) n n] (by rfl) (by rfl) (World.news_of_block (cs := #[.slice (some ⟨b1, 0, none⟩) n n]) (t := 157) (fr := (0, 0)) (heap_alloc_new w2 _)) (by simp [Value.oneCell'])
        (by omega) (by unfold maxLen; omega) (by omega) (by have := (unhide HB3).size; have := (unhide HB1).size; omega) _ rfl ?_
      intro g2 cp2 w7 hown hgrow _ _
      obtain ⟨hq, hpa, hs1, hs2, hbl⟩ := (unhide H1).grownHits (unhide HB3) hgrow (Nat.le_trans hB (unhide HB1).size)
      have HL : Hid (SL B (w7.setCell ⟨lb, 3, none⟩ (.slice (some ⟨g2, 0, none⟩) (ns + 1) cp2)) lb v1 v2 n f ⟨s.at_, s.stops ++ [⟨kd, fn, line, sn⟩], s.past⟩ (.slice (some ⟨g2, 0, none⟩) (ns + 1) cp2) pv) := hide (by
        have hs7 : Same (fun t => t ≠ 82) w7 (w7.setCell ⟨lb, 3, none⟩ (.slice (some ⟨g2, 0, none⟩) (ns + 1) cp2)) := Same.set hq (fun q => q rfl)
        have hh : HitsAt B w7 (.slice (some ⟨g2, 0, none⟩) (ns + 1) cp2) (ns + 1) n f (LS.ss ⟨s.at_, s.stops ++ [⟨kd, fn, line, sn⟩], s.past⟩) := HitsAt.snoc hown (fun i hi => (((unhide HBO) i hi).below (unhide HB3)).same hs1 (by decide)) (((unhide HN1).below (below_new w2 _)).same hs1 (by decide)) (fun i hi => ss_snoc.1 i (by rw [← unhide HNS]; exact hi)) (by have := (ss_snoc (s := s) (st := ⟨kd, fn, line, sn⟩)).2; rw [← unhide HNS] at this; exact this)
        have el : (s.stops ++ [(⟨kd, fn, line, sn⟩ : Sp)]).length = ns + 1 := by rw [List.length_append, ← unhide HNS]; rfl
        exact ⟨by simp [World.setCell, Array.getElem?_modify, hq], by rw [el]; exact hh.same hs7 (by decide) (by decide), owns_same hpa hs7 (by decide), (unhide H).lbB⟩)
      have HQ := hide hq
      have HSA : Hid (Same KindL w1 (w7.setCell ⟨lb, 3, none⟩ (.slice (some ⟨g2, 0, none⟩) (ns + 1) cp2))) := hide (hs2.trans (Same.set hq KindL.no))
      have HBL : Hid (Below B w1 (w7.setCell ⟨lb, 3, none⟩ (.slice (some ⟨g2, 0, none⟩) (ns + 1) cp2))) := hide (hbl.setCell (p := ⟨lb, 3, none⟩) (unhide H).lbB _)
      have A7 := hide ((unhide A1).same hs2)
      have A8 := hide ((unhide A1).same (unhide HSA))
      clear hown hgrow hq hpa hs1 hs2 hbl hrw
      have k0 : w7.cell? ⟨lb, 0, none⟩ = some v1 := by rw [cell_of_row w7 _ 0 _ _ _ (unhide HQ)]; rfl
      have k1 : w7.cell? ⟨lb, 1, none⟩ = some v2 := by rw [cell_of_row w7 _ 1 _ _ _ (unhide HQ)]; rfl
      have k3 : w7.cell? ⟨lb, 3, none⟩ = some (.slice ha ns hc) := by rw [cell_of_row w7 _ 3 _ _ _ (unhide HQ)]; rfl
      have f3 : w7.frozen? ⟨lb, 3, none⟩ = false := frozen_of_row _ _ _ _ _ (unhide HQ)
      refine hK.out _ _ ⟨k0, k1, (unhide A7).a3, (unhide A7).a4, (unhide A7).a5, (unhide A7).a6⟩ (fun hHeld => ?_)
      clear hK KK
      try simp only [Act.put, List.setIfInBounds_toArray, List.getElem_toArray, List.getElem_cons_succ, List.getElem_cons_zero, List.set_cons_zero, List.set_cons_succ]
      refine takeAt 14 (some 46) (v := ?v14c) (by decide) rfl (by kernel_rfl) (by kernel_rfl) (by kernel_rfl) (fun _ _ _ h => h) (by rfl) ?hy14c hHeld ?r14c
      case hy14c => (intro wx hSw; obtain ⟨s0, s1, s2, s3, s4, s5⟩ := hSw; go_simp; with_reducible rfl)
      simp only [Act.put, List.setIfInBounds_toArray, List.set_cons_zero, List.set_cons_succ]
      refine takeAt 15 (some 47) (v := ?v15c) (by decide) rfl (by kernel_rfl) (by kernel_rfl) (by kernel_rfl) (fun _ _ _ h => h) (by rfl) ?hy15c hHeld ?r15c
      case hy15c => (intro wx hSw; obtain ⟨s0, s1, s2, s3, s4, s5⟩ := hSw; go_simp; with_reducible rfl)
      simp only [Act.put, List.setIfInBounds_toArray, List.set_cons_zero, List.set_cons_succ]
      refine wpAnyH_ready (rs := [16]) (by kernel_rfl) (by simp) ?_
      refine AllReadyH.cons rfl (fun KK hK => ?_) AllReadyH.nil
      go_simp
      have d3 := (unhide HL).c3
      refine hK.out _ _ ⟨(unhide HL).c0, (unhide HL).c1, (unhide A8).a3, (unhide A8).a4, (unhide A8).a5, (unhide A8).a6⟩ (fun hHeld => ?_)
      clear hK KK hHeld k0 k1 k3 f3
      try simp only [Act.put, List.setIfInBounds_toArray, List.getElem_toArray, List.getElem_cons_succ, List.getElem_cons_zero, List.set_cons_zero, List.set_cons_succ]
      refine wpAnyH_done (by kernel_rfl) ?_ _
      obtain ⟨W8, hW8⟩ : ∃ W8, W8 = w7.setCell ⟨lb, 3, none⟩ (.slice (some ⟨g2, 0, none⟩) (ns + 1) cp2) := ⟨_, rfl⟩
      rw [← hW8] at HL HSA HBL A8 d3 ⊢
      clear hW8 HQ A7
      have wn : IntKind.i64.wrap (((ns + 1 : Nat) : Int) - 1) = (ns : Int) := by rw [IntKind.wrap_i64]; omega
      obtain ⟨⟨r0, r1, r2, r3, r4, r5⟩, x0, x1, x2, x3, x4, x5⟩ := (unhide A8).rc
      obtain ⟨⟨o0, o1, o2, o3, o4, o5⟩, ofz⟩ := (unhide A8).oc
      have y1 := ofz 1
      have y2 := ofz 2
      have y3 := ofz 3
      have y4 := ofz 4
      have y5 := ofz 5
      clear ofz
      have hne : w.heap.size + 1 + 1 ≠ w.heap.size + 1 := by omega
      have hne' : w.heap.size + 1 ≠ w.heap.size + 1 + 1 := by omega
      go_wp2
      refine bodyPost_ret (v := .agg #[.int .i64 0, .int .i64 0, .int .i64 (ns : Int), .string ⟨#[]⟩, .slice none 0 0, .slice none 0 0]) (by simp [results, Tryz.results38, go_sem, r0, r1, r2, r3, r4, r5]) rfl ?_
      exact sask_end (AskIs.stop (unhide HO) rfl (by rw [← unhide HNS]; exact h50)) rfl (by rw [unhide HNS]) rfl ((unhide HL).told (unhide A8) 2 (.int .i64 (ns : Int))) ((unhide A8).set2 (ns : Int)) (frs_nil _ _) (VsAt.nil _ _) ((((unhide HB1).mono hB).trans (unhide HBL)).setCell (p := ⟨w.heap.size + 1 + 1, 2, none⟩) (show B ≤ w.heap.size + 1 + 1 by omega) _) (((Same.of_below (unhide HB1)).trans (unhide HSA)).far (by omega)) hB
    · go_simp
      refine hK.out _ _ (unhide HSS _ (unhide HB3)) (fun hHeld => ?_)
      clear hK KK
      try simp only [Act.put, List.setIfInBounds_toArray, List.getElem_toArray, List.getElem_cons_succ, List.getElem_cons_zero, List.set_cons_zero, List.set_cons_succ]
      refine wpAnyH_ready (rs := [4]) (by kernel_rfl) (by simp) ?_
      refine AllReadyH.cons rfl (fun KK hK => ?_) AllReadyH.nil
      have q3 := unhide HC3 _ (unhide HB3)
      go_simp
      refine hK.out _ _ (unhide HSS _ (unhide HB3)) (fun hHeld => ?_)
      clear hK KK q3
      try simp only [Act.put, List.setIfInBounds_toArray, List.getElem_toArray, List.getElem_cons_succ, List.getElem_cons_zero, List.set_cons_zero, List.set_cons_succ]
      have hrw := owns_below (unhide HROW) (unhide HB3)
      refine wpAnyH_ready (rs := [13]) (by kernel_rfl) (by simp) ?_
      refine AllReadyH.cons rfl (fun KK hK => ?_) AllReadyH.nil
      refine step_append_lies _ (by rfl) _ _ _ (by rfl) B 157 i0 _ 1 24 Tryz.underlying79 (unhide II).1 (unhide II).2.1 (unhide II).2.2.1 (unhide II).2.2.2 rfl (by omega) (.slice ha ns hc) ns _ (by rfl) hrw
        ⟨w2.heap.size, 0, none⟩ 1 1 [.slice (some ⟨b1, 0, none⟩) n n] (by rfl) (by rfl) (World.news_of_block (cs := #[.slice (some ⟨b1, 0, none⟩) n n]) (t := 157) (fr := (0, 0)) (heap_alloc_new w2 _)) (by simp [Value.oneCell'])
        (by omega) (by unfold maxLen; omega) (by omega) (by have := (unhide HB3).size; have := (unhide HB1).size; omega) _ rfl ?_
      intro g2 cp2 w7 hown hgrow _ _
      obtain ⟨hq, hpa, hs1, hs2, hbl⟩ := (unhide H1).grownHits (unhide HB3) hgrow (Nat.le_trans hB (unhide HB1).size)
      have HL : Hid (SL B (w7.setCell ⟨lb, 3, none⟩ (.slice (some ⟨g2, 0, none⟩) (ns + 1) cp2)) lb v1 v2 n f ⟨s.at_, s.stops ++ [⟨kd, fn, line, sn⟩], s.past⟩ (.slice (some ⟨g2, 0, none⟩) (ns + 1) cp2) pv) := hide (by
        have hs7 : Same (fun t => t ≠ 82) w7 (w7.setCell ⟨lb, 3, none⟩ (.slice (some ⟨g2, 0, none⟩) (ns + 1) cp2)) := Same.set hq (fun q => q rfl)
        have hh : HitsAt B w7 (.slice (some ⟨g2, 0, none⟩) (ns + 1) cp2) (ns + 1) n f (LS.ss ⟨s.at_, s.stops ++ [⟨kd, fn, line, sn⟩], s.past⟩) := HitsAt.snoc hown (fun i hi => (((unhide HBO) i hi).below (unhide HB3)).same hs1 (by decide)) (((unhide HN1).below (below_new w2 _)).same hs1 (by decide)) (fun i hi => ss_snoc.1 i (by rw [← unhide HNS]; exact hi)) (by have := (ss_snoc (s := s) (st := ⟨kd, fn, line, sn⟩)).2; rw [← unhide HNS] at this; exact this)
        have el : (s.stops ++ [(⟨kd, fn, line, sn⟩ : Sp)]).length = ns + 1 := by rw [List.length_append, ← unhide HNS]; rfl
        exact ⟨by simp [World.setCell, Array.getElem?_modify, hq], by rw [el]; exact hh.same hs7 (by decide) (by decide), owns_same hpa hs7 (by decide), (unhide H).lbB⟩)
      have HQ := hide hq
      have HSA : Hid (Same KindL w1 (w7.setCell ⟨lb, 3, none⟩ (.slice (some ⟨g2, 0, none⟩) (ns + 1) cp2))) := hide (hs2.trans (Same.set hq KindL.no))
      have HBL : Hid (Below B w1 (w7.setCell ⟨lb, 3, none⟩ (.slice (some ⟨g2, 0, none⟩) (ns + 1) cp2))) := hide (hbl.setCell (p := ⟨lb, 3, none⟩) (unhide H).lbB _)
      have A7 := hide ((unhide A1).same hs2)
      have A8 := hide ((unhide A1).same (unhide HSA))
      clear hown hgrow hq hpa hs1 hs2 hbl hrw
      have k0 : w7.cell? ⟨lb, 0, none⟩ = some v1 := by rw [cell_of_row w7 _ 0 _ _ _ (unhide HQ)]; rfl
      have k1 : w7.cell? ⟨lb, 1, none⟩ = some v2 := by rw [cell_of_row w7 _ 1 _ _ _ (unhide HQ)]; rfl
      have k3 : w7.cell? ⟨lb, 3, none⟩ = some (.slice ha ns hc) := by rw [cell_of_row w7 _ 3 _ _ _ (unhide HQ)]; rfl
      have f3 : w7.frozen? ⟨lb, 3, none⟩ = false := frozen_of_row _ _ _ _ _ (unhide HQ)
      refine hK.out _ _ ⟨k0, k1, (unhide A7).a3, (unhide A7).a4, (unhide A7).a5, (unhide A7).a6⟩ (fun hHeld => ?_)
      clear hK KK
      try simp only [Act.put, List.setIfInBounds_toArray, List.getElem_toArray, List.getElem_cons_succ, List.getElem_cons_zero, List.set_cons_zero, List.set_cons_succ]
      refine takeAt 14 (some 46) (v := ?v14d) (by decide) rfl (by kernel_rfl) (by kernel_rfl) (by kernel_rfl) (fun _ _ _ h => h) (by rfl) ?hy14d hHeld ?r14d
      case hy14d => (intro wx hSw; obtain ⟨s0, s1, s2, s3, s4, s5⟩ := hSw; go_simp; with_reducible rfl)
      simp only [Act.put, List.setIfInBounds_toArray, List.set_cons_zero, List.set_cons_succ]
      refine takeAt 15 (some 47) (v := ?v15d) (by decide) rfl (by kernel_rfl) (by kernel_rfl) (by kernel_rfl) (fun _ _ _ h => h) (by rfl) ?hy15d hHeld ?r15d
      case hy15d => (intro wx hSw; obtain ⟨s0, s1, s2, s3, s4, s5⟩ := hSw; go_simp; with_reducible rfl)
      simp only [Act.put, List.setIfInBounds_toArray, List.set_cons_zero, List.set_cons_succ]
      refine wpAnyH_ready (rs := [16]) (by kernel_rfl) (by simp) ?_
      refine AllReadyH.cons rfl (fun KK hK => ?_) AllReadyH.nil
      go_simp
      have d3 := (unhide HL).c3
      refine hK.out _ _ ⟨(unhide HL).c0, (unhide HL).c1, (unhide A8).a3, (unhide A8).a4, (unhide A8).a5, (unhide A8).a6⟩ (fun hHeld => ?_)
      clear hK KK hHeld k0 k1 k3 f3
      try simp only [Act.put, List.setIfInBounds_toArray, List.getElem_toArray, List.getElem_cons_succ, List.getElem_cons_zero, List.set_cons_zero, List.set_cons_succ]
      refine wpAnyH_done (by kernel_rfl) ?_ _
      obtain ⟨W8, hW8⟩ : ∃ W8, W8 = w7.setCell ⟨lb, 3, none⟩ (.slice (some ⟨g2, 0, none⟩) (ns + 1) cp2) := ⟨_, rfl⟩
      rw [← hW8] at HL HSA HBL A8 d3 ⊢
      clear hW8 HQ A7
      have wn : IntKind.i64.wrap (((ns + 1 : Nat) : Int) - 1) = (ns : Int) := by rw [IntKind.wrap_i64]; omega
      obtain ⟨⟨r0, r1, r2, r3, r4, r5⟩, x0, x1, x2, x3, x4, x5⟩ := (unhide A8).rc
      obtain ⟨⟨o0, o1, o2, o3, o4, o5⟩, ofz⟩ := (unhide A8).oc
      have y1 := ofz 1
      have y2 := ofz 2
      have y3 := ofz 3
      have y4 := ofz 4
      have y5 := ofz 5
      clear ofz
      have hne : w.heap.size + 1 + 1 ≠ w.heap.size + 1 := by omega
      have hne' : w.heap.size + 1 ≠ w.heap.size + 1 + 1 := by omega
      go_wp2
      refine bodyPost_ret (v := .agg #[.int .i64 0, .int .i64 0, .int .i64 (ns : Int), .string ⟨#[]⟩, .slice none 0 0, .slice none 0 0]) (by simp [results, Tryz.results38, go_sem, r0, r1, r2, r3, r4, r5]) rfl ?_
      exact sask_end (AskIs.stop (unhide HO) rfl (by rw [← unhide HNS]; exact h50)) rfl (by rw [unhide HNS]) rfl ((unhide HL).told (unhide A8) 2 (.int .i64 (ns : Int))) ((unhide A8).set2 (ns : Int)) (frs_nil _ _) (VsAt.nil _ _) ((((unhide HB1).mono hB).trans (unhide HBL)).setCell (p := ⟨w.heap.size + 1 + 1, 2, none⟩) (show B ≤ w.heap.size + 1 + 1 by omega) _) (((Same.of_below (unhide HB1)).trans (unhide HSA)).far (by omega)) hB
end Go.Proofs.YtmnmeaeicjhkhaaGreatDoor
