import Derived.Test.YtoiacbdnkkolmabS7
namespace Go.Proofs.Ytoiacbdnkkolmab
open Go.RowKit

attribute [local go_sem ↓] Go.wp_at_zero Go.wp_at_succ

theorem cell_set_drew {w : World} {p q : Addr} {v u : Value} (hne : q.block ≠ p.block) (h : w.cell? p = some v) : (w.setCell q u).drew.cell? p = some v := cell_set_ne hne h

theorem owns_set {w : World} {B : Nat} {e : TypeId} {z g n cap : Nat} {xs : List Value} (h : w.ownsRow B e z (.slice (some ⟨g, 0, none⟩) n cap) n xs) (j : Nat) (u : Value) :
    (w.setCell ⟨g, j, none⟩ u).ownsRow B e z (.slice (some ⟨g, 0, none⟩) n cap) n (xs.set j u) := by
  refine ⟨by rw [List.length_set]; exact h.1, ?_⟩
  rcases h.2 with ⟨h, _⟩ | ⟨g', cap', cur, hv, hB, hg, h1, h2, h3, h4⟩
  · cases h
  · cases hv
    refine .inr ⟨g, cap, cur.setIfInBounds j u, rfl, hB, ?_, h1, h2, by simpa using h3, ?_⟩
    · simp [World.setCell, Array.getElem?_modify, hg]
    · rw [← h4, Array.toList_setIfInBounds, List.take_set]

theorem SpecCore.putLine {B : Nat} {w : World} {ps bt : Nat} {V : Nat → Value} {s : St} {f : Fr} {r : List Fr} {g cap : Nat} (h : SpecCore B w ps bt V s) (hs : s.tasks s.cur = f :: r) (hV : V s.cur = .slice (some ⟨g, 0, none⟩) (r.length + 1) cap) (l : Int) :
    SpecCore B (w.setCell ⟨g, r.length * 3 + 1, none⟩ (.int .i64 l)) ps bt V (s.put (⟨f.fn, l, f.frm⟩ :: r)) := by
  have hob : (V s.cur).ownBlock = some g := by rw [hV]; rfl
  have hgp : g ≠ ps := fun e => h.nps _ h.cur (by rw [hob, e])
  have hgt : g ≠ bt := fun e => h.nbt _ h.cur (by rw [hob, e])
  refine ⟨h.hp, h.hbt, h.ne, cell_set_ne hgp h.c0, cell_set_ne hgp h.c1, by rw [World.frozen?_setCell]; exact h.fz, h.row.setOther (fun e => hgt e.symm) _, fun t ht => ?_, h.nps, h.nbt, h.dis, h.cur, fun t ht => ?_⟩
  · show (w.setCell _ _).ownsRow B _ 3 (V t) (if t = s.cur then ⟨f.fn, l, f.frm⟩ :: r else s.tasks t).length (frCells (if t = s.cur then ⟨f.fn, l, f.frm⟩ :: r else s.tasks t).reverse)
    by_cases e : t = s.cur
    · rw [if_pos e, e, hV]
      have ho := h.own s.cur h.cur
      rw [hV, hs] at ho
      have h1 := owns_set ho (r.length * 3 + 1) (.int .i64 l)
      have e1 : frCells (f :: r).reverse = frCells r.reverse ++ [.int .i64 f.fn, .int .i64 f.line, .int .i64 f.frm] := by rw [List.reverse_cons, frCells_app]; rfl
      have e2 : frCells ((⟨f.fn, l, f.frm⟩ : Fr) :: r).reverse = frCells r.reverse ++ [.int .i64 f.fn, .int .i64 l, .int .i64 f.frm] := by rw [List.reverse_cons, frCells_app]; rfl
      have hl : (frCells r.reverse).length = r.length * 3 := by rw [frCells_len, List.length_reverse]
      rw [e1, List.set_append_right _ _ (by omega), hl, show r.length * 3 + 1 - r.length * 3 = 1 by omega] at h1
      rw [e2]
      exact h1
    · rw [if_neg e]
      refine owns_setCell (h.own t ht) (fun e' => ?_)
      rcases h.dis t s.cur ht h.cur e with h3 | h3
      · rw [h3] at e'; cases e'
      · exact h3 (by rw [e', hob])
  · show (if t = s.cur then ⟨f.fn, l, f.frm⟩ :: r else s.tasks t).length ≤ 200
    by_cases e : t = s.cur
    · rw [if_pos e]
      have := h.len s.cur h.cur
      rw [hs] at this
      exact this
    · rw [if_neg e]; exact h.len t ht

set_option maxRecDepth 100000 in
set_option maxHeartbeats 2000000 in
theorem move_line1 (B ps : Nat) (s : St) (k t fn l i : Int) (tx : ByteArray) (v : Value) (w : World) (h : SpecAt B w ps s) (ht : t = s.cur) (hk7 : (k == 7) = false) (hk2 : (k == 2) = false) (f : Fr) (r : List Fr) (hf : (fn != topFn (s.tasks s.cur)) = false) (hk1 : (k == 1) = true) (hs : s.tasks s.cur = f :: r) :
    Calls Try.prog 75 #[.pointer (some ⟨ps, 0, none⟩), .agg #[.int .i64 k, .int .i64 t, .int .i64 fn, .int .i64 l, .string tx, v], .int .i64 i] w (Moved B w ps s k t fn l i) := by
  subst ht
  have H := hide h
  have hB := h.base
  obtain ⟨bt, V, hh⟩ := h
  have KT := hide hh.kinds
  have HH := hide hh
  have hp := hh.hp
  have h0 := hh.c0
  have hc1 := hh.c1
  have hi2 := hh.cur
  have hi4 := hh.len _ hi2
  have HL := hide ((hh.own _ hi2).lt)
  have NE : Hid (bt ≠ ps ∧ bt ≠ w.heap.size) := ⟨Ne.symm hh.ne, by have := hh.row.lt; omega⟩
  have hbt := hh.hbt
  clear hh
  have hz := cell_lt h0
  simp only at hz
  have n7 : k ≠ 7 := by simpa using hk7
  have n2 : k ≠ 2 := by simpa using hk2
  have E3 : Hid (code s k (s.cur : Int) fn = 0 ∧ s.step k (s.cur : Int) fn l i = s.put (⟨f.fn, l, f.frm⟩ :: r)) := by
    have n1 : k = 1 := by simpa using hk1
    have : fn = topFn (s.tasks s.cur) := by simpa using hf
    refine hide ⟨?_, ?_⟩
    · simp [code, n1, this, hs]
    · simp [St.step, n1, hs, setLine]
  clear n7 n2
  have hne : ps ≠ w.heap.size := by omega
  go_enter Try.func75, Try.ntmps75
  go_wp2
  go_quiet (fail)
  go_wp2_with fail
  refine (top_any B ps s _ ((unhide H).below (by exact below_drewN ((Below.refl _ _).alloc (Nat.le_refl _) _) _))).mono ?_
  rintro e w1 ⟨rfl, q, hq⟩
  have hbx0 : w1.cell? ⟨w.heap.size, 0, none⟩ = some (.int .i64 k) := by rw [hq]; simp
  have hbx2 : w1.cell? ⟨w.heap.size, 2, none⟩ = some (.int .i64 fn) := by rw [hq]; simp
  have hbx3 : w1.cell? ⟨w.heap.size, 3, none⟩ = some (.int .i64 l) := by rw [hq]; simp
  have HB1 : Hid (Below w.heap.size w w1) := by rw [hq]; exact hide (below_drewN (below_drewN ((Below.refl _ _).alloc (Nat.le_refl _) _) _) _)
  clear hq h0 hc1
  have HF : Hid (∀ m, Calls Try.prog 116 #[.pointer (some ⟨ps, 0, none⟩)] (w1.drewN m) fun e w' => e = .returned (.int .i64 (topFn (s.tasks s.cur))) ∧ ∃ q', w' = (w1.drewN m).drewN q') :=
    hide fun m => fn_any B ps s _ (((unhide H).below (unhide HB1)).below (below_drewN' w1 m))
  have HC := hide ((unhide HH).grown (unhide HB1))
  have h0 := (unhide HC).c0
  have hc1 := (unhide HC).c1
  have ho := (unhide HC).own _ hi2
  rw [hs] at ho
  obtain ⟨g, cap, hV, hgB, hgl, k0, k1, k2, kf⟩ := owns_top ho
  have HCA := hide ho
  have hgp : g ≠ ps := fun e => (unhide HC).nps _ hi2 (by rw [hV, e]; rfl)
  have hgt : g ≠ bt := fun e => (unhide HC).nbt _ hi2 (by rw [hV, e]; rfl)
  have hgm : g ≠ w.heap.size := fun e => by have := (unhide HL g (by rw [hV]; rfl)).2; omega
  have hc := (unhide HC).row.cell hi2
  have hrf := (unhide HC).row.frozen s.cur
  rw [hV] at hc
  have hlen : (((s.tasks s.cur).length : Nat) : Int) - 1 = (r.length : Int) := by rw [hs]; simp
  have hr200 : r.length < 200 := by rw [hs] at hi4; simp at hi4; omega
  have hw1 := cell_lt hbx2
  simp only at hw1
  rw [hlen]
  have HLEN := hide hlen; clear hlen
  have HV := hide hV; clear hV
  have HS := hide hs; clear hs ho
  have NG := hide (And.intro hgp (And.intro hgt hgm)); clear hgp hgt hgm
  obtain ⟨n, hn⟩ : ∃ n, n = r.length := ⟨_, rfl⟩
  obtain ⟨c, hcc⟩ : ∃ c, c = s.cur := ⟨_, rfl⟩
  rw [← hn] at k0 k1 k2 kf hc hr200
  rw [← hn]
  rw [← hcc] at hi2 hc1 hc hrf
  have HN := hide hn; clear hn
  have HCC := hide hcc; clear hcc
  clear hi4
  go_wp2_with fail
  go_quiet ((go_at_call 116; exact Calls.quiet_of (unhide HF _)))
  generalize hw2 : w1.drewN _ = w2
  have HB2 : Hid (Below w1.heap.size w1 w2) := by rw [← hw2]; exact hide (below_drewN' _ _)
  have HC2 := hide ((unhide HC).grown (unhide HB2))
  have h0 := cell_below (unhide HB2) h0
  have hc1 := cell_below (unhide HB2) hc1
  have hbx0 := cell_below (unhide HB2) hbx0
  have hbx3 := cell_below (unhide HB2) hbx3
  have hcOld := hc
  have hc := cell_below (unhide HB2) hc
  have kf' : w2.frozen? ⟨g, n * 3 + 1, none⟩ = false := by rw [(unhide HB2).frozen (cell_lt k1)]; exact kf
  have hrf' : w2.frozen? ⟨bt, c, none⟩ = false := by rw [(unhide HB2).frozen (cell_lt hcOld)]; exact hrf
  have k1 := cell_below (unhide HB2) k1
  have k2 := cell_below (unhide HB2) k2
  clear hw2 HF hrf kf
  have hj1 : (0 : Int) ≤ (c : Int) := by omega
  have hj2 : (c : Int) < 101 := by omega
  have hj3 : (0 : Int) ≤ (n : Int) := by omega
  have hj4 : (n : Int) < (n : Int) + 1 := by omega
  go_wp2_with fail
  go_region_held3 (fun w' => w'.cell? ⟨ps, 0, none⟩ = some (.slice (some ⟨bt, 0, none⟩) 101 101) ∧ w'.cell? ⟨ps, 1, none⟩ = some (.int .i64 c) ∧ w'.cell? ⟨bt, c, none⟩ = some (.slice (some ⟨g, 0, none⟩) (n + 1) cap) ∧ w'.cell? ⟨w.heap.size, 3, none⟩ = some (.int .i64 l))
    (first | (exact ⟨h0, hc1, hc, hbx3⟩) | (exact ⟨cell_set_drew (unhide NG).1 h0, cell_set_drew (unhide NG).1 hc1, cell_set_drew (unhide NG).2.1 hc, cell_set_drew (unhide NG).2.2 hbx3⟩)) (fail)
  go_wp2
  go_ret
  refine ⟨by rw [(unhide E3).1]; rfl, fun _ => ?_, ?_, ?_⟩
  · rw [(unhide E3).2]
    have e := unhide HN
    subst e
    exact ⟨bt, V, ((unhide HC2).putLine (unhide HS) (unhide HV) l).grown (Below.refl _ _).drew⟩
  · exact ((((unhide HB1).mono hB).trans ((unhide HB2).mono (by omega))).setCell (p := ⟨g, n * 3 + 1, none⟩) hgB _).drew
  · refine Keeps.drew (Keeps.of_out (fun b => b = g) (fun b hb hx => ?_) (fun b hx => .inr (.inl ((unhide KT).2 s.cur (unhide HC2).cur b (by rw [unhide HV, hx]; rfl)))))
    rw [Below.heap_setCell _ _ _ _ hx]
    exact ((unhide HB1).trans ((unhide HB2).mono (unhide HB1).size)).block b hb

set_option maxRecDepth 100000 in
set_option maxHeartbeats 1000000 in
theorem move_back0 (B ps : Nat) (s : St) (k t fn l i : Int) (tx : ByteArray) (v : Value) (w : World) (h : SpecAt B w ps s) (ht : t = s.cur) (hk7 : (k == 7) = false) (hk2 : (k == 2) = false) (hf : (fn != topFn (s.tasks s.cur)) = false) (hk3 : (k == 3) = true) (hl : s.tasks s.cur = []) :
    Calls Try.prog 75 #[.pointer (some ⟨ps, 0, none⟩), .agg #[.int .i64 k, .int .i64 t, .int .i64 fn, .int .i64 l, .string tx, v], .int .i64 i] w (Moved B w ps s k t fn l i) := by
  subst ht
  have H := hide h
  have hB := h.base
  obtain ⟨bt, V, hh⟩ := h
  have HH := hide hh
  have hp := hh.hp
  have h0 := hh.c0
  have hc1 := hh.c1
  have hi2 := hh.cur
  have hi4 := hh.len _ hi2
  have HL := hide ((hh.own _ hi2).lt)
  have NE : Hid (bt ≠ ps ∧ bt ≠ w.heap.size) := ⟨Ne.symm hh.ne, by have := hh.row.lt; omega⟩
  have hbt := hh.hbt
  clear hh
  have hz := cell_lt h0
  simp only at hz
  have n7 : k ≠ 7 := by simpa using hk7
  have n2 : k ≠ 2 := by simpa using hk2
  have E3 : Hid (code s k (s.cur : Int) fn = 4) := by
    have n3 : k = 3 := by simpa using hk3
    have : fn = topFn (s.tasks s.cur) := by simpa using hf
    refine hide ?_
    simp [code, n3, this, hl, topFrom]
  have E4 : Hid ((s.tasks s.cur).length = 0) := by rw [hl]; exact hide rfl
  clear hl
  have hk1 : (k == 1) = false := by have : k = 3 := by simpa using hk3
                                    rw [this]; rfl
  clear n7 n2
  have hne : ps ≠ w.heap.size := by omega
  go_enter Try.func75, Try.ntmps75
  go_wp2
  go_quiet (fail)
  go_wp2_with fail
  refine (top_any B ps s _ ((unhide H).below (by exact below_drewN ((Below.refl _ _).alloc (Nat.le_refl _) _) _))).mono ?_
  rintro e w1 ⟨rfl, q, hq⟩
  have hbx0 : w1.cell? ⟨w.heap.size, 0, none⟩ = some (.int .i64 k) := by rw [hq]; simp
  have hbx2 : w1.cell? ⟨w.heap.size, 2, none⟩ = some (.int .i64 fn) := by rw [hq]; simp
  have hbx3 : w1.cell? ⟨w.heap.size, 3, none⟩ = some (.int .i64 l) := by rw [hq]; simp
  have HB1 : Hid (Below w.heap.size w w1) := by rw [hq]; exact hide (below_drewN (below_drewN ((Below.refl _ _).alloc (Nat.le_refl _) _) _) _)
  clear hq h0 hc1
  have HF : Hid (∀ m, Calls Try.prog 116 #[.pointer (some ⟨ps, 0, none⟩)] (w1.drewN m) fun e w' => e = .returned (.int .i64 (topFn (s.tasks s.cur))) ∧ ∃ q', w' = (w1.drewN m).drewN q') :=
    hide fun m => fn_any B ps s _ (((unhide H).below (unhide HB1)).below (below_drewN' w1 m))
  have HC := hide ((unhide HH).grown (unhide HB1))
  have h0 := (unhide HC).c0
  have hc1 := (unhide HC).c1
  have hw1 := cell_lt hbx2
  simp only at hw1
  go_wp2_with fail
  go_quiet ((go_at_call 116; exact Calls.quiet_of (unhide HF _)))
  rw [unhide E4]
  go_wp2
  go_quiet (fail)
  go_wp2
  go_ret
  refine ⟨by rw [unhide E3]; rfl, fun h => ?_, ?_, ?_⟩
  · rw [unhide E3] at h; cases h
  · exact below_drewN (below_drewN ((unhide HB1).mono hB) _) _
  · exact Keeps.of_below (below_drewN (below_drewN (unhide HB1) _) _)

set_option maxRecDepth 100000 in
set_option maxHeartbeats 2000000 in
theorem move_back1 (B ps : Nat) (s : St) (k t fn l i : Int) (tx : ByteArray) (v : Value) (w : World) (h : SpecAt B w ps s) (ht : t = s.cur) (hk7 : (k == 7) = false) (hk2 : (k == 2) = false) (f : Fr) (r : List Fr) (hf : (fn != topFn (s.tasks s.cur)) = false) (hk3 : (k == 3) = true) (hs : s.tasks s.cur = f :: r) (hfr : decide (f.frm < 0) = true) :
    Calls Try.prog 75 #[.pointer (some ⟨ps, 0, none⟩), .agg #[.int .i64 k, .int .i64 t, .int .i64 fn, .int .i64 l, .string tx, v], .int .i64 i] w (Moved B w ps s k t fn l i) := by
  subst ht
  have H := hide h
  have hB := h.base
  obtain ⟨bt, V, hh⟩ := h
  have HH := hide hh
  have hp := hh.hp
  have h0 := hh.c0
  have hc1 := hh.c1
  have hi2 := hh.cur
  have hi4 := hh.len _ hi2
  have HL := hide ((hh.own _ hi2).lt)
  have NE : Hid (bt ≠ ps ∧ bt ≠ w.heap.size) := ⟨Ne.symm hh.ne, by have := hh.row.lt; omega⟩
  have hbt := hh.hbt
  clear hh
  have hz := cell_lt h0
  simp only at hz
  have n7 : k ≠ 7 := by simpa using hk7
  have n2 : k ≠ 2 := by simpa using hk2
  have E3 : Hid (code s k (s.cur : Int) fn = 4) := by
    have n3 : k = 3 := by simpa using hk3
    have : fn = topFn (s.tasks s.cur) := by simpa using hf
    refine hide ?_
    simp [code, n3, this, hs, topFrom]
    simpa using hfr
  have hk1 : (k == 1) = false := by have : k = 3 := by simpa using hk3
                                    rw [this]; rfl
  clear n7 n2
  have hne : ps ≠ w.heap.size := by omega
  go_enter Try.func75, Try.ntmps75
  go_wp2
  go_quiet (fail)
  go_wp2_with fail
  refine (top_any B ps s _ ((unhide H).below (by exact below_drewN ((Below.refl _ _).alloc (Nat.le_refl _) _) _))).mono ?_
  rintro e w1 ⟨rfl, q, hq⟩
  have hbx0 : w1.cell? ⟨w.heap.size, 0, none⟩ = some (.int .i64 k) := by rw [hq]; simp
  have hbx2 : w1.cell? ⟨w.heap.size, 2, none⟩ = some (.int .i64 fn) := by rw [hq]; simp
  have hbx3 : w1.cell? ⟨w.heap.size, 3, none⟩ = some (.int .i64 l) := by rw [hq]; simp
  have HB1 : Hid (Below w.heap.size w w1) := by rw [hq]; exact hide (below_drewN (below_drewN ((Below.refl _ _).alloc (Nat.le_refl _) _) _) _)
  clear hq h0 hc1
  have HF : Hid (∀ m, Calls Try.prog 116 #[.pointer (some ⟨ps, 0, none⟩)] (w1.drewN m) fun e w' => e = .returned (.int .i64 (topFn (s.tasks s.cur))) ∧ ∃ q', w' = (w1.drewN m).drewN q') :=
    hide fun m => fn_any B ps s _ (((unhide H).below (unhide HB1)).below (below_drewN' w1 m))
  have HC := hide ((unhide HH).grown (unhide HB1))
  have h0 := (unhide HC).c0
  have hc1 := (unhide HC).c1
  have ho := (unhide HC).own _ hi2
  rw [hs] at ho
  obtain ⟨g, cap, hV, hgB, hgl, k0, k1, k2, kf⟩ := owns_top ho
  have HCA := hide ho
  have hgp : g ≠ ps := fun e => (unhide HC).nps _ hi2 (by rw [hV, e]; rfl)
  have hgt : g ≠ bt := fun e => (unhide HC).nbt _ hi2 (by rw [hV, e]; rfl)
  have hgm : g ≠ w.heap.size := fun e => by have := (unhide HL g (by rw [hV]; rfl)).2; omega
  have hc := (unhide HC).row.cell hi2
  have hrf := (unhide HC).row.frozen s.cur
  rw [hV] at hc
  have hlen : (((s.tasks s.cur).length : Nat) : Int) - 1 = (r.length : Int) := by rw [hs]; simp
  have hr200 : r.length < 200 := by rw [hs] at hi4; simp at hi4; omega
  have hw1 := cell_lt hbx2
  simp only at hw1
  rw [hlen]
  have HLEN := hide hlen; clear hlen
  have HV := hide hV; clear hV
  have HS := hide hs; clear hs ho
  have NG := hide (And.intro hgp (And.intro hgt hgm)); clear hgp hgt hgm
  obtain ⟨n, hn⟩ : ∃ n, n = r.length := ⟨_, rfl⟩
  obtain ⟨c, hcc⟩ : ∃ c, c = s.cur := ⟨_, rfl⟩
  rw [← hn] at k0 k1 k2 kf hc hr200
  rw [← hn]
  rw [← hcc] at hi2 hc1 hc hrf
  have HN := hide hn; clear hn
  have HCC := hide hcc; clear hcc
  clear hi4
  go_wp2_with fail
  go_quiet ((go_at_call 116; exact Calls.quiet_of (unhide HF _)))
  generalize hw2 : w1.drewN _ = w2
  have HB2 : Hid (Below w1.heap.size w1 w2) := by rw [← hw2]; exact hide (below_drewN' _ _)
  have HC2 := hide ((unhide HC).grown (unhide HB2))
  have h0 := cell_below (unhide HB2) h0
  have hc1 := cell_below (unhide HB2) hc1
  have hbx0 := cell_below (unhide HB2) hbx0
  have hbx3 := cell_below (unhide HB2) hbx3
  have hcOld := hc
  have hc := cell_below (unhide HB2) hc
  have kf' : w2.frozen? ⟨g, n * 3 + 1, none⟩ = false := by rw [(unhide HB2).frozen (cell_lt k1)]; exact kf
  have hrf' : w2.frozen? ⟨bt, c, none⟩ = false := by rw [(unhide HB2).frozen (cell_lt hcOld)]; exact hrf
  have k1 := cell_below (unhide HB2) k1
  have k2 := cell_below (unhide HB2) k2
  clear hw2 HF hrf kf
  have hj1 : (0 : Int) ≤ (c : Int) := by omega
  have hj2 : (c : Int) < 101 := by omega
  have hj3 : (0 : Int) ≤ (n : Int) := by omega
  have hj4 : (n : Int) < (n : Int) + 1 := by omega
  have hg1 : decide ((n : Int) < 0) = false := by simp
  go_wp2_with fail
  go_quiet (fail)
  go_wp2
  go_ret
  refine ⟨by rw [unhide E3]; rfl, fun h => ?_, ?_, ?_⟩
  · rw [unhide E3] at h; cases h
  · exact below_drewN (((unhide HB1).mono hB).trans ((unhide HB2).mono (by omega))) _
  · exact Keeps.of_below (below_drewN ((unhide HB1).trans ((unhide HB2).mono (unhide HB1).size)) _)

end Go.Proofs.Ytoiacbdnkkolmab
