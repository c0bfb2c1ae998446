import Derived.Test.YtmnmeaeicjhkhaaGreatDoorGCaz
import Derived.Deep.LoopGhost
import Derived.Deep.DeepCutAuto
namespace Go.Proofs.YtmnmeaeicjhkhaaGreatDoor
open Go.RowKit

theorem info_FnCount : (Tryz.prog.info? 97).map (fun i => (i.zero, i.size, i.bytes)) = some (some (.agg #[.int .i64 0, .int .i64 0, .int .i64 0, .int .i64 0]), 4, 32) := by kernel_rfl
theorem info_bool : (Tryz.prog.info? 4).map (fun i => (i.zero, i.size, i.bytes)) = some (some (.bool false), 1, 1) := by kernel_rfl

theorem SpecCore.over {B : Nat} {w w' : World} {ps bt : Nat} {V : Nat → Value} {s : St} (h : SpecCore B w ps bt V s) (hb : ∀ b, B ≤ b → b < w.heap.size → w'.heap[b]? = w.heap[b]?) : SpecCore B w' ps bt V s := by
  have hps : w'.heap[ps]? = w.heap[ps]? := hb ps h.hp (cell_lt h.c0)
  have hbt : w'.heap[bt]? = w.heap[bt]? := hb bt h.hbt h.row.lt
  refine ⟨h.hp, h.hbt, h.ne, ?_, ?_, ?_, h.row.of_block hbt, fun t ht => ?_, h.nps, h.nbt, h.dis, h.cur, h.len⟩
  · rw [World.cell?_of_block hps]; exact h.c0
  · rw [World.cell?_of_block hps]; exact h.c1
  · rw [World.frozen?_of_block hps]; exact h.fz
  · obtain ⟨h1, h2⟩ := h.own t ht
    refine ⟨h1, ?_⟩
    rcases h2 with h2 | ⟨g, cap, cur, hv, hg, hh, r⟩
    · exact .inl h2
    · exact .inr ⟨g, cap, cur, hv, hg, by rw [hb g hg (Array.getElem?_eq_some_iff.1 hh).1]; exact hh, r⟩

theorem SpecAt.over {B : Nat} {w w' : World} {ps : Nat} {s : St} (h : SpecAt B w ps s) (hb : ∀ b, B ≤ b → b < w.heap.size → w'.heap[b]? = w.heap[b]?) : SpecAt B w' ps s := by
  obtain ⟨bt, V, h⟩ := h
  exact ⟨bt, V, h.over hb⟩

theorem made_get (z : Array Value) (N q : Nat) (h : q < N) : (madeCells z N)[q]? = some z[q % z.size]! := by simp [madeCells, h]

/-- Rows of zeros, just made. -/
theorem Rows.made (w : World) (nf : Nat) : Rows 97 w.heap.size (w.alloc (.cells (madeCells #[.int .i64 0, .int .i64 0, .int .i64 0, .int .i64 0] (nf * 4)) 97)) 4 nf (fun _ _ => 0) := by
  have hh := heap_alloc_new w (.cells (madeCells #[.int .i64 0, .int .i64 0, .int .i64 0, .int .i64 0] (nf * 4)) 97)
  refine ⟨⟨_, _, hh⟩, fun i j hi hj => ⟨?_, by unfold World.frozen?; rw [hh]; simp⟩⟩
  rw [cell_of_row _ _ _ _ _ _ hh, made_get _ _ _ (by omega)]
  have hm : (i * 4 + j) % 4 = j := by omega
  show some (#[Value.int .i64 0, .int .i64 0, .int .i64 0, .int .i64 0][(i * 4 + j) % 4]!) = _
  rw [hm]
  rcases (show j = 0 ∨ j = 1 ∨ j = 2 ∨ j = 3 by omega) with rfl | rfl | rfl | rfl
  all_goals rfl

/-- Which fns were seen. -/
def SeenAt (sb : Nat) (w : World) (nf : Nat) (P : List Fr) : Prop := ∀ i, i < nf → w.cell? ⟨sb, i, none⟩ = some (.bool (hasFn P i)) ∧ w.frozen? ⟨sb, i, none⟩ = false

theorem SeenAt.made (w : World) (nf : Nat) : SeenAt w.heap.size (w.alloc (.cells (madeCells #[.bool false] nf) 4)) nf [] := by
  intro i hi
  have hh := heap_alloc_new w (.cells (madeCells #[.bool false] nf) 4)
  refine ⟨?_, by unfold World.frozen?; rw [hh]; simp⟩
  rw [cell_of_row _ _ _ _ _ _ hh]
  simp [madeCells, hi, hasFn, Nat.mod_one]

theorem SeenAt.below {sb nf : Nat} {w w' : World} {P : List Fr} (h : SeenAt sb w nf P) (hb : Below w.heap.size w w') : SeenAt sb w' nf P := fun i hi =>
  ⟨cell_below hb (h i hi).1, by rw [hb.frozen (cell_lt (h i hi).1)]; exact (h i hi).2⟩

theorem SeenAt.other {sb nf b o : Nat} {w : World} {P : List Fr} {u : Value} (h : SeenAt sb w nf P) (hne : b ≠ sb) : SeenAt sb (w.setCell ⟨b, o, none⟩ u) nf P := fun i hi =>
  ⟨cell_set_ne hne (h i hi).1, by rw [World.frozen?_setCell]; exact (h i hi).2⟩

theorem SeenAt.set {sb nf j : Nat} {w : World} {P : List Fr} {fr : Fr} (h : SeenAt sb w nf P) (hf : fr.fn = (j : Int)) : SeenAt sb (w.setCell ⟨sb, j, none⟩ (.bool true)) nf (P ++ [fr]) := by
  intro i hi
  refine ⟨?_, by rw [World.frozen?_setCell]; exact (h i hi).2⟩
  rw [hasFn_app, hasFn_one, hf]
  by_cases e : i = j
  · subst e
    rw [World.cell?_setCell_same _ _ _ (h i hi).1]
    simp
  · rw [World.cell?_setCell_other _ _ _ _ (fun h => e (by simpa using (congrArg Addr.off h).symm)), (h i hi).1]
    have : decide ((j : Int) = (i : Int)) = false := by simp; omega
    rw [this, Bool.or_false]

theorem fcAdd_bound (m : M) (l : List Fr) (i j : Nat) : 0 ≤ fcAdd m l i j ∧ fcAdd m l i j ≤ 1 := by
  unfold fcAdd
  repeat' split
  all_goals decide

theorem fcRow_bound (f : Nat → M) (i j : Nat) (hj : j ≠ 0) : ∀ k, 0 ≤ fcRow f k i j ∧ fcRow f k i j ≤ k + 1
  | 0 => by
    show 0 ≤ (if j = 0 then (i : Int) else if j = 1 ∧ i = 0 then 1 else 0) ∧ (if j = 0 then (i : Int) else if j = 1 ∧ i = 0 then 1 else 0) ≤ _
    rw [if_neg hj]
    split <;> decide
  | k + 1 => by
    have h := fcRow_bound f i j hj k
    have h2 := fcAdd_bound (f k) (runs f (k + 1)) i j
    show 0 ≤ fcRow f k i j + fcAdd (f k) (runs f (k + 1)) i j ∧ fcRow f k i j + fcAdd (f k) (runs f (k + 1)) i j ≤ ((k + 1 : Nat) : Int) + 1
    omega

theorem fcAdd_line {m : M} (hk : m.kind = 1) (l : List Fr) (i j : Nat) : fcAdd m l i j = if j = 2 ∧ (i : Int) = m.fn then 1 else if j = 3 ∧ hasFn l i = true then 1 else 0 := by
  unfold fcAdd
  rw [if_neg (by omega), if_pos hk]

/-- The rows within a line's round: so many of the open calls are counted. -/
def fcIn (f : Nat → M) (k fn : Nat) (P : List Fr) (i j : Nat) : Int := fcRow f k i j + (if j = 2 ∧ i = fn then 1 else if j = 3 ∧ hasFn P i = true then 1 else 0)

theorem fcIn_all {f : Nat → M} {k fn : Nat} (hk : (f k).kind = 1) (hf : (f k).fn = (fn : Int)) (l : List Fr) (hl : ∀ i, hasFn l i = hasFn (runs f (k + 1)) i) (i j : Nat) : fcIn f k fn l i j = fcRow f (k + 1) i j := by
  show _ = fcRow f k i j + fcAdd (f k) (runs f (k + 1)) i j
  rw [fcAdd_line hk]
  unfold fcIn
  rw [hf, hl i]
  by_cases e : j = 2 ∧ i = fn
  · have e' : j = 2 ∧ (i : Int) = (fn : Int) := by omega
    rw [if_pos e, if_pos e']
  · have e' : ¬ (j = 2 ∧ (i : Int) = (fn : Int)) := by omega
    rw [if_neg e, if_neg e']

theorem fcIn_skip {f : Nat → M} {k fn : Nat} {P : List Fr} {fr : Fr} {q : Nat} (hq : fr.fn = (q : Int)) (hs : hasFn P q = true) (i j : Nat) : fcIn f k fn P i j = fcIn f k fn (P ++ [fr]) i j := by
  unfold fcIn
  rw [hasFn_app, hasFn_one, hq]
  by_cases e : q = i
  · subst e; simp [hs]
  · have : decide ((q : Int) = (i : Int)) = false := by simp; omega
    rw [this, Bool.or_false]

theorem fcIn_take {f : Nat → M} {k fn : Nat} {P : List Fr} {fr : Fr} {q : Nat} (hq : fr.fn = (q : Int)) (hs : hasFn P q = false) (i j : Nat) : (if i = q ∧ j = 3 then fcIn f k fn P q 3 + 1 else fcIn f k fn P i j) = fcIn f k fn (P ++ [fr]) i j := by
  unfold fcIn
  rw [hasFn_app, hasFn_one, hq]
  by_cases e : i = q
  · subst e
    by_cases e3 : j = 3
    · subst e3; simp [hs]
    · rw [if_neg (by omega)]
      by_cases e2 : j = 2 ∧ i = fn
      · rw [if_pos e2, if_pos e2]
      · rw [if_neg e2, if_neg e2, if_neg (by omega), if_neg (by omega)]
  · have : decide ((q : Int) = (i : Int)) = false := by simp; omega
    rw [if_neg (by omega), this, Bool.or_false]

theorem SeenAt.skip {sb nf q : Nat} {w : World} {P : List Fr} {fr : Fr} (h : SeenAt sb w nf P) (hq : fr.fn = (q : Int)) (hs : hasFn P q = true) : SeenAt sb w nf (P ++ [fr]) := by
  intro i hi
  rw [hasFn_app, hasFn_one, hq]
  by_cases e : q = i
  · subst e; rw [hs, Bool.true_or, ← hs]; exact h q hi
  · have : decide ((q : Int) = (i : Int)) = false := by simp; omega
    rw [this, Bool.or_false]; exact h i hi

theorem take_next {α : Type} (l : List α) (i : Nat) (h : i < l.length) : l.take (i + 1) = l.take i ++ [l[i]] := by
  rw [List.take_add_one, List.getElem?_eq_getElem h]; rfl

theorem fcIn_bound (f : Nat → M) (k fn : Nat) (P : List Fr) (i : Nat) : 0 ≤ fcIn f k fn P i 3 ∧ fcIn f k fn P i 3 ≤ k + 2 := by
  have h := fcRow_bound f i 3 (by omega) k
  unfold fcIn
  rw [if_neg (by omega)]
  split <;> omega

theorem frGet : ∀ (l : List Fr) (i : Nat) (h : i < l.length), (frCells l)[i * 3]? = some (.int .i64 l[i].fn) ∧ (frCells l)[i * 3 + 1]? = some (.int .i64 l[i].line) ∧ (frCells l)[i * 3 + 2]? = some (.int .i64 l[i].frm)
  | f :: r, 0, _ => ⟨rfl, rfl, rfl⟩
  | f :: r, i + 1, h => by
    have ih := frGet r i (by simpa using h)
    have e : frCells (f :: r) = [.int .i64 f.fn, .int .i64 f.line, .int .i64 f.frm] ++ frCells r := rfl
    rw [e, show (i + 1) * 3 = 3 + i * 3 by omega]
    refine ⟨?_, ?_, ?_⟩
    · rw [List.getElem?_append_right (by simp)]; simpa using ih.1
    · rw [List.getElem?_append_right (by simp; omega), show 3 + i * 3 + 1 - [(Value.int .i64 f.fn), .int .i64 f.line, .int .i64 f.frm].length = i * 3 + 1 by simp; omega]; simpa using ih.2.1
    · rw [List.getElem?_append_right (by simp; omega), show 3 + i * 3 + 2 - [(Value.int .i64 f.fn), .int .i64 f.line, .int .i64 f.frm].length = i * 3 + 2 by simp; omega]; simpa using ih.2.2

/-- A call, a line, or neither: what becomes of the rows. -/
theorem fcRow_succ (f : Nat → M) (k i j : Nat) : fcRow f (k + 1) i j = fcRow f k i j + fcAdd (f k) (runs f (k + 1)) i j := rfl

set_option maxRecDepth 100000 in
set_option maxHeartbeats 4000000 in
theorem specFnCounts_any (lo : Nat) (v1 v2 : Value) (nf : Nat) (fns : Nat → ByteArray) (n : Nat) (f : Nat → M) (w : World) (h1 : StrsAt lo w v1 nf fns) (h2 : MomsAt lo w v2 n f) :
    Calls Tryz.prog 49 #[.agg #[v1, v2]] w fun e w' => (∃ v n' F, e = .returned v ∧ FcAns nf fns n f n' F ∧ RowsAt w.heap.size w' v 4 n' F) ∧ Below w.heap.size w w' := by
  have H1 := hide h1
  have H2 := hide h2
  obtain ⟨a1, cap1, rfl, hn1, -⟩ := h1
  obtain ⟨a2, cap2, rfl, hn2, -⟩ := h2
  unfold maxLen at hn1 hn2
  have T0 := hide (TrBox.new w (.slice a1 nf cap1) (.slice a2 n cap2))
  go_enter Tryz.func49, Tryz.ntmps49
  go_wp2_with fail
  refine (l1ok_any lo _ _ nf fns n f _ ((unhide H1).below (unhide T0).below) ((unhide H2).below (unhide T0).below)).mono ?_
  rintro e w1 ⟨⟨ok, rfl, hok⟩, hb1⟩
  have T1 := hide ((unhide T0).go hb1)
  clear hb1 T0
  cases ok with
  | false =>
    have HN : Hid (¬ Sound nf fns n f) := hide (fun h => by have := hok.2 h; cases this)
    clear hok
    go_wp2_with fail
    go_ret
    exact ⟨⟨_, 0, fun _ _ => 0, rfl, .inr ⟨unhide HN, rfl⟩, RowsAt.nil _ _ _ _⟩, (unhide T1).below⟩
  | true =>
    have hS := hok.1 rfl
    have HS := hide hS
    have hnf : nf ≤ 300 := hS.1.2.1
    have hnf0 : nf ≠ 0 := hS.1.1
    have hn3 : n ≤ 3000 := hS.1.2.2.1
    clear hok hS
    obtain ⟨mc, hmc⟩ : ∃ mc, mc = madeCells #[.int .i64 0, .int .i64 0, .int .i64 0, .int .i64 0] (nf * 4) := ⟨_, rfl⟩
    have hmk : ∀ w, (Instr.makeSlice 51 (.int .i64 nf) (.int .i64 nf)).run Tryz.prog w = .ok (.slice (some ⟨w.heap.size, 0, none⟩) nf nf) (w.alloc (.cells mc 97)) := fun w => by
      rw [hmc]
      exact run_make_many (P := Tryz.prog) 51 97 _ _ _ Tryz.underlying51 info_FnCount nf (by omega) (by omega) w
    have HR0 : Hid (Rows 97 w1.heap.size (w1.alloc (.cells mc 97)) 4 nf (fun _ _ => 0)) := by rw [hmc]; exact hide (Rows.made w1 nf)
    have T2 := hide ((unhide T1).go (below_new w1 (.cells mc 97)))
    have g0 := (unhide T1).b0
    obtain ⟨b, hb⟩ : ∃ b, b = w1.heap.size := ⟨_, rfl⟩
    have hbl : w.heap.size + 1 ≤ b := by rw [hb]; exact (unhide T1).size
    rw [← hb] at HR0
    clear hmc
    go_wp2_with fail
    rw [← hb]
    clear hb
    go_loopw [4, 20] (fun _ i W => ∃ (k : Nat), k ≤ nf ∧ i = .int .i64 k ∧ Rows 97 b W 4 nf (fun i j => if i < k ∧ j = 0 then (i : Int) else 0) ∧ TrBox w (.slice a1 nf cap1) (.slice a2 n cap2) W) (fun _ i _ => nf - (intOf i).toNat)
    case atStart => exact ⟨0, by omega, rfl, (unhide HR0).congr (fun i j _ _ => by simp), unhide T2⟩
    case round =>
      clear HR0 T1 T2 g0 hmk
      obtain ⟨k, hk, rfl, hr, ht⟩ := hrel
      have HR := hide hr
      have HT := hide ht
      clear hr ht
      by_cases hlt : k < nf
      · have hi0 : (0 : Int) ≤ (k : Int) := by omega
        have hi1 : (k : Int) < (nf : Int) := by omega
        obtain ⟨c0, f0⟩ := (unhide HR).cell k 0 hlt (by omega)
        rw [Nat.add_zero] at c0 f0
        go_wp2_with fail
        go_roundw
        case rel =>
          refine ⟨k + 1, by omega, by go_num, ((unhide HR).set k 0 (by omega) k).congr (fun i j hi hj => ?_), Below.setCell (p := ⟨b, k * 4, none⟩) (unhide HT) hbl _⟩
          by_cases e : i = k ∧ j = 0
          · rw [if_pos e, if_pos (by omega)]; omega
          · rw [if_neg e]
            by_cases e2 : i < k ∧ j = 0
            · rw [if_pos e2, if_pos (by omega)]
            · rw [if_neg e2, if_neg (by omega)]
        case measure => simp [intOf]; omega
      · have e : nf = k := by omega
        subst e
        clear hk hlt
        have g1 := (unhide HT).b1
        obtain ⟨c1, f1⟩ := (unhide HR).cell 0 1 (by omega) (by omega)
        rw [Nat.zero_mul, Nat.zero_add] at c1 f1
        have hk0 : (0 : Int) < (nf : Int) := by omega
        have HR1 := hide (((unhide HR).set 0 1 (by omega) 1).congr (G := fcRow f 0) (fun i j hi hj => by
          show _ = if j = 0 then (i : Int) else if j = 1 ∧ i = 0 then 1 else 0
          by_cases e : i = 0 ∧ j = 1
          · rw [if_pos e, if_neg (by omega), if_pos (by omega)]
          · rw [if_neg e]
            by_cases e2 : j = 0
            · rw [if_pos ⟨hi, e2⟩, if_pos e2]
            · rw [if_neg (by omega), if_neg e2, if_neg (by omega)]))
        have HT1 : Hid (TrBox w (.slice a1 nf cap1) (.slice a2 n cap2) (wr.setCell ⟨b, 0 * 4 + 1, none⟩ (.int .i64 1))) := hide (Below.setCell (p := ⟨b, 0 * 4 + 1, none⟩) (unhide HT) hbl _)
        rw [Nat.zero_mul, Nat.zero_add] at HR1 HT1
        go_wp2_with fail
        refine (l1begin_any _).mono ?_
        rintro e w2 ⟨⟨ps, rfl, hsp⟩, hb2⟩
        have hbw : b < wr.heap.size := (unhide HR).lt
        have HR2 := hide ((unhide HR1).below hb2)
        have HT2 := hide ((unhide HT1).go hb2)
        obtain ⟨B, hBe⟩ : ∃ B, B = wr.heap.size := ⟨_, rfl⟩
        have HSP : Hid (SpecAt B w2 ps St.init) := by rw [hBe]; exact hide (by simpa using hsp)
        have hbB : b < B := by omega
        have g1 := (unhide HT2).b1
        clear hb2 hsp HR HT HR1 HT1 c1 f1 hBe hbw
        go_wp2_with fail
        go_loopg [6, 36] n (fun gg _ i W => ∃ (k : Nat), k + gg = n ∧ i = .int .i64 k ∧ Rows 97 b W 4 nf (fcRow f k) ∧ SpecAt B W ps (St.after f k) ∧ TrBox w (.slice a1 nf cap1) (.slice a2 n cap2) W)
        case atStart => exact ⟨0, by omega, rfl, unhide HR2, unhide HSP, unhide HT2⟩
        case round =>
          clear HR2 HSP HT2 g1
          obtain ⟨k, hk, rfl, hr, hsp, ht⟩ := hrel
          have HR := hide hr
          have HSP := hide hsp
          have HT := hide ht
          clear hr hsp ht
          by_cases hlt : k < n
          · obtain ⟨_, _, e, _, hv⟩ := (unhide H2).below (unhide HT).below
            cases e
            obtain ⟨bm, om, vv, rfl, hc0, hc1, hc2, hc3, hc4, hc5, -, hs2, -⟩ := hv k hlt
            clear hv
            obtain ⟨av, capv, rfl, -⟩ := hs2
            have hmo := (unhide HS).2.1 k hlt
            have ht1 : 0 ≤ (f k).task := hmo.1.2.2.1
            have ht2 : (f k).task ≤ 100 := hmo.1.2.2.2.1
            have hf1 : 0 ≤ (f k).fn := hmo.1.2.2.2.2.1
            have hf2 : (f k).fn < nf := hmo.1.2.2.2.2.2.1
            clear hmo
            have hkn : (k : Int) < (n : Int) := by omega
            have HBN := hide (below_new wr (.cells #[.int .i64 (f k).kind, .int .i64 (f k).task, .int .i64 (f k).fn, .int .i64 (f k).line, .string (f k).text, .slice av (f k).nv capv] 108))
            have HBX := hide (heap_alloc_new wr (.cells #[.int .i64 (f k).kind, .int .i64 (f k).task, .int .i64 (f k).fn, .int .i64 (f k).line, .string (f k).text, .slice av (f k).nv capv] 108))
            have hpsl : ps < wr.heap.size := by obtain ⟨_, _, hh⟩ := unhide HSP; exact cell_lt hh.c0
            go_wp2_with fail
            refine (move_any B ps (St.after f k) _ _ _ _ _ _ _ _ ((unhide HSP).below (unhide HBN)) ht1 ht2).mono ?_
            rintro e w2 ⟨rfl, hsp, hb2, hkp⟩
            have HR2 := hide (((unhide HR).below (unhide HBN)).of_block (hb2.block b hbB))
            have HT2 : Hid (TrBox w (.slice a1 nf cap1) (.slice (some ⟨bm, om, none⟩) n cap2) w2) := hide (Below.trans ((unhide HT).go (unhide HBN)) (hb2.mono (by omega)))
            have HSP2 : Hid (SpecAt B w2 ps (St.after f (k + 1))) := hide (hsp ((unhide HS).2.2 k hlt))
            have HBX2 := hide ((hkp _ _ _ _ (unhide HBX) (by omega) (by decide) (by decide)).trans (unhide HBX))
            obtain ⟨mb, hmb⟩ : ∃ mb, mb = wr.heap.size := ⟨_, rfl⟩
            rw [← hmb] at HBX2
            rw [← hmb]
            have hbmb : b ≠ mb := by have := (unhide HR).lt; omega
            obtain ⟨fnn, hfn⟩ := Int.eq_ofNat_of_zero_le hf1
            have hfnn : fnn < nf := by omega
            have m0 : w2.cell? ⟨mb, 0, none⟩ = some (.int .i64 (f k).kind) := by rw [cell_of_row w2 mb 0 _ _ _ (unhide HBX2)]; rfl
            have m2 : w2.cell? ⟨mb, 2, none⟩ = some (.int .i64 fnn) := by rw [cell_of_row w2 mb 2 _ _ _ (unhide HBX2), ← hfn]; rfl
            have HFN := hide hfn
            have hj0 : (0 : Int) ≤ (fnn : Int) := by omega
            have hj1 : (fnn : Int) < (nf : Int) := by omega
            clear hsp hb2 hkp hmb hc0 hc1 hc2 hc3 hc4 hc5 HBN HBX HR HT HSP hf1 hf2 hfn hpsl
            generalize hcd : code (St.after f k) (f k).kind (f k).task (f k).fn = cd
            clear hcd
            generalize hkk : (f k).kind = kk at m0
            have HKK := hide hkk
            clear hkk HBX2
            by_cases k2 : kk = 2
            · have k2b : (kk == 2) = true := by simpa using k2
              have k2c : (kk != 1) = true := by rw [k2]; rfl
              have HK2 := hide k2
              clear k2
              obtain ⟨c1, f1⟩ := (unhide HR2).cell fnn 1 hfnn (by omega)
              have hx := fcRow_bound f fnn 1 (by omega) k
              generalize hxx : fcRow f k fnn 1 = x at c1 hx
              have HXX := hide hxx
              have wx : IntKind.i64.wrap (x + 1) = x + 1 := by rw [IntKind.wrap_i64]; omega
              clear hxx
              go_wp2_with fail
              go_roundg (n - (k + 1))
              case measure => omega
              case rel =>
                refine ⟨k + 1, by omega, by go_num, ((unhide HR2).set fnn 1 (by omega) (x + 1)).congr (fun i j hi hj => ?_), (unhide HSP2).over (fun b' h1 _ => Below.heap_setCell _ _ _ _ (by simp; omega)), Below.setCell (p := ⟨b, fnn * 4 + 1, none⟩) (unhide HT2) hbl _⟩
                rw [fcRow_succ]
                unfold fcAdd
                rw [unhide HKK, if_pos (unhide HK2), unhide HFN, ← unhide HXX]
                by_cases e : i = fnn ∧ j = 1
                · rw [if_pos e, if_pos (by omega), e.1, e.2]
                · rw [if_neg e, if_neg (by omega)]; omega
            · have k2b : (kk == 2) = false := by simpa using k2
              by_cases k1 : kk = 1
              · have k1b : (kk != 1) = false := by rw [k1]; rfl
                have HK1 := hide k1
                clear k1 k2
                obtain ⟨c2, f2⟩ := (unhide HR2).cell fnn 2 hfnn (by omega)
                have hx := fcRow_bound f fnn 2 (by omega) k
                generalize hxx : fcRow f k fnn 2 = x at c2 hx
                have HXX := hide hxx
                have wx : IntKind.i64.wrap (x + 1) = x + 1 := by rw [IntKind.wrap_i64]; omega
                have g0 := (unhide HT2).b0
                have hne1 : b ≠ w.heap.size := by omega
                obtain ⟨mc2, hmc2⟩ : ∃ mc2, mc2 = madeCells #[.bool false] nf := ⟨_, rfl⟩
                have hmk : ∀ w, (Instr.makeSlice 157 (.int .i64 nf) (.int .i64 nf)).run Tryz.prog w = .ok (.slice (some ⟨w.heap.size, 0, none⟩) nf nf) (w.alloc (.cells mc2 4)) := fun w => by
                  rw [hmc2]
                  have := run_make_many (P := Tryz.prog) 157 4 _ _ _ Tryz.underlying157 info_bool nf (by omega) (by omega) w
                  rw [Nat.mul_one] at this
                  exact this
                have HR3 := hide ((((unhide HR2).set fnn 2 (by omega) (x + 1)).congr (G := fcIn f k fnn []) (fun i j hi hj => by
                  unfold fcIn
                  by_cases e : i = fnn ∧ j = 2
                  · rw [if_pos e, if_pos ⟨e.2, e.1⟩, e.1, e.2, hxx]
                  · rw [if_neg e, if_neg (fun h => e ⟨h.2, h.1⟩), if_neg (by simp [hasFn])]; omega)).below (below_new _ (.cells mc2 4)))
                have HSP3 := hide (((unhide HSP2).over (w' := w2.setCell ⟨b, fnn * 4 + 2, none⟩ (.int .i64 (x + 1))) (fun b' h1 _ => Below.heap_setCell _ _ _ _ (by simp; omega))).below (below_new _ (.cells mc2 4)))
                have HT3 : Hid (TrBox w (.slice a1 nf cap1) (.slice (some ⟨bm, om, none⟩) n cap2) ((w2.setCell ⟨b, fnn * 4 + 2, none⟩ (.int .i64 (x + 1))).alloc (.cells mc2 4))) := hide (TrBox.go (Below.setCell (p := ⟨b, fnn * 4 + 2, none⟩) (unhide HT2) hbl _) (below_new _ _))
                have HSE : Hid (SeenAt (w2.setCell ⟨b, fnn * 4 + 2, none⟩ (.int .i64 (x + 1))).heap.size ((w2.setCell ⟨b, fnn * 4 + 2, none⟩ (.int .i64 (x + 1))).alloc (.cells mc2 4)) nf []) := by rw [hmc2]; exact hide (SeenAt.made _ nf)
                have hsb : b < w2.heap.size ∧ B ≤ w2.heap.size := ⟨(unhide HR2).lt, (unhide HSP2).base⟩
                obtain ⟨bt, V, hcore⟩ := unhide HSP2
                have HCO := hide hcore
                have HC3 := hide ((hcore.over (w' := w2.setCell ⟨b, fnn * 4 + 2, none⟩ (.int .i64 (x + 1))) (fun b' h1 _ => Below.heap_setCell _ _ _ _ (by simp; omega))).grown (below_new _ (.cells mc2 4)))
                have HSM : Hid (∀ b', B ≤ b' → b' < w2.heap.size → ((w2.setCell ⟨b, fnn * 4 + 2, none⟩ (.int .i64 (x + 1))).alloc (.cells mc2 4)).heap[b']? = w2.heap[b']?) := hide fun b' h1 h2 => by
                  rw [Below.heap_alloc _ _ _ (by simpa using h2), Below.heap_setCell _ _ _ _ (by simp; omega)]
                have hss : (w2.setCell ⟨b, fnn * 4 + 2, none⟩ (.int .i64 (x + 1))).heap.size = w2.heap.size := by simp
                rw [hss] at HSE
                have hs3 : ((w2.setCell ⟨b, fnn * 4 + 2, none⟩ (.int .i64 (x + 1))).alloc (.cells mc2 4)).heap.size = w2.heap.size + 1 := by simp
                have HS3 := hide hs3
                have hcl := (unhide HCO).own _ hcore.cur
                have HGL := hide hcl.lt
                have hlen := hcore.len _ hcore.cur
                clear hxx hmc2 hss hs3 hcore HSP3 hcl
                go_upto_region 20 with fail
                obtain ⟨sb, hsbe⟩ : ∃ sb, sb = w2.heap.size := ⟨_, rfl⟩
                rw [← hsbe] at HSE HSM HS3 hsb HGL
                rw [← hsbe]
                have HSBE := hide hsbe
                generalize (w2.setCell ⟨b, fnn * 4 + 2, none⟩ (.int .i64 (x + 1))).alloc (.cells mc2 4) = W3 at HR3 HC3 HT3 HSE HSM HS3 ⊢
                obtain ⟨l, hl⟩ : ∃ l, l = (St.after f (k + 1)).tasks (St.after f (k + 1)).cur := ⟨_, rfl⟩
                have s0 := (unhide HC3).c0
                have s1 := (unhide HC3).c1
                have hcu := (unhide HC3).cur
                have hrc := (unhide HC3).row.cell hcu
                have hown := (unhide HC3).own _ hcu
                rw [← hl] at hown hlen
                obtain ⟨xo, xc, hVx⟩ := owns_slice hown
                rw [hVx] at hrc hown HGL
                have hown2 := (unhide HCO).own _ (unhide HCO).cur
                rw [← hl, hVx] at hown2
                have HOW := hide hown2
                have HLL := hide hl
                obtain ⟨cu, hcue⟩ : ∃ cu, cu = (St.after f (k + 1)).cur := ⟨_, rfl⟩
                rw [← hcue] at s1 hcu hrc
                have hq1 : (0 : Int) ≤ (cu : Int) := by omega
                have hq2 : (cu : Int) < 101 := by omega
                have HFNS : Hid (∀ fr, fr ∈ l → 0 ≤ fr.fn ∧ fr.fn < nf) := hide fun fr hfr => after_fns (unhide HS) (k + 1) (by omega) _ fr (by rw [← hl]; exact hfr)
                obtain ⟨ln, hln⟩ : ∃ ln, ln = l.length := ⟨_, rfl⟩
                rw [← hln] at hrc hlen
                have HLN := hide hln
                clear hl hcue hVx hown hown2 hln hsbe c2 f2 m0 m2 g0 wx hmk
                go_quiet (fail)
                generalize hW4 : W3.drewN _ = W4
                have HB4 : Hid (Below W3.heap.size W3 W4) := by rw [← hW4]; exact hide (below_drewN' _ _)
                have HS4 : Hid (W4.heap.size = sb + 1) := by rw [← hW4]; exact HS3
                clear hW4 s0 s1 hrc hcu hq1 hq2
                go_wp2_with fail
                go_loopg [84] ln (fun gg i W => ∃ (q : Nat), q + gg = ln ∧ i = .int .i64 q ∧ Rows 97 b W 4 nf (fcIn f k fnn (l.reverse.take q)) ∧ SeenAt sb W nf (l.reverse.take q) ∧ (∀ b', B ≤ b' → b' < sb → W.heap[b']? = w2.heap[b']?) ∧ TrBox w (.slice a1 nf cap1) (.slice (some ⟨bm, om, none⟩) n cap2) W ∧ sb < W.heap.size)
                case atStart => exact ⟨0, by omega, rfl, (unhide HR3).below (unhide HB4), (unhide HSE).below (unhide HB4), fun b' h1 h2 => by rw [(unhide HB4).block b' (by rw [unhide HS3]; omega)]; exact unhide HSM b' h1 h2, (unhide HT3).go (unhide HB4), by rw [unhide HS4]; omega⟩
                case round =>
                  clear HR3 HC3 HT3 HSE HSM HB4 HS4 HS3
                  obtain ⟨q, hq, rfl, hr, hse, hsm, ht, hsw⟩ := hrel
                  have HR := hide hr
                  have HSE := hide hse
                  have HSM := hide hsm
                  have HT := hide ht
                  clear hr hse hsm ht
                  by_cases hql : q < ln
                  · have hqr : q < l.reverse.length := by rw [List.length_reverse, ← unhide HLN]; exact hql
                    obtain ⟨e0, e1, e2⟩ := frGet l.reverse q hqr
                    obtain ⟨g, cap', eg, hgB, hgl⟩ := (unhide HOW).form (by rw [← unhide HLN]; omega)
                    injection eg with eg1 eg2 eg3
                    subst eg1
                    clear eg2 eg3
                    have hgs : g < sb := by rw [unhide HSBE]; exact hgl
                    have hgw := unhide HSM g hgB hgs
                    have d0 := (World.cell?_of_block (a := ⟨g, q * 3, none⟩) hgw).trans (owns_cell (unhide HOW) _ _ e0).1
                    have d1 := (World.cell?_of_block (a := ⟨g, q * 3 + 1, none⟩) hgw).trans (owns_cell (unhide HOW) _ _ e1).1
                    have d2 := (World.cell?_of_block (a := ⟨g, q * 3 + 2, none⟩) hgw).trans (owns_cell (unhide HOW) _ _ e2).1
                    obtain ⟨fr, hfr⟩ : ∃ fr, fr = l.reverse[q] := ⟨_, rfl⟩
                    have HTK : Hid (l.reverse.take (q + 1) = l.reverse.take q ++ [fr]) := by rw [hfr]; exact hide (take_next _ _ hqr)
                    have hrg := unhide HFNS fr (by rw [hfr]; exact List.mem_reverse.1 (List.getElem_mem hqr))
                    rw [← hfr] at d0 d1 d2
                    obtain ⟨fq, hfq⟩ := Int.eq_ofNat_of_zero_le hrg.1
                    have hfq2 : fq < nf := by omega
                    have HFQ := hide hfq
                    rw [hfq] at d0
                    obtain ⟨sc, sf⟩ := unhide HSE fq hfq2
                    obtain ⟨rc, rf⟩ := (unhide HR).cell fq 3 hfq2 (by omega)
                    have hx3 := fcIn_bound f k fnn (l.reverse.take q) fq
                    have hbw := (unhide HR).lt
                    have hn1' : sb ≠ wr.heap.size := by omega
                    have hn2' : b ≠ wr.heap.size := by omega
                    have hn3' : b ≠ sb := by omega
                    have hq0 : (0 : Int) ≤ (q : Int) := by omega
                    have hq1 : (q : Int) < (ln : Int) := by omega
                    have hq2 : (0 : Int) ≤ (fq : Int) := by omega
                    have hq3 : (fq : Int) < (nf : Int) := by omega
                    have HBN := hide (below_new wr (.cells #[.int .i64 fq, .int .i64 fr.line, .int .i64 fr.frm] 42))
                    clear e0 e1 e2 hgw hgs hgl hgB hfr hrg hfq hqr
                    cases hs : hasFn (l.reverse.take q) fq with
                    | true =>
                      rw [hs] at sc
                      have HSS := hide hs
                      clear hs rc rf hx3
                      go_wp2_with fail
                      go_roundg (ln - (q + 1))
                      case measure => omega
                      case rel =>
                        refine ⟨q + 1, by omega, by go_num, ?_, ?_, fun b' h1 h2 => ?_, (unhide HT).go (unhide HBN), by simp; omega⟩
                        · rw [unhide HTK]
                          exact ((unhide HR).below (unhide HBN)).congr (fun i j _ _ => fcIn_skip (unhide HFQ) (unhide HSS) i j)
                        · rw [unhide HTK]
                          exact ((unhide HSE).below (unhide HBN)).skip (unhide HFQ) (unhide HSS)
                        · rw [(unhide HBN).block b' (by omega)]
                          exact unhide HSM b' h1 h2
                    | false =>
                      rw [hs] at sc
                      have HSS := hide hs
                      generalize hx3e : fcIn f k fnn (l.reverse.take q) fq 3 = x3 at rc hx3
                      have HX3 := hide hx3e
                      have wx3 : IntKind.i64.wrap (x3 + 1) = x3 + 1 := by rw [IntKind.wrap_i64]; omega
                      clear hs hx3e
                      go_wp2_with fail
                      go_roundg (ln - (q + 1))
                      case measure => omega
                      case rel =>
                        refine ⟨q + 1, by omega, by go_num, ?_, ?_, fun b' h1 h2 => ?_, ?_, by simp; omega⟩
                        · rw [unhide HTK]
                          refine ((((unhide HR).other hn3').set fq 3 (by omega) (x3 + 1)).congr (fun i j _ _ => ?_)).below (below_new _ _)
                          rw [← unhide HX3]
                          exact fcIn_take (unhide HFQ) (unhide HSS) i j
                        · rw [unhide HTK]
                          exact (((unhide HSE).set (unhide HFQ)).other hn3').below (below_new _ _)
                        · rw [Below.heap_alloc _ _ _ (by simp; omega), Below.heap_setCell _ _ _ _ (by simp; omega), Below.heap_setCell _ _ _ _ (by simp; omega)]
                          exact unhide HSM b' h1 h2
                        · exact TrBox.go (Below.setCell (p := ⟨b, fq * 4 + 3, none⟩) (Below.setCell (p := ⟨sb, fq, none⟩) (unhide HT) (by simp; omega) _) (by simp; omega) _) (below_new _ _)
                  · have e : ln = q := by omega
                    subst e
                    have hqq : ¬ ((ln : Int) < (ln : Int)) := by omega
                    go_wp2_with fail
                    go_roundg (n - (k + 1))
                    case measure => omega
                    case rel =>
                      have et : l.reverse.take ln = l.reverse := List.take_of_length_le (by rw [List.length_reverse, ← unhide HLN]; omega)
                      have hr := unhide HR
                      rw [et] at hr
                      refine ⟨k + 1, by omega, by go_num, hr.congr (fun i j hi hj => fcIn_all (by rw [unhide HKK]; exact unhide HK1) (unhide HFN) _ (fun i => ?_) i j), (unhide HSP2).over (fun b' h1 h2 => unhide HSM b' h1 (by rw [unhide HSBE]; exact h2)), unhide HT⟩
                      rw [hasFn_rev, unhide HLL]; rfl
              · have k1b : (kk != 1) = true := by simpa using k1
                have HK := hide (And.intro k1 k2)
                clear k1 k2
                go_wp2_with fail
                go_roundg (n - (k + 1))
                case measure => omega
                case rel =>
                  refine ⟨k + 1, by omega, by go_num, (unhide HR2).congr (fun i j hi hj => ?_), unhide HSP2, unhide HT2⟩
                  rw [fcRow_succ]
                  unfold fcAdd
                  rw [unhide HKK, if_neg (unhide HK).2, if_neg (unhide HK).1]
                  omega
          · have e : n = k := by omega
            subst e
            have hnk : ¬ ((n : Int) < (n : Int)) := by omega
            go_wp2_with fail
            go_ret
            exact ⟨⟨_, rfl, nf, fcRow f n, .inl ⟨unhide HS, rfl, fun _ _ _ _ => rfl⟩, (unhide HR).rowsAt (by omega)⟩, (unhide HT).below⟩
end Go.Proofs.YtmnmeaeicjhkhaaGreatDoor
