import Derived.Test.YtjhfdjdmiombpabE3
import Derived.Test.YtjhfdjdmiombpabC11
import Derived.Test.YtjhfdjdmiombpabC13
import Derived.Test.YtjhfdjdmiombpabS10
import Derived.Deep.LoopGhost
import Derived.Deep.AppendLies
import Derived.Deep.DeepCutAuto
namespace Go.Proofs.Ytjhfdjdmiombpab
open Go.RowKit Go.Lib

theorem info_Owner : (Try.prog.info? 206).map (fun i => (i.zero, i.size, i.bytes)) = some (some (.agg #[.bool false, .int .i64 0, .int .i64 0, .int .i64 0, .int .i64 0]), 5, 40) := by kernel_rfl

/-- The cells of what is known of moment i. -/
def ownCells (f : Nat → M) (i : Nat) : List Value :=
  match ownOf f i with
  | some fr => [.bool true, .int .i64 (ownTask f i), .int .i64 fr.fn, .int .i64 fr.line, .int .i64 fr.frm]
  | none => [.bool false, .int .i64 (ownTask f i), .int .i64 0, .int .i64 0, .int .i64 0]

def ownRows (f : Nat → M) (k : Nat) : List Value := (List.range k).flatMap (ownCells f)

theorem ownRows_succ (f : Nat → M) (k : Nat) : ownRows f (k + 1) = ownRows f k ++ ownCells f k := by
  unfold ownRows
  rw [List.range_succ, List.flatMap_append]
  simp

/-- The state that moment k shows. -/
def shown (f : Nat → M) (k : Nat) : St := St.after f (if (f k).kind = 3 then k else k + 1)

theorem ownCells_nil {f : Nat → M} {k : Nat} (h : (shown f k).tasks (shown f k).cur = []) : ownCells f k = [.bool false, .int .i64 (shown f k).cur, .int .i64 0, .int .i64 0, .int .i64 0] := by
  have e : ownOf f k = none := by
    show ((shown f k).tasks (shown f k).cur).head? = none
    rw [h]; rfl
  unfold ownCells
  rw [e]
  rfl

theorem ownCells_cons {f : Nat → M} {k : Nat} {fr : Fr} {r : List Fr} (h : (shown f k).tasks (shown f k).cur = fr :: r) : ownCells f k = [.bool true, .int .i64 (shown f k).cur, .int .i64 fr.fn, .int .i64 fr.line, .int .i64 fr.frm] := by
  have e : ownOf f k = some fr := by
    show ((shown f k).tasks (shown f k).cur).head? = some fr
    rw [h]; rfl
  unfold ownCells
  rw [e]
  rfl

theorem heap_in {w : World} {b : Nat} {o : Obj} (h : w.heap[b]? = some o) : b < w.heap.size := (Array.getElem?_eq_some_iff.1 h).1

theorem cell_set3 {w : World} {b o1 o2 o3 : Nat} {p : Addr} {v u1 u2 u3 : Value} (hne : b ≠ p.block) (h : w.cell? p = some v) : (((w.setCell ⟨b, o1, none⟩ u1).setCell ⟨b, o2, none⟩ u2).setCell ⟨b, o3, none⟩ u3).cell? p = some v := cell_set_ne hne (cell_set_ne hne (cell_set_ne hne h))

/-- Blocks of another type turn. -/
theorem SpecAt.turn {B : Nat} {w w' : World} {ps : Nat} {s : St} {e0 : TypeId} (h : SpecAt B w ps s) (X : Nat → Prop) (hk : ∀ b, b < w.heap.size → ¬ X b → w'.heap[b]? = w.heap[b]?) (hX : ∀ b, X b → b ≠ ps ∧ ∃ cs fr, w.heap[b]? = some (.cells cs e0 fr)) (h1 : e0 ≠ 105) (h2 : e0 ≠ 100) : SpecAt B w' ps s := by
  obtain ⟨bt, V, h⟩ := h
  have hps : w'.heap[ps]? = w.heap[ps]? := hk ps (cell_lt h.c0) (fun e => (hX ps e).1 rfl)
  obtain ⟨cb, hcb, hsz, hfn⟩ := h.row
  have hbt : w'.heap[bt]? = w.heap[bt]? := hk bt (Array.getElem?_eq_some_iff.1 hcb).1 (fun e => by
    obtain ⟨cs, fr, e1⟩ := (hX bt e).2
    rw [hcb] at e1; cases e1; exact h2 rfl)
  refine ⟨bt, V, h.hp, h.hbt, h.ne, ?_, ?_, ?_, h.row.of_block hbt, fun t ht => ?_, h.nps, h.nbt, h.dis, h.cur, h.len⟩
  · rw [World.cell?_of_block hps]; exact h.c0
  · rw [World.cell?_of_block hps]; exact h.c1
  · rw [World.frozen?_of_block hps]; exact h.fz
  · obtain ⟨g1, g2⟩ := h.own t ht
    refine ⟨g1, ?_⟩
    rcases g2 with g2 | ⟨g, cap, cur, hv, hg, hh, r⟩
    · exact .inl g2
    · refine .inr ⟨g, cap, cur, hv, hg, ?_, r⟩
      rw [hk g (Array.getElem?_eq_some_iff.1 hh).1 (fun e => by
        obtain ⟨cs, fr, e1⟩ := (hX g e).2
        rw [hh] at e1; cases e1; exact h1 rfl)]
      exact hh

theorem owns_keeps {w w' : World} {ps B : Nat} {e : TypeId} {z : Nat} {v : Value} {n : Nat} {xs : List Value} (h : w.ownsRow B e z v n xs) (hk : Keeps ps w w') (h1 : e ≠ 105) (h2 : e ≠ 100) (hp : ps < B) : w'.ownsRow B e z v n xs := by
  refine ⟨h.1, ?_⟩
  rcases h.2 with g2 | ⟨g, cap, cur, hv, hg, hh, r⟩
  · exact .inl g2
  · exact .inr ⟨g, cap, cur, hv, hg, (hk g _ _ _ hh (by omega) h1 h2).trans hh, r⟩

set_option maxRecDepth 100000 in
set_option maxHeartbeats 4000000 in
theorem l3owners_any (lo : Nat) (v1 v2 : Value) (nf : Nat) (fns : Nat → ByteArray) (n : Nat) (f : Nat → M) (w : World) (h2 : MomsAt lo w v2 n f) (hs : Sound nf fns n f) :
    Calls Try.prog 122 #[.agg #[v1, v2]] w fun e w' => (∃ v, e = .returned v ∧ w'.ownsRow w.heap.size 206 5 v n (ownRows f n)) ∧ Below w.heap.size w w' := by
  have H2 := hide h2
  have HS := hide hs
  obtain ⟨a2, cap2, rfl, hn2, -⟩ := h2
  have hn3 : n ≤ 3000 := hs.1.2.2.1
  unfold maxLen at hn2
  clear hs
  have T0 := hide (TrBox.new w v1 (.slice a2 n cap2))
  obtain ⟨i0, hi0, hz0, hz1, hz2⟩ := info_parts info_Owner
  have II := hide (And.intro hi0 (And.intro hz0 (And.intro hz1 hz2))); clear hi0 hz0 hz1 hz2
  go_enter Try.func122, Try.ntmps122
  go_wp2_with fail
  refine (l1begin_any _).mono ?_
  rintro e w1 ⟨⟨ps, rfl, hsp⟩, hb1⟩
  have HT0 := hide ((unhide T0).go hb1)
  obtain ⟨B, hBe⟩ : ∃ B, B = w.heap.size + 1 := ⟨_, rfl⟩
  have HS0 : Hid (SpecAt B w1 ps St.init) := by rw [hBe]; exact hide (by simpa using hsp)
  have hps1 : ps < w1.heap.size := by obtain ⟨_, _, hh⟩ := unhide HS0; exact cell_lt hh.c0
  obtain ⟨B2, hB2⟩ : ∃ B2, B2 = w1.heap.size := ⟨_, rfl⟩
  rw [← hB2] at hps1
  have hwB : w.heap.size + 1 ≤ B2 := by rw [hB2]; exact (unhide HT0).size
  have hB2w : B2 ≤ w1.heap.size := by omega
  have g1 := (unhide HT0).b1
  clear hsp hb1 T0 hB2
  go_wp2_with fail
  go_loopg [3, 5, 12] n (fun gg o _ i W => ∃ (k : Nat) (oa : Option Addr) (oc : Nat), k + gg = n ∧ i = .int .i64 k ∧ o = .slice oa k oc ∧ SpecAt B W ps (St.after f k) ∧ W.ownsRow B2 206 5 o k (ownRows f k) ∧ TrBox w v1 (.slice a2 n cap2) W ∧ B2 ≤ W.heap.size)
  case atStart => exact ⟨0, none, 0, by omega, rfl, rfl, unhide HS0, World.ownsRow_nil _ _ _ _, unhide HT0, hB2w⟩
  case round =>
    clear HT0 HS0 g1 hB2w
    obtain ⟨k, oa, oc, hk, rfl, rfl, hsp, hown, ht, hB2r⟩ := hrel
    have HSP := hide hsp
    have HOW := hide hown
    have HT := hide ht
    clear hsp hown ht
    by_cases hlt : k < n
    · obtain ⟨_, _, e, _, hv⟩ := (unhide H2).below (unhide HT).below
      cases e
      obtain ⟨bm, om, vv, rfl, hc0, hc1, hc2, hc3, hc4, hc5, -, hs2, -⟩ := hv k hlt
      clear hv
      obtain ⟨av, capv, rfl, -⟩ := hs2
      have hmo := (unhide HS).2.1 k hlt
      have ht1 : 0 ≤ (f k).task := hmo.1.2.2.1
      have ht2 : (f k).task ≤ 100 := hmo.1.2.2.2.1
      have hcode := (unhide HS).2.2 k hlt
      have HCODE := hide hcode
      clear hmo hcode
      have hkn : (k : Int) < (n : Int) := by omega
      have hkz : (0 : Int) ≤ (k : Int) := by omega
      generalize hkk : (f k).kind = kk at hc0
      have HKK := hide hkk
      clear hkk
      have HBN := hide (below_new wr (.cells #[.int .i64 kk, .int .i64 (f k).task, .int .i64 (f k).fn, .int .i64 (f k).line, .string (f k).text, .slice av (f k).nv capv] 73))
      have HBX := hide (heap_alloc_new wr (.cells #[.int .i64 kk, .int .i64 (f k).task, .int .i64 (f k).fn, .int .i64 (f k).line, .string (f k).text, .slice av (f k).nv capv] 73))
      have HSA := hide ((unhide HSP).below (unhide HBN))
      have HOA := hide (owns_below (unhide HOW) (unhide HBN))
      have HTA := hide ((unhide HT).go (unhide HBN))
      obtain ⟨mb, hmb⟩ : ∃ mb, mb = wr.heap.size := ⟨_, rfl⟩
      rw [← hmb] at HBX
      have hmA : mb < (wr.alloc (.cells #[.int .i64 kk, .int .i64 (f k).task, .int .i64 (f k).fn, .int .i64 (f k).line, .string (f k).text, .slice av (f k).nv capv] 73)).heap.size := by rw [hmb]; simp
      have hB2m : B2 ≤ mb := by omega
      by_cases k3 : kk = 3
      · have k3b : (kk != 3) = false := by rw [k3]; rfl
        have k3c : (kk == 3) = true := by rw [k3]; rfl
        have hsh : shown f k = St.after f k := by unfold shown; rw [if_pos (by rw [unhide HKK]; exact k3)]
        have HSH := hide hsh
        clear k3 hsh
        go_upto_if 19 with fail
        rw [← hmb]
        generalize wr.alloc (.cells #[.int .i64 kk, .int .i64 (f k).task, .int .i64 (f k).fn, .int .i64 (f k).line, .string (f k).text, .slice av (f k).nv capv] 73) = Wm at HBX HSA HOA HTA hmA ⊢
        have m0 : Wm.cell? ⟨mb, 0, none⟩ = some (.int .i64 kk) := by rw [cell_of_row Wm mb 0 _ _ _ (unhide HBX)]; rfl
        clear hc0 hc1 hc2 hc3 hc4 hc5 HBN HSP HOW HT hmb
        have HSm : Hid (SpecAt B Wm ps (shown f k)) := by rw [unhide HSH]; exact HSA
        have HOm := HOA
        have HTm := HTA
        have HXm := HBX
        have hmb2 := hmA
        clear HOA HTA HBX hmA HSA
        clear m0
        go_upto_region 8 with fail
        have c1 : Wm.cell? ⟨ps, 1, none⟩ = some (.int .i64 (shown f k).cur) := by obtain ⟨bt, V, hh⟩ := unhide HSm; exact hh.c1
        have HBO := hide (below_new Wm (.cells #[.bool false, .int .i64 (shown f k).cur, .int .i64 0, .int .i64 0, .int .i64 0] 206))
        have HOX := hide (heap_alloc_new Wm (.cells #[.bool false, .int .i64 (shown f k).cur, .int .i64 0, .int .i64 0, .int .i64 0] 206))
        go_wp2_with fail
        refine (top_any B ps (shown f k) _ ((unhide HSm).below (unhide HBO))).mono ?_
        rintro e w3 ⟨rfl, q, hq⟩
        have HBn : Hid (Below Wm.heap.size Wm w3) := by rw [hq]; exact hide (below_drewN (unhide HBO) _)
        have HOn : Hid (w3.heap[Wm.heap.size]? = some (.cells #[.bool false, .int .i64 (shown f k).cur, .int .i64 0, .int .i64 0, .int .i64 0] 206 (0, 0))) := by rw [hq]; exact hide (by simpa using unhide HOX)
        have hob : Wm.heap.size < w3.heap.size := by rw [hq]; simp
        have HSn := hide ((unhide HSm).below (unhide HBn))
        have HWn := hide (owns_below (unhide HOm) (unhide HBn))
        have HTn := hide ((unhide HTm).go (unhide HBn))
        have HXn : Hid (w3.heap[mb]? = some (.cells #[.int .i64 kk, .int .i64 (f k).task, .int .i64 (f k).fn, .int .i64 (f k).line, .string (f k).text, .slice av (f k).nv capv] 73 (0, 0))) := hide (((unhide HBn).block mb hmb2).trans (unhide HXm))
        obtain ⟨ob, hobe⟩ : ∃ ob, ob = Wm.heap.size := ⟨_, rfl⟩
        have hmo : mb < ob := by omega
        have hpo : ps < ob := by omega
        have HWO : Hid (∀ g, (Value.slice oa k oc).ownBlock = some g → B2 ≤ g ∧ g < ob) := hide (fun g hg => by have := (unhide HOm).lt g hg; omega)
        rw [← hobe] at HOn hob ⊢
        clear hq hobe HBn HBO HOX c1 HSm HOm HTm HXm hmb2
        cases htl : (shown f k).tasks (shown f k).cur with
        | nil =>
          have HCE := hide (ownCells_nil htl)
          have d0 : ((([] : List Fr).length : Int) - 1 : Int) = -1 := rfl
          have q0 : w3.cell? ⟨ob, 0, none⟩ = some (.bool false) := by rw [cell_of_row w3 ob 0 _ _ _ (unhide HOn)]; rfl
          have q1 : w3.cell? ⟨ob, 1, none⟩ = some (.int .i64 (shown f k).cur) := by rw [cell_of_row w3 ob 1 _ _ _ (unhide HOn)]; rfl
          have q2 : w3.cell? ⟨ob, 2, none⟩ = some (.int .i64 0) := by rw [cell_of_row w3 ob 2 _ _ _ (unhide HOn)]; rfl
          have q3 : w3.cell? ⟨ob, 3, none⟩ = some (.int .i64 0) := by rw [cell_of_row w3 ob 3 _ _ _ (unhide HOn)]; rfl
          have q4 : w3.cell? ⟨ob, 4, none⟩ = some (.int .i64 0) := by rw [cell_of_row w3 ob 4 _ _ _ (unhide HOn)]; rfl
          clear htl
          go_upto_region 12 with fail
          have HSx := HSn
          have HWx := HWn
          have HTx := HTn
          have HXx := HXn
          clear HOn HWO HSn HWn HTn HXn
          have hz13 : B2 ≤ w3.heap.size := (by omega)
          have HA := hide (owns_below (unhide HWx) (below_new w3 (.cells #[.bool false, .int .i64 (shown f k).cur, .int .i64 0, .int .i64 0, .int .i64 0] 206)))
          have HNW : Hid (∀ j u, ([.bool false, .int .i64 (shown f k).cur, .int .i64 0, .int .i64 0, .int .i64 0] : List Value)[j]? = some u → (w3.alloc (.cells #[.bool false, .int .i64 (shown f k).cur, .int .i64 0, .int .i64 0, .int .i64 0] 206)).cell? ((⟨w3.heap.size, 0, none⟩ : Addr).add j) = some u) := hide (World.news_of_block (cs := #[.bool false, .int .i64 (shown f k).cur, .int .i64 0, .int .i64 0, .int .i64 0]) (t := 206) (fr := (0, 0)) (heap_alloc_new w3 _))
          have HRT : Hid (∀ g, (Value.slice oa k oc).ownBlock = some g → (g ≠ ps ∧ ∃ cs ff, (w3.alloc (.cells #[.bool false, .int .i64 (shown f k).cur, .int .i64 0, .int .i64 0, .int .i64 0] 206)).heap[g]? = some (.cells cs 206 ff)) ∧ g ≠ mb) := hide (fun g hg => by
            obtain ⟨h1, cs, ff, h2⟩ := owns_typed (unhide HA) g hg
            refine ⟨⟨by omega, cs, ff, h2⟩, fun e => ?_⟩
            have h3 := unhide HXx
            have hl := heap_in h3
            rw [← e] at h3 hl
            rw [Below.heap_alloc w3 _ g hl, h3] at h2
            cases h2)
          go_upto_region 13 with (at_builtin; refine wpList_append_lies _ (by rfl) _ _ _ (by rfl) B2 206 i0 _ 5 40 Try.underlying176 (unhide II).1 (unhide II).2.1 (unhide II).2.2.1 (unhide II).2.2.2 rfl (by omega) (.slice oa k oc) k (ownRows f k) (by rfl) (unhide HA) ⟨w3.heap.size, 0, none⟩ 1 1 [.bool false, .int .i64 (shown f k).cur, .int .i64 0, .int .i64 0, .int .i64 0] (by rfl) (by rfl) (unhide HNW) (by simp [Value.oneCell']) (by omega) (by unfold maxLen; omega) (by omega) (by simp; omega) (w3.heap.size + 1) (by simp) ?_; intro g2 cp2 w7 hown hgrow _ _; have HO7 := hide hown; have HG7 := hide hgrow; clear hown hgrow)
          have HS7 := hide (((unhide HSx).below (below_new w3 (.cells #[.bool false, .int .i64 (shown f k).cur, .int .i64 0, .int .i64 0, .int .i64 0] 206))).turn (fun b => (Value.slice oa k oc).ownBlock = some b) (fun b hb hx => (unhide HG7).block b hb (fun e => hx e.symm)) (fun b hx => (unhide HRT b hx).1) (by decide) (by decide))
          have HT7 : Hid (TrBox w v1 (.slice (some ⟨bm, om, none⟩) n cap2) w7) := hide (Below.grown ((unhide HTx).go (below_new w3 (.cells #[.bool false, .int .i64 (shown f k).cur, .int .i64 0, .int .i64 0, .int .i64 0] 206))) (unhide HG7) (by simp; omega) (fun g hg => by have := ((unhide HA).lt g hg).1; omega))
          have HX7 : Hid (w7.heap[mb]? = some (.cells #[.int .i64 kk, .int .i64 (f k).task, .int .i64 (f k).fn, .int .i64 (f k).line, .string (f k).text, .slice av (f k).nv capv] 73 (0, 0))) := hide (by
            have h3 := unhide HXx
            rw [(unhide HG7).block mb (by have := heap_in h3; simp; omega) (fun e => (unhide HRT mb e.symm).2 rfl), Below.heap_alloc w3 _ mb (heap_in h3)]
            exact h3)
          have hw7 : B2 ≤ w7.heap.size := (by have := (unhide HG7).size; simp at this; omega)
          have HR7 : Hid (w7.ownsRow B2 206 5 (.slice (some ⟨g2, 0, none⟩) (k + 1) cp2) (k + 1) (ownRows f (k + 1))) := hide (by rw [ownRows_succ, unhide HCE]; exact unhide HO7)
          have m0 : w7.cell? ⟨mb, 0, none⟩ = some (.int .i64 kk) := by rw [cell_of_row w7 mb 0 _ _ _ (unhide HX7)]; rfl
          clear HA HNW HRT HG7 HO7 HSx HWx HTx HXx q0 q1 q2 q3 q4 hz13
          have m1 : w7.cell? ⟨mb, 1, none⟩ = some (.int .i64 (f k).task) := by rw [cell_of_row w7 mb 1 _ _ _ (unhide HX7)]; rfl
          have m2 : w7.cell? ⟨mb, 2, none⟩ = some (.int .i64 (f k).fn) := by rw [cell_of_row w7 mb 2 _ _ _ (unhide HX7)]; rfl
          have m3 : w7.cell? ⟨mb, 3, none⟩ = some (.int .i64 (f k).line) := by rw [cell_of_row w7 mb 3 _ _ _ (unhide HX7)]; rfl
          have m4 : w7.cell? ⟨mb, 4, none⟩ = some (.string (f k).text) := by rw [cell_of_row w7 mb 4 _ _ _ (unhide HX7)]; rfl
          have m5 : w7.cell? ⟨mb, 5, none⟩ = some (.slice av (f k).nv capv) := by rw [cell_of_row w7 mb 5 _ _ _ (unhide HX7)]; rfl
          go_wp2_with fail
          refine (move_any B ps (St.after f k) _ _ _ _ _ _ _ _ (by rw [← unhide HSH]; exact unhide HS7) ht1 ht2).mono ?_
          rintro e w8 ⟨rfl, hsp8, hb8, hkp⟩
          have HS8 : Hid (SpecAt B w8 ps (St.after f (k + 1))) := by
            have h := hsp8 (by have := unhide HCODE; unfold codeAt at this; rw [unhide HKK] at this; exact this)
            have e : St.after f (k + 1) = (St.after f k).step (f k).kind (f k).task (f k).fn (f k).line k := rfl
            rw [e, unhide HKK]
            exact hide h
          have HR8 := hide (owns_keeps (unhide HR7) hkp (by decide) (by decide) hps1)
          have HT8 : Hid (TrBox w v1 (.slice (some ⟨bm, om, none⟩) n cap2) w8) := hide (Below.trans (unhide HT7) (hb8.mono (by omega)))
          have hw8 : B2 ≤ w8.heap.size := Nat.le_trans hw7 hb8.size
          clear hsp8 hb8 hkp m0 m1 m2 m3 m4 m5
          go_wp2_with fail
          go_roundg (n - (k + 1))
          case measure => omega
          case rel => exact ⟨k + 1, some ⟨g2, 0, none⟩, cp2, by omega, by go_num, rfl, unhide HS8, unhide HR8, unhide HT8, hw8⟩

        | cons fr r =>
          have HCE := hide (ownCells_cons htl)
          obtain ⟨bt, V, hh⟩ := unhide HSn
          have y0 := hh.c0
          have y1 := hh.c1
          have hcu := hh.cur
          have y2 := hh.row.cell hcu
          have ylen := hh.len _ hcu
          have yo := hh.own _ hcu
          have ynb := hh.row.lt
          rw [htl] at yo ylen
          obtain ⟨tg, tcap, hV, -, -, z0, z1, z2, -⟩ := owns_top yo
          have htg : tg < w3.heap.size := (yo.lt tg (by rw [hV]; rfl)).2
          rw [hV] at y2
          have yt1 : ob ≠ tg := fun e => by
            obtain ⟨_, cs, fr', h1⟩ := owns_typed yo tg (by rw [hV]; rfl)
            rw [← e, unhide HOn] at h1; cases h1
          have yt2 : ob ≠ bt := fun e => by
            obtain ⟨cb, hcb, -, -⟩ := hh.row
            rw [← e, unhide HOn] at hcb; cases hcb
          have hpo2 : ob ≠ ps := by omega
          have HTOP : Hid (∀ W, SpecAt B W ps (shown f k) → Calls Try.prog 115 #[.pointer (some ⟨ps, 0, none⟩)] W fun e w' => e = .returned (.int .i64 (r.length : Int)) ∧ ∃ q, w' = W.drewN q) := hide (fun W hW => (top_any B ps _ W hW).mono (fun e w' h => ⟨by rw [h.1, htl]; simp, h.2⟩))
          have q0 : w3.cell? ⟨ob, 0, none⟩ = some (.bool false) := by rw [cell_of_row w3 ob 0 _ _ _ (unhide HOn)]; rfl
          have qf : w3.frozen? ⟨ob, 0, none⟩ = false := frozen_of_row _ _ _ _ _ (unhide HOn)
          have HSp := hide ((unhide HSn).turn (w' := w3.setCell ⟨ob, 0, none⟩ (.bool true)) (fun b => b = ob) (fun b _ hx => heap_setCell_other _ _ _ _ hx) (fun b hx => by rw [hx]; exact ⟨by omega, _, _, unhide HOn⟩) (by decide) (by decide))
          have HWp : Hid ((w3.setCell ⟨ob, 0, none⟩ (.bool true)).ownsRow B2 206 5 (.slice oa k oc) k (ownRows f k)) := hide (owns_setCell (unhide HWn) (fun e => by have h1 : B2 ≤ ob ∧ ob < ob := unhide HWO _ e; omega))
          have HTp : Hid (TrBox w v1 (.slice (some ⟨bm, om, none⟩) n cap2) (w3.setCell ⟨ob, 0, none⟩ (.bool true))) := hide (Below.setCell (p := ⟨ob, 0, none⟩) (unhide HTn) (by show w.heap.size + 1 ≤ ob; omega) _)
          have HXp : Hid ((w3.setCell ⟨ob, 0, none⟩ (.bool true)).heap[mb]? = some (.cells #[.int .i64 kk, .int .i64 (f k).task, .int .i64 (f k).fn, .int .i64 (f k).line, .string (f k).text, .slice av (f k).nv capv] 73 (0, 0))) := hide ((heap_setCell_other _ _ _ _ (by show mb ≠ ob; omega)).trans (unhide HXn))
          have HOp : Hid ((w3.setCell ⟨ob, 0, none⟩ (.bool true)).heap[ob]? = some (.cells #[.bool true, .int .i64 (shown f k).cur, .int .i64 0, .int .i64 0, .int .i64 0] 206 (0, 0))) := hide (heap_setCell_same _ _ _ _ _ _ (unhide HOn))
          have y0 := cell_set_ne (p := ⟨ps, 0, none⟩) (q := ⟨ob, 0, none⟩) (u := .bool true) hpo2 y0
          have y1 := cell_set_ne (p := ⟨ps, 1, none⟩) (q := ⟨ob, 0, none⟩) (u := .bool true) hpo2 y1
          have y2 := cell_set_ne (q := ⟨ob, 0, none⟩) (u := .bool true) (show (⟨ob, 0, none⟩ : Addr).block ≠ bt from yt2) y2
          have z0 := cell_set_ne (q := ⟨ob, 0, none⟩) (u := .bool true) (show (⟨ob, 0, none⟩ : Addr).block ≠ tg from yt1) z0
          have z1 := cell_set_ne (q := ⟨ob, 0, none⟩) (u := .bool true) (show (⟨ob, 0, none⟩ : Addr).block ≠ tg from yt1) z1
          have z2 := cell_set_ne (q := ⟨ob, 0, none⟩) (u := .bool true) (show (⟨ob, 0, none⟩ : Addr).block ≠ tg from yt1) z2
          have hd0 : decide ((0 : Int) ≤ (((fr :: r).length : Nat) : Int) - 1) = true := by simp
          have hsp : ob < (w3.setCell ⟨ob, 0, none⟩ (.bool true)).heap.size := by simp; exact hob
          clear hV yo hh
          go_upto_region 11 with fail
          generalize w3.setCell ⟨ob, 0, none⟩ (.bool true) = Wp at HSp HWp HTp HXp HOp y0 y1 y2 z0 z1 z2 hsp ⊢
          clear HOn HSn HWn HTn HXn q0 qf hd0 hob htg ynb
          have hr200 : r.length < 200 := by simp at ylen; omega
          clear ylen
          have HBd : Hid (∀ p, Below Wp.heap.size Wp (Wp.drew.drewN p)) := hide (fun p => below_drewN (Below.refl _ _).drew p)
          have hcz : (0 : Int) ≤ ((shown f k).cur : Int) := by omega
          have hcy : ((shown f k).cur : Int) < 101 := by omega
          generalize r.length = rn at *
          have hra : (0 : Int) ≤ (rn : Int) := by omega
          have hrb : (rn : Int) < (rn : Int) + 1 := by omega
          have x2 : Wp.cell? ⟨ob, 2, none⟩ = some (.int .i64 0) := by rw [cell_of_row _ ob 2 _ _ _ (unhide HOp)]; rfl
          have x3 : Wp.cell? ⟨ob, 3, none⟩ = some (.int .i64 0) := by rw [cell_of_row _ ob 3 _ _ _ (unhide HOp)]; rfl
          have x4 : Wp.cell? ⟨ob, 4, none⟩ = some (.int .i64 0) := by rw [cell_of_row _ ob 4 _ _ _ (unhide HOp)]; rfl
          have xf2 : Wp.frozen? ⟨ob, 2, none⟩ = false := frozen_of_row _ _ _ _ _ (unhide HOp)
          have xf3 : Wp.frozen? ⟨ob, 3, none⟩ = false := frozen_of_row _ _ _ _ _ (unhide HOp)
          have xf4 : Wp.frozen? ⟨ob, 4, none⟩ = false := frozen_of_row _ _ _ _ _ (unhide HOp)
          refine wp_region_held_drew (S := fun w' => w'.cell? ⟨ps, 0, none⟩ = some (.slice (some ⟨bt, 0, none⟩) 101 101) ∧ w'.cell? ⟨ps, 1, none⟩ = some (.int .i64 (shown f k).cur) ∧ w'.cell? ⟨bt, (shown f k).cur, none⟩ = some (.slice (some ⟨tg, 0, none⟩) (rn + 1) tcap) ∧ w'.cell? ⟨tg, rn * 3, none⟩ = some (.int .i64 fr.fn) ∧ w'.cell? ⟨tg, rn * 3 + 1, none⟩ = some (.int .i64 fr.line) ∧ w'.cell? ⟨tg, rn * 3 + 2, none⟩ = some (.int .i64 fr.frm)) (by kernel_rfl) ⟨y0, y1, y2, z0, z1, z2⟩ (fun hHeld => ?_)
          refine takeAt 0 (some 33) (v := ?v0Z) (by decide) rfl (by kernel_rfl) (by kernel_rfl) (by kernel_rfl) (fun _ _ _ h => h) (by rfl) ?hy0Z (by assumption) ?r0Z
          case hy0Z => (intro wx hSw; go_simp; with_reducible rfl)
          simp only [Act.put, List.setIfInBounds_toArray, List.set_cons_zero, List.set_cons_succ]
          refine takeAt 1 (some 34) (v := ?v1Z) (by decide) rfl (by kernel_rfl) (by kernel_rfl) (by kernel_rfl) (fun _ _ _ h => h) (by rfl) ?hy1Z (by assumption) ?r1Z
          case hy1Z => (intro wx hSw; go_simp; with_reducible rfl)
          simp only [Act.put, List.setIfInBounds_toArray, List.set_cons_zero, List.set_cons_succ]
          refine takeAt 2 (some 35) (v := ?v2Z) (by decide) rfl (by kernel_rfl) (by kernel_rfl) (by kernel_rfl) (fun _ _ _ h => h) (by rfl) ?hy2Z (by assumption) ?r2Z
          case hy2Z => (intro wx hSw; go_simp; with_reducible rfl)
          simp only [Act.put, List.setIfInBounds_toArray, List.set_cons_zero, List.set_cons_succ]
          refine takeAt 3 (some 36) (v := ?v3Z) (by decide) rfl (by kernel_rfl) (by kernel_rfl) (by kernel_rfl) (fun _ _ _ h => h) (by rfl) ?hy3Z (by assumption) ?r3Z
          case hy3Z => (intro wx hSw; go_simp; with_reducible rfl)
          simp only [Act.put, List.setIfInBounds_toArray, List.set_cons_zero, List.set_cons_succ]
          refine takeAt 4 (some 37) (v := ?v4Z) (by decide) rfl (by kernel_rfl) (by kernel_rfl) (by kernel_rfl) (fun _ _ _ h => h) (by rfl) ?hy4Z (by assumption) ?r4Z
          case hy4Z => (intro wx hSw; go_simp; with_reducible rfl)
          simp only [Act.put, List.setIfInBounds_toArray, List.set_cons_zero, List.set_cons_succ]
          refine takeAt 5 (some 38) (v := ?v5Z) (by decide) rfl (by kernel_rfl) (by kernel_rfl) (by kernel_rfl) (fun _ _ _ h => h) (by rfl) ?hy5Z (by assumption) ?r5Z
          case hy5Z => (intro wx hSw; go_simp; with_reducible rfl)
          simp only [Act.put, List.setIfInBounds_toArray, List.set_cons_zero, List.set_cons_succ]
          refine takeAt 6 (some 39) (v := ?v6Z) (by decide) rfl (by kernel_rfl) (by kernel_rfl) (by kernel_rfl) (fun _ _ _ h => h) (by rfl) ?hy6Z (by assumption) ?r6Z
          case hy6Z => (intro wx hSw; go_simp; with_reducible rfl)
          simp only [Act.put, List.setIfInBounds_toArray, List.set_cons_zero, List.set_cons_succ]
          refine takeAt 7 (some 40) (v := ?v7Z) (by decide) rfl (by kernel_rfl) (by kernel_rfl) (by kernel_rfl) (fun _ _ _ h => h) (by rfl) ?hy7Z (by assumption) ?r7Z
          case hy7Z => (intro wx hSw; go_simp; with_reducible rfl)
          simp only [Act.put, List.setIfInBounds_toArray, List.set_cons_zero, List.set_cons_succ]
          refine takeAt 8 (some 41) (v := ?v8Z) (by decide) rfl (by kernel_rfl) (by kernel_rfl) (by kernel_rfl) (fun _ _ _ h => h) (by rfl) ?hy8Z (by assumption) ?r8Z
          case hy8Z => (intro wx hSw; go_simp; with_reducible rfl)
          simp only [Act.put, List.setIfInBounds_toArray, List.set_cons_zero, List.set_cons_succ]
          refine takeAt 9 (some 42) (v := ?v9Z) (by decide) rfl (by kernel_rfl) (by kernel_rfl) (by kernel_rfl) (fun _ _ _ h => h) (by rfl) ?hy9Z (by assumption) ?r9Z
          case hy9Z => (intro wx hSw; go_simp; with_reducible rfl)
          simp only [Act.put, List.setIfInBounds_toArray, List.set_cons_zero, List.set_cons_succ]
          refine takeAt 10 (some 43) (v := ?v10Z) (by decide) rfl (by kernel_rfl) (by kernel_rfl) (by kernel_rfl) (fun _ _ _ h => h) (by rfl) ?hy10Z (by assumption) ?r10Z
          case hy10Z => (intro wx hSw; go_simp; with_reducible rfl)
          simp only [Act.put, List.setIfInBounds_toArray, List.set_cons_zero, List.set_cons_succ]

          refine wpAnyH_ready (rs := [11]) (by kernel_rfl) (by simp) ?_
          refine AllReadyH.cons rfl (fun K hK => ?_) AllReadyH.nil
          go_simp
          refine (unhide HTOP _ ((unhide HSp).below (Below.refl _ _).drew)).mono ?_
          rintro e wA ⟨rfl, qA, hqA⟩
          subst hqA
          refine hK.out _ _ ⟨cell_below (unhide HBd qA) y0, cell_below (unhide HBd qA) y1, cell_below (unhide HBd qA) y2, cell_below (unhide HBd qA) z0, cell_below (unhide HBd qA) z1, cell_below (unhide HBd qA) z2⟩ (fun hHeld => ?_)
          clear hK K
          try simp only [Act.put, List.setIfInBounds_toArray, List.getElem_toArray, List.getElem_cons_succ, List.getElem_cons_zero, List.set_cons_zero, List.set_cons_succ]
          refine takeAt 12 (some 45) (v := ?v12Z) (by decide) rfl (by kernel_rfl) (by kernel_rfl) (by kernel_rfl) (fun _ _ _ h => h) (by rfl) ?hy12Z (by assumption) ?r12Z
          case hy12Z => (intro wx hSw; go_simp; with_reducible rfl)
          simp only [Act.put, List.setIfInBounds_toArray, List.set_cons_zero, List.set_cons_succ]
          refine takeAt 13 (some 46) (v := ?v13Z) (by decide) rfl (by kernel_rfl) (by kernel_rfl) (by kernel_rfl) (fun _ _ _ h => h) (by rfl) ?hy13Z (by assumption) ?r13Z
          case hy13Z => (intro wx hSw; go_simp; with_reducible rfl)
          simp only [Act.put, List.setIfInBounds_toArray, List.set_cons_zero, List.set_cons_succ]
          refine takeAt 14 (some 47) (v := ?v14Z) (by decide) rfl (by kernel_rfl) (by kernel_rfl) (by kernel_rfl) (fun _ _ _ h => h) (by rfl) ?hy14Z (by assumption) ?r14Z
          case hy14Z => (intro wx hSw; go_simp; with_reducible rfl)
          simp only [Act.put, List.setIfInBounds_toArray, List.set_cons_zero, List.set_cons_succ]

          refine wpAnyH_ready (rs := [15]) (by kernel_rfl) (by simp) ?_
          refine AllReadyH.cons rfl (fun K hK => ?_) AllReadyH.nil
          go_simp
          have HBe : Hid (Below Wp.heap.size Wp (Wp.drewN (1 + qA))) := hide (below_drewN (Below.refl _ _) _)
          refine hK.out _ _ ⟨cell_set3 hpo2 (cell_below (unhide HBe) y0), cell_set3 hpo2 (cell_below (unhide HBe) y1), cell_set3 yt2 (cell_below (unhide HBe) y2), cell_set3 yt1 (cell_below (unhide HBe) z0), cell_set3 yt1 (cell_below (unhide HBe) z1), cell_set3 yt1 (cell_below (unhide HBe) z2)⟩ (fun hHeld => ?_)
          clear hK K
          refine wpAnyH_done (by kernel_rfl) ?_ _
          have HOe : Hid ((Wp.drewN (1 + qA)).heap[ob]? = some (.cells #[.bool true, .int .i64 (shown f k).cur, .int .i64 0, .int .i64 0, .int .i64 0] 206 (0, 0))) := hide (by rw [(unhide HBe).block ob hsp]; exact unhide HOp)
          have HSe := hide ((unhide HSp).below (unhide HBe))
          have HWe := hide (owns_below (unhide HWp) (unhide HBe))
          have HTe := hide ((unhide HTp).go (unhide HBe))
          have HXe : Hid ((Wp.drewN (1 + qA)).heap[mb]? = some (.cells #[.int .i64 kk, .int .i64 (f k).task, .int .i64 (f k).fn, .int .i64 (f k).line, .string (f k).text, .slice av (f k).nv capv] 73 (0, 0))) := hide (by rw [(unhide HBe).block mb (by omega)]; exact unhide HXp)
          have hoe : ob < (Wp.drewN (1 + qA)).heap.size := heap_in (unhide HOe)
          clear HBe HBd hHeld y0 y1 y2 z0 z1 z2 x2 x3 x4 xf2 xf3 xf4 HSp HWp HTp HXp HOp hsp HTOP hcz hcy hra hrb
          generalize Wp.drewN (1 + qA) = We at HOe HSe HWe HTe HXe hoe ⊢
          have HOx := heap_setCell_same _ _ 4 _ _ (.int .i64 fr.frm) (heap_setCell_same _ _ 3 _ _ (.int .i64 fr.line) (heap_setCell_same _ _ 2 _ _ (.int .i64 fr.fn) (unhide HOe)))
          have HSx := hide ((unhide HSe).turn (w' := ((We.setCell ⟨ob, 2, none⟩ (.int .i64 fr.fn)).setCell ⟨ob, 3, none⟩ (.int .i64 fr.line)).setCell ⟨ob, 4, none⟩ (.int .i64 fr.frm)) (fun b => b = ob) (fun b _ hx => by rw [heap_setCell_other _ _ _ _ hx, heap_setCell_other _ _ _ _ hx, heap_setCell_other _ _ _ _ hx]) (fun b hx => by rw [hx]; exact ⟨by omega, _, _, unhide HOe⟩) (by decide) (by decide))
          have hno : (Value.slice oa k oc).ownBlock ≠ some ob := fun e => by have h1 : B2 ≤ ob ∧ ob < ob := unhide HWO _ e; omega
          have HWx := hide (owns_setCell (owns_setCell (owns_setCell (unhide HWe) (a := ⟨ob, 2, none⟩) (u := .int .i64 fr.fn) hno) (a := ⟨ob, 3, none⟩) (u := .int .i64 fr.line) hno) (a := ⟨ob, 4, none⟩) (u := .int .i64 fr.frm) hno)
          have hwo : w.heap.size + 1 ≤ ob := by omega
          have HTx : Hid (TrBox w v1 (.slice (some ⟨bm, om, none⟩) n cap2) (((We.setCell ⟨ob, 2, none⟩ (.int .i64 fr.fn)).setCell ⟨ob, 3, none⟩ (.int .i64 fr.line)).setCell ⟨ob, 4, none⟩ (.int .i64 fr.frm))) := hide (Below.setCell (p := ⟨ob, 4, none⟩) (Below.setCell (p := ⟨ob, 3, none⟩) (Below.setCell (p := ⟨ob, 2, none⟩) (unhide HTe) hwo _) hwo _) hwo _)
          have hmob : mb ≠ ob := by omega
          have HXx : Hid ((((We.setCell ⟨ob, 2, none⟩ (.int .i64 fr.fn)).setCell ⟨ob, 3, none⟩ (.int .i64 fr.line)).setCell ⟨ob, 4, none⟩ (.int .i64 fr.frm)).heap[mb]? = some (.cells #[.int .i64 kk, .int .i64 (f k).task, .int .i64 (f k).fn, .int .i64 (f k).line, .string (f k).text, .slice av (f k).nv capv] 73 (0, 0))) := hide (by rw [heap_setCell_other _ _ _ _ hmob, heap_setCell_other _ _ _ _ hmob, heap_setCell_other _ _ _ _ hmob]; exact unhide HXe)
          have hoe2 : ob < (((We.setCell ⟨ob, 2, none⟩ (.int .i64 fr.fn)).setCell ⟨ob, 3, none⟩ (.int .i64 fr.line)).setCell ⟨ob, 4, none⟩ (.int .i64 fr.frm)).heap.size := heap_in HOx
          clear HOe HSe HWe HTe HXe hoe HWO hno hmob
          generalize ((We.setCell ⟨ob, 2, none⟩ (.int .i64 fr.fn)).setCell ⟨ob, 3, none⟩ (.int .i64 fr.line)).setCell ⟨ob, 4, none⟩ (.int .i64 fr.frm) = Wx at HOx HSx HWx HTx HXx hoe2 ⊢
          have q0 : Wx.cell? ⟨ob, 0, none⟩ = some (.bool true) := by rw [cell_of_row Wx ob 0 _ _ _ HOx]; rfl
          have q1 : Wx.cell? ⟨ob, 1, none⟩ = some (.int .i64 (shown f k).cur) := by rw [cell_of_row Wx ob 1 _ _ _ HOx]; rfl
          have q2 : Wx.cell? ⟨ob, 2, none⟩ = some (.int .i64 fr.fn) := by rw [cell_of_row Wx ob 2 _ _ _ HOx]; rfl
          have q3 : Wx.cell? ⟨ob, 3, none⟩ = some (.int .i64 fr.line) := by rw [cell_of_row Wx ob 3 _ _ _ HOx]; rfl
          have q4 : Wx.cell? ⟨ob, 4, none⟩ = some (.int .i64 fr.frm) := by rw [cell_of_row Wx ob 4 _ _ _ HOx]; rfl
          clear HOx
          go_upto_region 12 with fail
          have hz13 : B2 ≤ Wx.heap.size := (by omega)
          have HA := hide (owns_below (unhide HWx) (below_new Wx (.cells #[.bool true, .int .i64 (shown f k).cur, .int .i64 fr.fn, .int .i64 fr.line, .int .i64 fr.frm] 206)))
          have HNW : Hid (∀ j u, ([.bool true, .int .i64 (shown f k).cur, .int .i64 fr.fn, .int .i64 fr.line, .int .i64 fr.frm] : List Value)[j]? = some u → (Wx.alloc (.cells #[.bool true, .int .i64 (shown f k).cur, .int .i64 fr.fn, .int .i64 fr.line, .int .i64 fr.frm] 206)).cell? ((⟨Wx.heap.size, 0, none⟩ : Addr).add j) = some u) := hide (World.news_of_block (cs := #[.bool true, .int .i64 (shown f k).cur, .int .i64 fr.fn, .int .i64 fr.line, .int .i64 fr.frm]) (t := 206) (fr := (0, 0)) (heap_alloc_new Wx _))
          have HRT : Hid (∀ g, (Value.slice oa k oc).ownBlock = some g → (g ≠ ps ∧ ∃ cs ff, (Wx.alloc (.cells #[.bool true, .int .i64 (shown f k).cur, .int .i64 fr.fn, .int .i64 fr.line, .int .i64 fr.frm] 206)).heap[g]? = some (.cells cs 206 ff)) ∧ g ≠ mb) := hide (fun g hg => by
            obtain ⟨h1, cs, ff, h2⟩ := owns_typed (unhide HA) g hg
            refine ⟨⟨by omega, cs, ff, h2⟩, fun e => ?_⟩
            have h3 := unhide HXx
            have hl := heap_in h3
            rw [← e] at h3 hl
            rw [Below.heap_alloc Wx _ g hl, h3] at h2
            cases h2)
          go_upto_region 13 with (at_builtin; refine wpList_append_lies _ (by rfl) _ _ _ (by rfl) B2 206 i0 _ 5 40 Try.underlying176 (unhide II).1 (unhide II).2.1 (unhide II).2.2.1 (unhide II).2.2.2 rfl (by omega) (.slice oa k oc) k (ownRows f k) (by rfl) (unhide HA) ⟨Wx.heap.size, 0, none⟩ 1 1 [.bool true, .int .i64 (shown f k).cur, .int .i64 fr.fn, .int .i64 fr.line, .int .i64 fr.frm] (by rfl) (by rfl) (unhide HNW) (by simp [Value.oneCell']) (by omega) (by unfold maxLen; omega) (by omega) (by simp; omega) (Wx.heap.size + 1) (by simp) ?_; intro g2 cp2 w7 hown hgrow _ _; have HO7 := hide hown; have HG7 := hide hgrow; clear hown hgrow)
          have HS7 := hide (((unhide HSx).below (below_new Wx (.cells #[.bool true, .int .i64 (shown f k).cur, .int .i64 fr.fn, .int .i64 fr.line, .int .i64 fr.frm] 206))).turn (fun b => (Value.slice oa k oc).ownBlock = some b) (fun b hb hx => (unhide HG7).block b hb (fun e => hx e.symm)) (fun b hx => (unhide HRT b hx).1) (by decide) (by decide))
          have HT7 : Hid (TrBox w v1 (.slice (some ⟨bm, om, none⟩) n cap2) w7) := hide (Below.grown ((unhide HTx).go (below_new Wx (.cells #[.bool true, .int .i64 (shown f k).cur, .int .i64 fr.fn, .int .i64 fr.line, .int .i64 fr.frm] 206))) (unhide HG7) (by simp; omega) (fun g hg => by have := ((unhide HA).lt g hg).1; omega))
          have HX7 : Hid (w7.heap[mb]? = some (.cells #[.int .i64 kk, .int .i64 (f k).task, .int .i64 (f k).fn, .int .i64 (f k).line, .string (f k).text, .slice av (f k).nv capv] 73 (0, 0))) := hide (by
            have h3 := unhide HXx
            rw [(unhide HG7).block mb (by have := heap_in h3; simp; omega) (fun e => (unhide HRT mb e.symm).2 rfl), Below.heap_alloc Wx _ mb (heap_in h3)]
            exact h3)
          have hw7 : B2 ≤ w7.heap.size := (by have := (unhide HG7).size; simp at this; omega)
          have HR7 : Hid (w7.ownsRow B2 206 5 (.slice (some ⟨g2, 0, none⟩) (k + 1) cp2) (k + 1) (ownRows f (k + 1))) := hide (by rw [ownRows_succ, unhide HCE]; exact unhide HO7)
          have m0 : w7.cell? ⟨mb, 0, none⟩ = some (.int .i64 kk) := by rw [cell_of_row w7 mb 0 _ _ _ (unhide HX7)]; rfl
          clear HA HNW HRT HG7 HO7 HSx HWx HTx HXx q0 q1 q2 q3 q4 hz13
          have m1 : w7.cell? ⟨mb, 1, none⟩ = some (.int .i64 (f k).task) := by rw [cell_of_row w7 mb 1 _ _ _ (unhide HX7)]; rfl
          have m2 : w7.cell? ⟨mb, 2, none⟩ = some (.int .i64 (f k).fn) := by rw [cell_of_row w7 mb 2 _ _ _ (unhide HX7)]; rfl
          have m3 : w7.cell? ⟨mb, 3, none⟩ = some (.int .i64 (f k).line) := by rw [cell_of_row w7 mb 3 _ _ _ (unhide HX7)]; rfl
          have m4 : w7.cell? ⟨mb, 4, none⟩ = some (.string (f k).text) := by rw [cell_of_row w7 mb 4 _ _ _ (unhide HX7)]; rfl
          have m5 : w7.cell? ⟨mb, 5, none⟩ = some (.slice av (f k).nv capv) := by rw [cell_of_row w7 mb 5 _ _ _ (unhide HX7)]; rfl
          go_wp2_with fail
          refine (move_any B ps (St.after f k) _ _ _ _ _ _ _ _ (by rw [← unhide HSH]; exact unhide HS7) ht1 ht2).mono ?_
          rintro e w8 ⟨rfl, hsp8, hb8, hkp⟩
          have HS8 : Hid (SpecAt B w8 ps (St.after f (k + 1))) := by
            have h := hsp8 (by have := unhide HCODE; unfold codeAt at this; rw [unhide HKK] at this; exact this)
            have e : St.after f (k + 1) = (St.after f k).step (f k).kind (f k).task (f k).fn (f k).line k := rfl
            rw [e, unhide HKK]
            exact hide h
          have HR8 := hide (owns_keeps (unhide HR7) hkp (by decide) (by decide) hps1)
          have HT8 : Hid (TrBox w v1 (.slice (some ⟨bm, om, none⟩) n cap2) w8) := hide (Below.trans (unhide HT7) (hb8.mono (by omega)))
          have hw8 : B2 ≤ w8.heap.size := Nat.le_trans hw7 hb8.size
          clear hsp8 hb8 hkp m0 m1 m2 m3 m4 m5
          go_wp2_with fail
          go_roundg (n - (k + 1))
          case measure => omega
          case rel => exact ⟨k + 1, some ⟨g2, 0, none⟩, cp2, by omega, by go_num, rfl, unhide HS8, unhide HR8, unhide HT8, hw8⟩
      · have k3b : (kk != 3) = true := by simpa using k3
        have k3c : (kk == 3) = false := by simpa using k3
        have hsh : shown f k = St.after f (k + 1) := by unfold shown; rw [if_neg (by rw [unhide HKK]; exact k3)]
        have HSH := hide hsh
        clear k3 hsh
        go_upto_if 19 with fail
        rw [← hmb]
        generalize wr.alloc (.cells #[.int .i64 kk, .int .i64 (f k).task, .int .i64 (f k).fn, .int .i64 (f k).line, .string (f k).text, .slice av (f k).nv capv] 73) = WA at HBX HSA HOA HTA hmA ⊢
        have m0 : WA.cell? ⟨mb, 0, none⟩ = some (.int .i64 kk) := by rw [cell_of_row WA mb 0 _ _ _ (unhide HBX)]; rfl
        have m1 : WA.cell? ⟨mb, 1, none⟩ = some (.int .i64 (f k).task) := by rw [cell_of_row WA mb 1 _ _ _ (unhide HBX)]; rfl
        have m2 : WA.cell? ⟨mb, 2, none⟩ = some (.int .i64 (f k).fn) := by rw [cell_of_row WA mb 2 _ _ _ (unhide HBX)]; rfl
        have m3 : WA.cell? ⟨mb, 3, none⟩ = some (.int .i64 (f k).line) := by rw [cell_of_row WA mb 3 _ _ _ (unhide HBX)]; rfl
        have m4 : WA.cell? ⟨mb, 4, none⟩ = some (.string (f k).text) := by rw [cell_of_row WA mb 4 _ _ _ (unhide HBX)]; rfl
        have m5 : WA.cell? ⟨mb, 5, none⟩ = some (.slice av (f k).nv capv) := by rw [cell_of_row WA mb 5 _ _ _ (unhide HBX)]; rfl
        clear hc0 hc1 hc2 hc3 hc4 hc5 HBN HSP HOW HT hmb
        go_wp2_with fail
        refine (move_any B ps (St.after f k) _ _ _ _ _ _ _ _ (unhide HSA) ht1 ht2).mono ?_
        rintro e Wm ⟨rfl, hsp, hb2, hkp⟩
        have HSm : Hid (SpecAt B Wm ps (shown f k)) := by
          rw [unhide HSH]
          have h := hsp (by have := unhide HCODE; unfold codeAt at this; rw [unhide HKK] at this; exact this)
          have e : St.after f (k + 1) = (St.after f k).step (f k).kind (f k).task (f k).fn (f k).line k := rfl
          rw [e, unhide HKK]
          exact hide h
        have HOm := hide (owns_keeps (unhide HOA) hkp (by decide) (by decide) hps1)
        have HTm : Hid (TrBox w v1 (.slice (some ⟨bm, om, none⟩) n cap2) Wm) := hide (Below.trans (unhide HTA) (hb2.mono (by omega)))
        have HXm := hide ((hkp _ _ _ _ (unhide HBX) (by omega) (by decide) (by decide)).trans (unhide HBX))
        have hmb2 : mb < Wm.heap.size := Nat.lt_of_lt_of_le hmA hb2.size
        clear hsp hb2 hkp HBX HSA HOA HTA hmA m0 m1 m2 m3 m4 m5
        generalize code (St.after f k) kk (f k).task (f k).fn = cd
        go_upto_region 8 with fail
        have c1 : Wm.cell? ⟨ps, 1, none⟩ = some (.int .i64 (shown f k).cur) := by obtain ⟨bt, V, hh⟩ := unhide HSm; exact hh.c1
        have HBO := hide (below_new Wm (.cells #[.bool false, .int .i64 (shown f k).cur, .int .i64 0, .int .i64 0, .int .i64 0] 206))
        have HOX := hide (heap_alloc_new Wm (.cells #[.bool false, .int .i64 (shown f k).cur, .int .i64 0, .int .i64 0, .int .i64 0] 206))
        go_wp2_with fail
        refine (top_any B ps (shown f k) _ ((unhide HSm).below (unhide HBO))).mono ?_
        rintro e w3 ⟨rfl, q, hq⟩
        have HBn : Hid (Below Wm.heap.size Wm w3) := by rw [hq]; exact hide (below_drewN (unhide HBO) _)
        have HOn : Hid (w3.heap[Wm.heap.size]? = some (.cells #[.bool false, .int .i64 (shown f k).cur, .int .i64 0, .int .i64 0, .int .i64 0] 206 (0, 0))) := by rw [hq]; exact hide (by simpa using unhide HOX)
        have hob : Wm.heap.size < w3.heap.size := by rw [hq]; simp
        have HSn := hide ((unhide HSm).below (unhide HBn))
        have HWn := hide (owns_below (unhide HOm) (unhide HBn))
        have HTn := hide ((unhide HTm).go (unhide HBn))
        have HXn : Hid (w3.heap[mb]? = some (.cells #[.int .i64 kk, .int .i64 (f k).task, .int .i64 (f k).fn, .int .i64 (f k).line, .string (f k).text, .slice av (f k).nv capv] 73 (0, 0))) := hide (((unhide HBn).block mb hmb2).trans (unhide HXm))
        obtain ⟨ob, hobe⟩ : ∃ ob, ob = Wm.heap.size := ⟨_, rfl⟩
        have hmo : mb < ob := by omega
        have hpo : ps < ob := by omega
        have HWO : Hid (∀ g, (Value.slice oa k oc).ownBlock = some g → B2 ≤ g ∧ g < ob) := hide (fun g hg => by have := (unhide HOm).lt g hg; omega)
        rw [← hobe] at HOn hob ⊢
        clear hq hobe HBn HBO HOX c1 HSm HOm HTm HXm hmb2
        cases htl : (shown f k).tasks (shown f k).cur with
        | nil =>
          have HCE := hide (ownCells_nil htl)
          have d0 : ((([] : List Fr).length : Int) - 1 : Int) = -1 := rfl
          have q0 : w3.cell? ⟨ob, 0, none⟩ = some (.bool false) := by rw [cell_of_row w3 ob 0 _ _ _ (unhide HOn)]; rfl
          have q1 : w3.cell? ⟨ob, 1, none⟩ = some (.int .i64 (shown f k).cur) := by rw [cell_of_row w3 ob 1 _ _ _ (unhide HOn)]; rfl
          have q2 : w3.cell? ⟨ob, 2, none⟩ = some (.int .i64 0) := by rw [cell_of_row w3 ob 2 _ _ _ (unhide HOn)]; rfl
          have q3 : w3.cell? ⟨ob, 3, none⟩ = some (.int .i64 0) := by rw [cell_of_row w3 ob 3 _ _ _ (unhide HOn)]; rfl
          have q4 : w3.cell? ⟨ob, 4, none⟩ = some (.int .i64 0) := by rw [cell_of_row w3 ob 4 _ _ _ (unhide HOn)]; rfl
          clear htl
          go_upto_region 12 with fail
          have HSx := HSn
          have HWx := HWn
          have HTx := HTn
          have HXx := HXn
          clear HOn HWO HSn HWn HTn HXn
          have hz13 : B2 ≤ w3.heap.size := (by omega)
          have HA := hide (owns_below (unhide HWx) (below_new w3 (.cells #[.bool false, .int .i64 (shown f k).cur, .int .i64 0, .int .i64 0, .int .i64 0] 206)))
          have HNW : Hid (∀ j u, ([.bool false, .int .i64 (shown f k).cur, .int .i64 0, .int .i64 0, .int .i64 0] : List Value)[j]? = some u → (w3.alloc (.cells #[.bool false, .int .i64 (shown f k).cur, .int .i64 0, .int .i64 0, .int .i64 0] 206)).cell? ((⟨w3.heap.size, 0, none⟩ : Addr).add j) = some u) := hide (World.news_of_block (cs := #[.bool false, .int .i64 (shown f k).cur, .int .i64 0, .int .i64 0, .int .i64 0]) (t := 206) (fr := (0, 0)) (heap_alloc_new w3 _))
          have HRT : Hid (∀ g, (Value.slice oa k oc).ownBlock = some g → (g ≠ ps ∧ ∃ cs ff, (w3.alloc (.cells #[.bool false, .int .i64 (shown f k).cur, .int .i64 0, .int .i64 0, .int .i64 0] 206)).heap[g]? = some (.cells cs 206 ff)) ∧ g ≠ mb) := hide (fun g hg => by
            obtain ⟨h1, cs, ff, h2⟩ := owns_typed (unhide HA) g hg
            refine ⟨⟨by omega, cs, ff, h2⟩, fun e => ?_⟩
            have h3 := unhide HXx
            have hl := heap_in h3
            rw [← e] at h3 hl
            rw [Below.heap_alloc w3 _ g hl, h3] at h2
            cases h2)
          go_upto_region 13 with (at_builtin; refine wpList_append_lies _ (by rfl) _ _ _ (by rfl) B2 206 i0 _ 5 40 Try.underlying176 (unhide II).1 (unhide II).2.1 (unhide II).2.2.1 (unhide II).2.2.2 rfl (by omega) (.slice oa k oc) k (ownRows f k) (by rfl) (unhide HA) ⟨w3.heap.size, 0, none⟩ 1 1 [.bool false, .int .i64 (shown f k).cur, .int .i64 0, .int .i64 0, .int .i64 0] (by rfl) (by rfl) (unhide HNW) (by simp [Value.oneCell']) (by omega) (by unfold maxLen; omega) (by omega) (by simp; omega) (w3.heap.size + 1) (by simp) ?_; intro g2 cp2 w7 hown hgrow _ _; have HO7 := hide hown; have HG7 := hide hgrow; clear hown hgrow)
          have HS7 := hide (((unhide HSx).below (below_new w3 (.cells #[.bool false, .int .i64 (shown f k).cur, .int .i64 0, .int .i64 0, .int .i64 0] 206))).turn (fun b => (Value.slice oa k oc).ownBlock = some b) (fun b hb hx => (unhide HG7).block b hb (fun e => hx e.symm)) (fun b hx => (unhide HRT b hx).1) (by decide) (by decide))
          have HT7 : Hid (TrBox w v1 (.slice (some ⟨bm, om, none⟩) n cap2) w7) := hide (Below.grown ((unhide HTx).go (below_new w3 (.cells #[.bool false, .int .i64 (shown f k).cur, .int .i64 0, .int .i64 0, .int .i64 0] 206))) (unhide HG7) (by simp; omega) (fun g hg => by have := ((unhide HA).lt g hg).1; omega))
          have HX7 : Hid (w7.heap[mb]? = some (.cells #[.int .i64 kk, .int .i64 (f k).task, .int .i64 (f k).fn, .int .i64 (f k).line, .string (f k).text, .slice av (f k).nv capv] 73 (0, 0))) := hide (by
            have h3 := unhide HXx
            rw [(unhide HG7).block mb (by have := heap_in h3; simp; omega) (fun e => (unhide HRT mb e.symm).2 rfl), Below.heap_alloc w3 _ mb (heap_in h3)]
            exact h3)
          have hw7 : B2 ≤ w7.heap.size := (by have := (unhide HG7).size; simp at this; omega)
          have HR7 : Hid (w7.ownsRow B2 206 5 (.slice (some ⟨g2, 0, none⟩) (k + 1) cp2) (k + 1) (ownRows f (k + 1))) := hide (by rw [ownRows_succ, unhide HCE]; exact unhide HO7)
          have m0 : w7.cell? ⟨mb, 0, none⟩ = some (.int .i64 kk) := by rw [cell_of_row w7 mb 0 _ _ _ (unhide HX7)]; rfl
          clear HA HNW HRT HG7 HO7 HSx HWx HTx HXx q0 q1 q2 q3 q4 hz13
          go_wp2_with fail
          go_roundg (n - (k + 1))
          case measure => omega
          case rel => exact ⟨k + 1, some ⟨g2, 0, none⟩, cp2, by omega, by go_num, rfl, by rw [← unhide HSH]; exact unhide HS7, unhide HR7, unhide HT7, hw7⟩

        | cons fr r =>
          have HCE := hide (ownCells_cons htl)
          obtain ⟨bt, V, hh⟩ := unhide HSn
          have y0 := hh.c0
          have y1 := hh.c1
          have hcu := hh.cur
          have y2 := hh.row.cell hcu
          have ylen := hh.len _ hcu
          have yo := hh.own _ hcu
          have ynb := hh.row.lt
          rw [htl] at yo ylen
          obtain ⟨tg, tcap, hV, -, -, z0, z1, z2, -⟩ := owns_top yo
          have htg : tg < w3.heap.size := (yo.lt tg (by rw [hV]; rfl)).2
          rw [hV] at y2
          have yt1 : ob ≠ tg := fun e => by
            obtain ⟨_, cs, fr', h1⟩ := owns_typed yo tg (by rw [hV]; rfl)
            rw [← e, unhide HOn] at h1; cases h1
          have yt2 : ob ≠ bt := fun e => by
            obtain ⟨cb, hcb, -, -⟩ := hh.row
            rw [← e, unhide HOn] at hcb; cases hcb
          have hpo2 : ob ≠ ps := by omega
          have HTOP : Hid (∀ W, SpecAt B W ps (shown f k) → Calls Try.prog 115 #[.pointer (some ⟨ps, 0, none⟩)] W fun e w' => e = .returned (.int .i64 (r.length : Int)) ∧ ∃ q, w' = W.drewN q) := hide (fun W hW => (top_any B ps _ W hW).mono (fun e w' h => ⟨by rw [h.1, htl]; simp, h.2⟩))
          have q0 : w3.cell? ⟨ob, 0, none⟩ = some (.bool false) := by rw [cell_of_row w3 ob 0 _ _ _ (unhide HOn)]; rfl
          have qf : w3.frozen? ⟨ob, 0, none⟩ = false := frozen_of_row _ _ _ _ _ (unhide HOn)
          have HSp := hide ((unhide HSn).turn (w' := w3.setCell ⟨ob, 0, none⟩ (.bool true)) (fun b => b = ob) (fun b _ hx => heap_setCell_other _ _ _ _ hx) (fun b hx => by rw [hx]; exact ⟨by omega, _, _, unhide HOn⟩) (by decide) (by decide))
          have HWp : Hid ((w3.setCell ⟨ob, 0, none⟩ (.bool true)).ownsRow B2 206 5 (.slice oa k oc) k (ownRows f k)) := hide (owns_setCell (unhide HWn) (fun e => by have h1 : B2 ≤ ob ∧ ob < ob := unhide HWO _ e; omega))
          have HTp : Hid (TrBox w v1 (.slice (some ⟨bm, om, none⟩) n cap2) (w3.setCell ⟨ob, 0, none⟩ (.bool true))) := hide (Below.setCell (p := ⟨ob, 0, none⟩) (unhide HTn) (by show w.heap.size + 1 ≤ ob; omega) _)
          have HXp : Hid ((w3.setCell ⟨ob, 0, none⟩ (.bool true)).heap[mb]? = some (.cells #[.int .i64 kk, .int .i64 (f k).task, .int .i64 (f k).fn, .int .i64 (f k).line, .string (f k).text, .slice av (f k).nv capv] 73 (0, 0))) := hide ((heap_setCell_other _ _ _ _ (by show mb ≠ ob; omega)).trans (unhide HXn))
          have HOp : Hid ((w3.setCell ⟨ob, 0, none⟩ (.bool true)).heap[ob]? = some (.cells #[.bool true, .int .i64 (shown f k).cur, .int .i64 0, .int .i64 0, .int .i64 0] 206 (0, 0))) := hide (heap_setCell_same _ _ _ _ _ _ (unhide HOn))
          have y0 := cell_set_ne (p := ⟨ps, 0, none⟩) (q := ⟨ob, 0, none⟩) (u := .bool true) hpo2 y0
          have y1 := cell_set_ne (p := ⟨ps, 1, none⟩) (q := ⟨ob, 0, none⟩) (u := .bool true) hpo2 y1
          have y2 := cell_set_ne (q := ⟨ob, 0, none⟩) (u := .bool true) (show (⟨ob, 0, none⟩ : Addr).block ≠ bt from yt2) y2
          have z0 := cell_set_ne (q := ⟨ob, 0, none⟩) (u := .bool true) (show (⟨ob, 0, none⟩ : Addr).block ≠ tg from yt1) z0
          have z1 := cell_set_ne (q := ⟨ob, 0, none⟩) (u := .bool true) (show (⟨ob, 0, none⟩ : Addr).block ≠ tg from yt1) z1
          have z2 := cell_set_ne (q := ⟨ob, 0, none⟩) (u := .bool true) (show (⟨ob, 0, none⟩ : Addr).block ≠ tg from yt1) z2
          have hd0 : decide ((0 : Int) ≤ (((fr :: r).length : Nat) : Int) - 1) = true := by simp
          have hsp : ob < (w3.setCell ⟨ob, 0, none⟩ (.bool true)).heap.size := by simp; exact hob
          clear hV yo hh
          go_upto_region 11 with fail
          generalize w3.setCell ⟨ob, 0, none⟩ (.bool true) = Wp at HSp HWp HTp HXp HOp y0 y1 y2 z0 z1 z2 hsp ⊢
          clear HOn HSn HWn HTn HXn q0 qf hd0 hob htg ynb
          have hr200 : r.length < 200 := by simp at ylen; omega
          clear ylen
          have HBd : Hid (∀ p, Below Wp.heap.size Wp (Wp.drew.drewN p)) := hide (fun p => below_drewN (Below.refl _ _).drew p)
          have hcz : (0 : Int) ≤ ((shown f k).cur : Int) := by omega
          have hcy : ((shown f k).cur : Int) < 101 := by omega
          generalize r.length = rn at *
          have hra : (0 : Int) ≤ (rn : Int) := by omega
          have hrb : (rn : Int) < (rn : Int) + 1 := by omega
          have x2 : Wp.cell? ⟨ob, 2, none⟩ = some (.int .i64 0) := by rw [cell_of_row _ ob 2 _ _ _ (unhide HOp)]; rfl
          have x3 : Wp.cell? ⟨ob, 3, none⟩ = some (.int .i64 0) := by rw [cell_of_row _ ob 3 _ _ _ (unhide HOp)]; rfl
          have x4 : Wp.cell? ⟨ob, 4, none⟩ = some (.int .i64 0) := by rw [cell_of_row _ ob 4 _ _ _ (unhide HOp)]; rfl
          have xf2 : Wp.frozen? ⟨ob, 2, none⟩ = false := frozen_of_row _ _ _ _ _ (unhide HOp)
          have xf3 : Wp.frozen? ⟨ob, 3, none⟩ = false := frozen_of_row _ _ _ _ _ (unhide HOp)
          have xf4 : Wp.frozen? ⟨ob, 4, none⟩ = false := frozen_of_row _ _ _ _ _ (unhide HOp)
          refine wp_region_held_drew (S := fun w' => w'.cell? ⟨ps, 0, none⟩ = some (.slice (some ⟨bt, 0, none⟩) 101 101) ∧ w'.cell? ⟨ps, 1, none⟩ = some (.int .i64 (shown f k).cur) ∧ w'.cell? ⟨bt, (shown f k).cur, none⟩ = some (.slice (some ⟨tg, 0, none⟩) (rn + 1) tcap) ∧ w'.cell? ⟨tg, rn * 3, none⟩ = some (.int .i64 fr.fn) ∧ w'.cell? ⟨tg, rn * 3 + 1, none⟩ = some (.int .i64 fr.line) ∧ w'.cell? ⟨tg, rn * 3 + 2, none⟩ = some (.int .i64 fr.frm)) (by kernel_rfl) ⟨y0, y1, y2, z0, z1, z2⟩ (fun hHeld => ?_)
          refine takeAt 0 (some 33) (v := ?v0Y) (by decide) rfl (by kernel_rfl) (by kernel_rfl) (by kernel_rfl) (fun _ _ _ h => h) (by rfl) ?hy0Y (by assumption) ?r0Y
          case hy0Y => (intro wx hSw; go_simp; with_reducible rfl)
          simp only [Act.put, List.setIfInBounds_toArray, List.set_cons_zero, List.set_cons_succ]
          refine takeAt 1 (some 34) (v := ?v1Y) (by decide) rfl (by kernel_rfl) (by kernel_rfl) (by kernel_rfl) (fun _ _ _ h => h) (by rfl) ?hy1Y (by assumption) ?r1Y
          case hy1Y => (intro wx hSw; go_simp; with_reducible rfl)
          simp only [Act.put, List.setIfInBounds_toArray, List.set_cons_zero, List.set_cons_succ]
          refine takeAt 2 (some 35) (v := ?v2Y) (by decide) rfl (by kernel_rfl) (by kernel_rfl) (by kernel_rfl) (fun _ _ _ h => h) (by rfl) ?hy2Y (by assumption) ?r2Y
          case hy2Y => (intro wx hSw; go_simp; with_reducible rfl)
          simp only [Act.put, List.setIfInBounds_toArray, List.set_cons_zero, List.set_cons_succ]
          refine takeAt 3 (some 36) (v := ?v3Y) (by decide) rfl (by kernel_rfl) (by kernel_rfl) (by kernel_rfl) (fun _ _ _ h => h) (by rfl) ?hy3Y (by assumption) ?r3Y
          case hy3Y => (intro wx hSw; go_simp; with_reducible rfl)
          simp only [Act.put, List.setIfInBounds_toArray, List.set_cons_zero, List.set_cons_succ]
          refine takeAt 4 (some 37) (v := ?v4Y) (by decide) rfl (by kernel_rfl) (by kernel_rfl) (by kernel_rfl) (fun _ _ _ h => h) (by rfl) ?hy4Y (by assumption) ?r4Y
          case hy4Y => (intro wx hSw; go_simp; with_reducible rfl)
          simp only [Act.put, List.setIfInBounds_toArray, List.set_cons_zero, List.set_cons_succ]
          refine takeAt 5 (some 38) (v := ?v5Y) (by decide) rfl (by kernel_rfl) (by kernel_rfl) (by kernel_rfl) (fun _ _ _ h => h) (by rfl) ?hy5Y (by assumption) ?r5Y
          case hy5Y => (intro wx hSw; go_simp; with_reducible rfl)
          simp only [Act.put, List.setIfInBounds_toArray, List.set_cons_zero, List.set_cons_succ]
          refine takeAt 6 (some 39) (v := ?v6Y) (by decide) rfl (by kernel_rfl) (by kernel_rfl) (by kernel_rfl) (fun _ _ _ h => h) (by rfl) ?hy6Y (by assumption) ?r6Y
          case hy6Y => (intro wx hSw; go_simp; with_reducible rfl)
          simp only [Act.put, List.setIfInBounds_toArray, List.set_cons_zero, List.set_cons_succ]
          refine takeAt 7 (some 40) (v := ?v7Y) (by decide) rfl (by kernel_rfl) (by kernel_rfl) (by kernel_rfl) (fun _ _ _ h => h) (by rfl) ?hy7Y (by assumption) ?r7Y
          case hy7Y => (intro wx hSw; go_simp; with_reducible rfl)
          simp only [Act.put, List.setIfInBounds_toArray, List.set_cons_zero, List.set_cons_succ]
          refine takeAt 8 (some 41) (v := ?v8Y) (by decide) rfl (by kernel_rfl) (by kernel_rfl) (by kernel_rfl) (fun _ _ _ h => h) (by rfl) ?hy8Y (by assumption) ?r8Y
          case hy8Y => (intro wx hSw; go_simp; with_reducible rfl)
          simp only [Act.put, List.setIfInBounds_toArray, List.set_cons_zero, List.set_cons_succ]
          refine takeAt 9 (some 42) (v := ?v9Y) (by decide) rfl (by kernel_rfl) (by kernel_rfl) (by kernel_rfl) (fun _ _ _ h => h) (by rfl) ?hy9Y (by assumption) ?r9Y
          case hy9Y => (intro wx hSw; go_simp; with_reducible rfl)
          simp only [Act.put, List.setIfInBounds_toArray, List.set_cons_zero, List.set_cons_succ]
          refine takeAt 10 (some 43) (v := ?v10Y) (by decide) rfl (by kernel_rfl) (by kernel_rfl) (by kernel_rfl) (fun _ _ _ h => h) (by rfl) ?hy10Y (by assumption) ?r10Y
          case hy10Y => (intro wx hSw; go_simp; with_reducible rfl)
          simp only [Act.put, List.setIfInBounds_toArray, List.set_cons_zero, List.set_cons_succ]

          refine wpAnyH_ready (rs := [11]) (by kernel_rfl) (by simp) ?_
          refine AllReadyH.cons rfl (fun K hK => ?_) AllReadyH.nil
          go_simp
          refine (unhide HTOP _ ((unhide HSp).below (Below.refl _ _).drew)).mono ?_
          rintro e wA ⟨rfl, qA, hqA⟩
          subst hqA
          refine hK.out _ _ ⟨cell_below (unhide HBd qA) y0, cell_below (unhide HBd qA) y1, cell_below (unhide HBd qA) y2, cell_below (unhide HBd qA) z0, cell_below (unhide HBd qA) z1, cell_below (unhide HBd qA) z2⟩ (fun hHeld => ?_)
          clear hK K
          try simp only [Act.put, List.setIfInBounds_toArray, List.getElem_toArray, List.getElem_cons_succ, List.getElem_cons_zero, List.set_cons_zero, List.set_cons_succ]
          refine takeAt 12 (some 45) (v := ?v12Y) (by decide) rfl (by kernel_rfl) (by kernel_rfl) (by kernel_rfl) (fun _ _ _ h => h) (by rfl) ?hy12Y (by assumption) ?r12Y
          case hy12Y => (intro wx hSw; go_simp; with_reducible rfl)
          simp only [Act.put, List.setIfInBounds_toArray, List.set_cons_zero, List.set_cons_succ]
          refine takeAt 13 (some 46) (v := ?v13Y) (by decide) rfl (by kernel_rfl) (by kernel_rfl) (by kernel_rfl) (fun _ _ _ h => h) (by rfl) ?hy13Y (by assumption) ?r13Y
          case hy13Y => (intro wx hSw; go_simp; with_reducible rfl)
          simp only [Act.put, List.setIfInBounds_toArray, List.set_cons_zero, List.set_cons_succ]
          refine takeAt 14 (some 47) (v := ?v14Y) (by decide) rfl (by kernel_rfl) (by kernel_rfl) (by kernel_rfl) (fun _ _ _ h => h) (by rfl) ?hy14Y (by assumption) ?r14Y
          case hy14Y => (intro wx hSw; go_simp; with_reducible rfl)
          simp only [Act.put, List.setIfInBounds_toArray, List.set_cons_zero, List.set_cons_succ]

          refine wpAnyH_ready (rs := [15]) (by kernel_rfl) (by simp) ?_
          refine AllReadyH.cons rfl (fun K hK => ?_) AllReadyH.nil
          go_simp
          have HBe : Hid (Below Wp.heap.size Wp (Wp.drewN (1 + qA))) := hide (below_drewN (Below.refl _ _) _)
          refine hK.out _ _ ⟨cell_set3 hpo2 (cell_below (unhide HBe) y0), cell_set3 hpo2 (cell_below (unhide HBe) y1), cell_set3 yt2 (cell_below (unhide HBe) y2), cell_set3 yt1 (cell_below (unhide HBe) z0), cell_set3 yt1 (cell_below (unhide HBe) z1), cell_set3 yt1 (cell_below (unhide HBe) z2)⟩ (fun hHeld => ?_)
          clear hK K
          refine wpAnyH_done (by kernel_rfl) ?_ _
          have HOe : Hid ((Wp.drewN (1 + qA)).heap[ob]? = some (.cells #[.bool true, .int .i64 (shown f k).cur, .int .i64 0, .int .i64 0, .int .i64 0] 206 (0, 0))) := hide (by rw [(unhide HBe).block ob hsp]; exact unhide HOp)
          have HSe := hide ((unhide HSp).below (unhide HBe))
          have HWe := hide (owns_below (unhide HWp) (unhide HBe))
          have HTe := hide ((unhide HTp).go (unhide HBe))
          have HXe : Hid ((Wp.drewN (1 + qA)).heap[mb]? = some (.cells #[.int .i64 kk, .int .i64 (f k).task, .int .i64 (f k).fn, .int .i64 (f k).line, .string (f k).text, .slice av (f k).nv capv] 73 (0, 0))) := hide (by rw [(unhide HBe).block mb (by omega)]; exact unhide HXp)
          have hoe : ob < (Wp.drewN (1 + qA)).heap.size := heap_in (unhide HOe)
          clear HBe HBd hHeld y0 y1 y2 z0 z1 z2 x2 x3 x4 xf2 xf3 xf4 HSp HWp HTp HXp HOp hsp HTOP hcz hcy hra hrb
          generalize Wp.drewN (1 + qA) = We at HOe HSe HWe HTe HXe hoe ⊢
          have HOx := heap_setCell_same _ _ 4 _ _ (.int .i64 fr.frm) (heap_setCell_same _ _ 3 _ _ (.int .i64 fr.line) (heap_setCell_same _ _ 2 _ _ (.int .i64 fr.fn) (unhide HOe)))
          have HSx := hide ((unhide HSe).turn (w' := ((We.setCell ⟨ob, 2, none⟩ (.int .i64 fr.fn)).setCell ⟨ob, 3, none⟩ (.int .i64 fr.line)).setCell ⟨ob, 4, none⟩ (.int .i64 fr.frm)) (fun b => b = ob) (fun b _ hx => by rw [heap_setCell_other _ _ _ _ hx, heap_setCell_other _ _ _ _ hx, heap_setCell_other _ _ _ _ hx]) (fun b hx => by rw [hx]; exact ⟨by omega, _, _, unhide HOe⟩) (by decide) (by decide))
          have hno : (Value.slice oa k oc).ownBlock ≠ some ob := fun e => by have h1 : B2 ≤ ob ∧ ob < ob := unhide HWO _ e; omega
          have HWx := hide (owns_setCell (owns_setCell (owns_setCell (unhide HWe) (a := ⟨ob, 2, none⟩) (u := .int .i64 fr.fn) hno) (a := ⟨ob, 3, none⟩) (u := .int .i64 fr.line) hno) (a := ⟨ob, 4, none⟩) (u := .int .i64 fr.frm) hno)
          have hwo : w.heap.size + 1 ≤ ob := by omega
          have HTx : Hid (TrBox w v1 (.slice (some ⟨bm, om, none⟩) n cap2) (((We.setCell ⟨ob, 2, none⟩ (.int .i64 fr.fn)).setCell ⟨ob, 3, none⟩ (.int .i64 fr.line)).setCell ⟨ob, 4, none⟩ (.int .i64 fr.frm))) := hide (Below.setCell (p := ⟨ob, 4, none⟩) (Below.setCell (p := ⟨ob, 3, none⟩) (Below.setCell (p := ⟨ob, 2, none⟩) (unhide HTe) hwo _) hwo _) hwo _)
          have hmob : mb ≠ ob := by omega
          have HXx : Hid ((((We.setCell ⟨ob, 2, none⟩ (.int .i64 fr.fn)).setCell ⟨ob, 3, none⟩ (.int .i64 fr.line)).setCell ⟨ob, 4, none⟩ (.int .i64 fr.frm)).heap[mb]? = some (.cells #[.int .i64 kk, .int .i64 (f k).task, .int .i64 (f k).fn, .int .i64 (f k).line, .string (f k).text, .slice av (f k).nv capv] 73 (0, 0))) := hide (by rw [heap_setCell_other _ _ _ _ hmob, heap_setCell_other _ _ _ _ hmob, heap_setCell_other _ _ _ _ hmob]; exact unhide HXe)
          have hoe2 : ob < (((We.setCell ⟨ob, 2, none⟩ (.int .i64 fr.fn)).setCell ⟨ob, 3, none⟩ (.int .i64 fr.line)).setCell ⟨ob, 4, none⟩ (.int .i64 fr.frm)).heap.size := heap_in HOx
          clear HOe HSe HWe HTe HXe hoe HWO hno hmob
          generalize ((We.setCell ⟨ob, 2, none⟩ (.int .i64 fr.fn)).setCell ⟨ob, 3, none⟩ (.int .i64 fr.line)).setCell ⟨ob, 4, none⟩ (.int .i64 fr.frm) = Wx at HOx HSx HWx HTx HXx hoe2 ⊢
          have q0 : Wx.cell? ⟨ob, 0, none⟩ = some (.bool true) := by rw [cell_of_row Wx ob 0 _ _ _ HOx]; rfl
          have q1 : Wx.cell? ⟨ob, 1, none⟩ = some (.int .i64 (shown f k).cur) := by rw [cell_of_row Wx ob 1 _ _ _ HOx]; rfl
          have q2 : Wx.cell? ⟨ob, 2, none⟩ = some (.int .i64 fr.fn) := by rw [cell_of_row Wx ob 2 _ _ _ HOx]; rfl
          have q3 : Wx.cell? ⟨ob, 3, none⟩ = some (.int .i64 fr.line) := by rw [cell_of_row Wx ob 3 _ _ _ HOx]; rfl
          have q4 : Wx.cell? ⟨ob, 4, none⟩ = some (.int .i64 fr.frm) := by rw [cell_of_row Wx ob 4 _ _ _ HOx]; rfl
          clear HOx
          go_upto_region 12 with fail
          have hz13 : B2 ≤ Wx.heap.size := (by omega)
          have HA := hide (owns_below (unhide HWx) (below_new Wx (.cells #[.bool true, .int .i64 (shown f k).cur, .int .i64 fr.fn, .int .i64 fr.line, .int .i64 fr.frm] 206)))
          have HNW : Hid (∀ j u, ([.bool true, .int .i64 (shown f k).cur, .int .i64 fr.fn, .int .i64 fr.line, .int .i64 fr.frm] : List Value)[j]? = some u → (Wx.alloc (.cells #[.bool true, .int .i64 (shown f k).cur, .int .i64 fr.fn, .int .i64 fr.line, .int .i64 fr.frm] 206)).cell? ((⟨Wx.heap.size, 0, none⟩ : Addr).add j) = some u) := hide (World.news_of_block (cs := #[.bool true, .int .i64 (shown f k).cur, .int .i64 fr.fn, .int .i64 fr.line, .int .i64 fr.frm]) (t := 206) (fr := (0, 0)) (heap_alloc_new Wx _))
          have HRT : Hid (∀ g, (Value.slice oa k oc).ownBlock = some g → (g ≠ ps ∧ ∃ cs ff, (Wx.alloc (.cells #[.bool true, .int .i64 (shown f k).cur, .int .i64 fr.fn, .int .i64 fr.line, .int .i64 fr.frm] 206)).heap[g]? = some (.cells cs 206 ff)) ∧ g ≠ mb) := hide (fun g hg => by
            obtain ⟨h1, cs, ff, h2⟩ := owns_typed (unhide HA) g hg
            refine ⟨⟨by omega, cs, ff, h2⟩, fun e => ?_⟩
            have h3 := unhide HXx
            have hl := heap_in h3
            rw [← e] at h3 hl
            rw [Below.heap_alloc Wx _ g hl, h3] at h2
            cases h2)
          go_upto_region 13 with (at_builtin; refine wpList_append_lies _ (by rfl) _ _ _ (by rfl) B2 206 i0 _ 5 40 Try.underlying176 (unhide II).1 (unhide II).2.1 (unhide II).2.2.1 (unhide II).2.2.2 rfl (by omega) (.slice oa k oc) k (ownRows f k) (by rfl) (unhide HA) ⟨Wx.heap.size, 0, none⟩ 1 1 [.bool true, .int .i64 (shown f k).cur, .int .i64 fr.fn, .int .i64 fr.line, .int .i64 fr.frm] (by rfl) (by rfl) (unhide HNW) (by simp [Value.oneCell']) (by omega) (by unfold maxLen; omega) (by omega) (by simp; omega) (Wx.heap.size + 1) (by simp) ?_; intro g2 cp2 w7 hown hgrow _ _; have HO7 := hide hown; have HG7 := hide hgrow; clear hown hgrow)
          have HS7 := hide (((unhide HSx).below (below_new Wx (.cells #[.bool true, .int .i64 (shown f k).cur, .int .i64 fr.fn, .int .i64 fr.line, .int .i64 fr.frm] 206))).turn (fun b => (Value.slice oa k oc).ownBlock = some b) (fun b hb hx => (unhide HG7).block b hb (fun e => hx e.symm)) (fun b hx => (unhide HRT b hx).1) (by decide) (by decide))
          have HT7 : Hid (TrBox w v1 (.slice (some ⟨bm, om, none⟩) n cap2) w7) := hide (Below.grown ((unhide HTx).go (below_new Wx (.cells #[.bool true, .int .i64 (shown f k).cur, .int .i64 fr.fn, .int .i64 fr.line, .int .i64 fr.frm] 206))) (unhide HG7) (by simp; omega) (fun g hg => by have := ((unhide HA).lt g hg).1; omega))
          have HX7 : Hid (w7.heap[mb]? = some (.cells #[.int .i64 kk, .int .i64 (f k).task, .int .i64 (f k).fn, .int .i64 (f k).line, .string (f k).text, .slice av (f k).nv capv] 73 (0, 0))) := hide (by
            have h3 := unhide HXx
            rw [(unhide HG7).block mb (by have := heap_in h3; simp; omega) (fun e => (unhide HRT mb e.symm).2 rfl), Below.heap_alloc Wx _ mb (heap_in h3)]
            exact h3)
          have hw7 : B2 ≤ w7.heap.size := (by have := (unhide HG7).size; simp at this; omega)
          have HR7 : Hid (w7.ownsRow B2 206 5 (.slice (some ⟨g2, 0, none⟩) (k + 1) cp2) (k + 1) (ownRows f (k + 1))) := hide (by rw [ownRows_succ, unhide HCE]; exact unhide HO7)
          have m0 : w7.cell? ⟨mb, 0, none⟩ = some (.int .i64 kk) := by rw [cell_of_row w7 mb 0 _ _ _ (unhide HX7)]; rfl
          clear HA HNW HRT HG7 HO7 HSx HWx HTx HXx q0 q1 q2 q3 q4 hz13
          go_wp2_with fail
          go_roundg (n - (k + 1))
          case measure => omega
          case rel => exact ⟨k + 1, some ⟨g2, 0, none⟩, cp2, by omega, by go_num, rfl, by rw [← unhide HSH]; exact unhide HS7, unhide HR7, unhide HT7, hw7⟩
    · have e : n = k := by omega
      subst e
      have hnk : ¬ ((n : Int) < (n : Int)) := by omega
      go_wp2_with fail
      go_ret
      exact ⟨⟨_, rfl, owns_low (unhide HOW) (by omega)⟩, (unhide HT).below⟩
end Go.Proofs.Ytjhfdjdmiombpab
