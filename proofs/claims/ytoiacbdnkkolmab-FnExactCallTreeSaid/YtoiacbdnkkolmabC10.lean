import Derived.Test.YtoiacbdnkkolmabC9
import Derived.Test.YtoiacbdnkkolmabI9
import Derived.Deep.AppendLies
namespace Go.Proofs.Ytoiacbdnkkolmab
open Go.RowKit

theorem info_Branch : (Try.prog.info? 117).map (fun i => (i.zero, i.size, i.bytes)) = some (some (.agg #[.int .i64 0, .int .i64 0, .int .i64 0, .int .i64 0]), 4, 32) := by kernel_rfl

def brCells (bs : List Br) : List Value := bs.flatMap fun b => [.int .i64 b.fn, .int .i64 b.par, .int .i64 b.calls, .int .i64 b.self]

theorem brCells_app (a b : List Br) : brCells (a ++ b) = brCells a ++ brCells b := List.flatMap_append ..

theorem brCells_get : ∀ (l : List Br) (i : Nat) (h : i < l.length), (brCells l)[i * 4]? = some (.int .i64 l[i].fn) ∧ (brCells l)[i * 4 + 1]? = some (.int .i64 l[i].par) ∧ (brCells l)[i * 4 + 2]? = some (.int .i64 l[i].calls) ∧ (brCells l)[i * 4 + 3]? = some (.int .i64 l[i].self)
  | x :: r, 0, _ => ⟨rfl, rfl, rfl, rfl⟩
  | x :: r, i + 1, h => by
    have ih := brCells_get r i (by simpa using h)
    have e : brCells (x :: r) = .int .i64 x.fn :: .int .i64 x.par :: .int .i64 x.calls :: .int .i64 x.self :: brCells r := rfl
    rw [e, show (i + 1) * 4 = i * 4 + 1 + 1 + 1 + 1 by omega]
    simpa only [List.getElem?_cons_succ, List.getElem_cons_succ] using ih

theorem brFind_at {bs : List Br} {par fn : Int} {k : Nat} (hk : k < bs.length) (h1 : isBr par fn bs[k] = true) (h2 : ∀ j (h : j < bs.length), j < k → isBr par fn bs[j] = false) : brFind bs par fn = k :=
  (List.findIdx_eq hk).2 ⟨h1, fun j hj => h2 j (by omega) hj⟩

theorem brFind_none {bs : List Br} {par fn : Int} (h : ∀ j (h : j < bs.length), isBr par fn bs[j] = false) : brFind bs par fn = bs.length := by
  refine List.findIdx_eq_length.2 (fun x hx => ?_)
  obtain ⟨j, hj, e⟩ := List.getElem_of_mem hx
  rw [← e]; exact h j hj

theorem grown_of_below {w w' : World} (row : Option Nat) (h : Below w.heap.size w w') : w.grownBy w' row := ⟨h.os, h.tape, h.output, h.size, fun b hb _ => h.block b hb⟩

set_option maxRecDepth 100000 in
set_option maxHeartbeats 2000000 in
theorem l2branch_any (B : Nat) (v : Value) (bs : List Br) (par fn : Int) (w : World) (h : w.ownsRow B 117 4 v bs.length (brCells bs)) (hl : bs.length ≤ 4000) (hB : B ≤ w.heap.size) :
    Calls Try.prog 80 #[v, .int .i64 par, .int .i64 fn] w fun e w' => (∃ v', e = .returned (.tuple #[v', .int .i64 (brFind bs par fn : Nat)]) ∧ w'.ownsRow B 117 4 v' (brMake bs par fn).length (brCells (brMake bs par fn)) ∧ (v'.ownBlock = v.ownBlock ∨ ∃ g, v'.ownBlock = some g ∧ w.heap.size ≤ g)) ∧ w.grownBy w' v.ownBlock := by
  have H := hide h
  obtain ⟨a, cap, rfl⟩ := owns_slice h
  clear h
  obtain ⟨i0, hi0, hz0, hz1, hz2⟩ := info_parts info_Branch
  have II := hide (And.intro hi0 (And.intro hz0 (And.intro hz1 hz2))); clear hi0 hz0 hz1 hz2
  obtain ⟨n, hn⟩ : ∃ n, n = bs.length := ⟨_, rfl⟩
  have HN := hide hn
  rw [← hn] at hl ⊢
  rw [← hn] at H
  clear hn
  go_enter Try.func80, Try.ntmps80
  go_wp2
  go_loopw [8, 12] (fun _ i W => ∃ (k : Nat), k ≤ n ∧ i = .int .i64 k ∧ (∀ j (h : j < bs.length), j < k → isBr par fn bs[j] = false) ∧ Below w.heap.size w W) (fun _ i _ => n - (intOf i).toNat)
  case atStart => exact ⟨0, by omega, rfl, fun j _ h => absurd h (Nat.not_lt_zero _), Below.refl _ _⟩
  case round =>
    obtain ⟨k, hk, rfl, hno, hb⟩ := hrel
    have HNO := hide hno
    have HB := hide hb
    clear hno hb
    by_cases hlt : k < n
    · have hkl : k < bs.length := by rw [← unhide HN]; exact hlt
      obtain ⟨e0, e1, e2, e3⟩ := brCells_get bs k hkl
      have hw := owns_below (unhide H) (unhide HB)
      obtain ⟨g, cap', eg, hgB, hgl⟩ := hw.form (by omega)
      injection eg with eg1 eg2 eg3
      subst eg1 eg3
      clear eg2
      have c0 := (owns_cell hw _ _ e0).1
      have c1 := (owns_cell hw _ _ e1).1
      have c2 := (owns_cell hw _ _ e2).1
      have c3 := (owns_cell hw _ _ e3).1
      have HE : Hid (isBr par fn bs[k] = decide (bs[k].par = par ∧ bs[k].fn = fn)) := hide rfl
      generalize bs[k].fn = x0 at c0 HE
      generalize bs[k].par = x1 at c1 HE
      generalize bs[k].calls = x2 at c2
      generalize bs[k].self = x3 at c3
      have hi1 : (0 : Int) ≤ (k : Int) := by omega
      have hi2 : (k : Int) < (n : Int) := by omega
      have HKL := hide hkl
      have HBN := hide (below_new wr (.cells #[.int .i64 x0, .int .i64 x1, .int .i64 x2, .int .i64 x3] 117))
      clear e0 e1 e2 e3 hw hgB hgl
      by_cases h1 : x1 = par
      · have h1b : (x1 == par) = true := by simpa using h1
        by_cases h0 : x0 = fn
        · have h0b : (x0 == fn) = true := by simpa using h0
          have HF := hide (brFind_at (unhide HKL) (by rw [unhide HE]; simp [h1, h0]) (unhide HNO))
          clear h1 h0 HE
          go_wp2_with fail
          go_ret2
          have e : brMake bs par fn = bs := by unfold brMake; rw [if_pos (by rw [unhide HF]; exact unhide HKL)]
          rw [e, unhide HF]
          have hb2 := (unhide HB).trans ((unhide HBN).mono (unhide HB).size)
          refine ⟨⟨_, rfl, ?_, .inl rfl⟩, grown_of_below _ hb2⟩
          rw [← unhide HN]
          exact owns_below (unhide H) hb2
        · have h0b : (x0 == fn) = false := by simpa using h0
          have HF : Hid (isBr par fn (bs[k]'(unhide HKL)) = false) := hide (by rw [unhide HE]; simp [h0])
          clear h1 h0 HE
          go_wp2_with fail
          go_roundw
          case rel =>
            refine ⟨k + 1, by omega, by go_num, fun j hj hjk => ?_, (unhide HB).trans ((unhide HBN).mono (unhide HB).size)⟩
            by_cases e : j = k
            · subst e; exact unhide HF
            · exact unhide HNO j hj (by omega)
          case measure => simp [intOf]; omega
      · have h1b : (x1 == par) = false := by simpa using h1
        have HF : Hid (isBr par fn (bs[k]'(unhide HKL)) = false) := hide (by rw [unhide HE]; simp [h1])
        clear h1 HE
        go_wp2_with fail
        go_roundw
        case rel =>
          refine ⟨k + 1, by omega, by go_num, fun j hj hjk => ?_, (unhide HB).trans ((unhide HBN).mono (unhide HB).size)⟩
          by_cases e : j = k
          · subst e; exact unhide HF
          · exact unhide HNO j hj (by omega)
        case measure => simp [intOf]; omega
    · have e : n = k := by omega
      subst e
      have HF := hide (brFind_none (bs := bs) (par := par) (fn := fn) (fun j hj => unhide HNO j hj (by rw [unhide HN]; exact hj)))
      have hzz : w.heap.size ≤ wr.heap.size := (unhide HB).size
      have HA := hide (owns_below (owns_below (unhide H) (unhide HB)) (below_new wr (.cells #[.int .i64 fn, .int .i64 par, .int .i64 0, .int .i64 0] 117)))
      have HNW : Hid (∀ j u, ([.int .i64 fn, .int .i64 par, .int .i64 0, .int .i64 0] : List Value)[j]? = some u → (wr.alloc (.cells #[.int .i64 fn, .int .i64 par, .int .i64 0, .int .i64 0] 117)).cell? ((⟨wr.heap.size, 0, none⟩ : Addr).add j) = some u) :=
        hide (World.news_of_block (cs := #[.int .i64 fn, .int .i64 par, .int .i64 0, .int .i64 0]) (t := 117) (fr := (0, 0)) (heap_alloc_new wr _))
      go_wp2_with (at_builtin; refine wpList_append_lies _ (by rfl) _ _ _ (by rfl) B 117 i0 _ 4 32 Try.underlying42 (unhide II).1 (unhide II).2.1 (unhide II).2.2.1 (unhide II).2.2.2 rfl (by omega) (.slice a n cap) n (brCells bs) (by rfl) (unhide HA) ⟨wr.heap.size, 0, none⟩ 1 1 [.int .i64 fn, .int .i64 par, .int .i64 0, .int .i64 0] (by rfl) (by rfl) (unhide HNW) (by simp [Value.oneCell']) (by omega) (by unfold maxLen; omega) (by omega) (by simp; omega) (wr.heap.size + 1) (by simp) ?_; intro g2 cp2 w7 hown hgrow hat _; have HW7 := hide hown; have HG7 := hide hgrow; have HAT := hide hat; clear hown hgrow hat)
      go_ret2
      have el : brMake bs par fn = bs ++ [⟨fn, par, 0, 0⟩] := by unfold brMake; rw [if_neg (by rw [unhide HF]; omega)]
      rw [el, unhide HF, ← unhide HN]
      refine ⟨⟨_, rfl, ?_, ?_⟩, ?_⟩
      · rw [List.length_append, brCells_app, ← unhide HN]
        exact unhide HW7
      · rcases unhide HAT with h | h
        · exact .inl h.symm
        · exact .inr ⟨g2, rfl, by omega⟩
      · have hg := unhide HG7
        have hb := (unhide HB).trans ((below_new wr (.cells #[.int .i64 fn, .int .i64 par, .int .i64 0, .int .i64 0] 117)).mono hzz)
        exact ⟨hg.os.trans hb.os, hg.tape.trans hb.tape, hg.output.trans hb.output, Nat.le_trans hb.size hg.size, fun b h1 h2 => (hg.block b (Nat.lt_of_lt_of_le h1 hb.size) h2).trans (hb.block b h1)⟩
end Go.Proofs.Ytoiacbdnkkolmab
