import Derived.Test.YtoiacbdnkkolmaaR2
import Derived.Deep.LoopGhost
namespace Go.Proofs.Ytoiacbdnkkolmaa
open Go.RowKit

/-- A slice of open calls, in blocks from lo on. -/
def FrsAt (lo : Nat) (w : World) (v : Value) (l : List Fr) : Prop := w.ownsRow lo 48 3 v l.length (frCells l)

theorem FrsAt.below {lo : Nat} {w w' : World} {v : Value} {l : List Fr} (h : FrsAt lo w v l) (hb : Below w.heap.size w w') : FrsAt lo w' v l := owns_below h hb

set_option maxRecDepth 100000 in
set_option maxHeartbeats 1000000 in
theorem openIn_any (s : St) (t : Nat) (top : Option Addr) (bw : Nat) (w : World) (h : PlaceAt w s top bw) (ht : t < 101) :
    Calls Try.prog 62 #[.agg #[.int .i64 s.cur, .pointer top, .pointer (some ⟨bw, 0, none⟩)], .int .i64 t] w fun e w' => (∃ p, e = .returned (.pointer p) ∧ ListAt w' (s.tasks t) p) ∧ Below w.heap.size w w' := by
  obtain ⟨h1, ⟨P, h2⟩, h3, h4⟩ := h
  by_cases hc : t = s.cur
  · subst hc
    have H1 := hide h1
    clear h1 h2 h4
    go_enter Try.func62, Try.ntmps62
    go_wp2
    go_ret
    exact ⟨⟨top, rfl, (unhide H1).below (below_new _ _)⟩, below_new _ _⟩
  · have k0 := cell_below (below_new w (.cells #[.int .i64 s.cur, .pointer top, .pointer (some ⟨bw, 0, none⟩)] 100)) (h2 t ht).1
    have HL := hide ((h2 t ht).2 hc)
    have hq : ((t : Int) == (s.cur : Int)) = false := by rw [beq_eq_false_iff_ne]; omega
    have hj1 : (0 : Int) ≤ (t : Int) := by omega
    have hj2 : (t : Int) < 101 := by omega
    clear h1 h2 h4 hc
    go_enter Try.func62, Try.ntmps62
    go_wp2
    go_ret
    exact ⟨⟨P t, rfl, (unhide HL).below (below_new _ _)⟩, below_new _ _⟩

set_option maxRecDepth 100000 in
set_option maxHeartbeats 1000000 in
theorem frames_any (l : List Fr) (p : Option Addr) (w : World) (h : ListAt w l p) (hl : l.length ≤ 200) :
    Calls Try.prog 63 #[.pointer p] w fun e w' => (∃ v, e = .returned v ∧ FrsAt w.heap.size w' v l) ∧ Below w.heap.size w w' := by
  have H := hide h
  clear h
  obtain ⟨i0, hi0, hz0, hz1, hz2⟩ := info_parts info_Frame
  have II := hide (And.intro hi0 (And.intro hz0 (And.intro hz1 hz2))); clear hi0 hz0 hz1 hz2
  go_enter Try.func63, Try.ntmps63
  go_wp2
  go_loopg [0, 3] l.length (fun k c v wr => ∃ (p : Option Addr) (d r : List Fr), c = .pointer p ∧ d ++ r = l ∧ r.length = k ∧ ListAt w r p ∧ FrsAt w.heap.size wr v d ∧ (∃ a n cp, v = .slice a n cp) ∧ Below w.heap.size w wr)
  case atStart => exact ⟨p, [], l, rfl, rfl, rfl, unhide H, World.ownsRow_nil _ _ _ _, ⟨_, _, _, rfl⟩, Below.refl _ _⟩
  case round =>
    obtain ⟨p', d, r, rfl, hd, hr, hli, hfr, ⟨va, vn, vc, rfl⟩, hb⟩ := hrel
    have HD := hide hd
    have HF := hide hfr
    have HB := hide hb
    cases r with
    | nil =>
      have e : p' = none := hli
      subst e
      clear hd hfr hb hli hr
      go_wp2
      go_ret
      have hdl : d = l := by have := unhide HD; simpa using this
      rw [← hdl]
      exact ⟨⟨_, rfl, unhide HF⟩, unhide HB⟩
    | cons f r' =>
      obtain ⟨b, p2, rfl, k0, k1, k2, k3, k4, hli2⟩ := hli
      have HL2 := hide hli2
      have c0 := cell_below hb k0
      have c1 := cell_below hb k1
      have c2 := cell_below hb k2
      have c4 := cell_below hb k4
      have hlen : d.length + r'.length + 1 ≤ 200 := by rw [← hd] at hl; simp at hl; omega
      have hzz : w.heap.size ≤ wr.heap.size := hb.size
      have K4 := hide k4
      clear k0 k1 k2 k3 k4 hli2 hd hfr hb c4
      have HA := hide ((unhide HF).below (below_new wr (.cells #[.int .i64 f.fn, .int .i64 f.line, .int .i64 f.frm] 48)))
      have HNW : Hid (∀ j u, ([.int .i64 f.fn, .int .i64 f.line, .int .i64 f.frm] : List Value)[j]? = some u → (wr.alloc (.cells #[.int .i64 f.fn, .int .i64 f.line, .int .i64 f.frm] 48)).cell? ((⟨wr.heap.size, 0, none⟩ : Addr).add j) = some u) :=
        hide (World.news_of_block (cs := #[.int .i64 f.fn, .int .i64 f.line, .int .i64 f.frm]) (t := 48) (fr := (0, 0)) (heap_alloc_new wr _))
      go_wp2_with (at_builtin; refine wpList_append_lies _ (by rfl) _ _ _ (by rfl) w.heap.size 48 i0 _ 3 24 Try.underlying45 (unhide II).1 (unhide II).2.1 (unhide II).2.2.1 (unhide II).2.2.2 rfl (by omega) (.slice va vn vc) d.length (frCells d) (by rfl) (unhide HA) ⟨wr.heap.size, 0, none⟩ 1 1 [.int .i64 f.fn, .int .i64 f.line, .int .i64 f.frm] (by rfl) (by rfl) (unhide HNW) (by simp [Value.oneCell']) (by omega) (by unfold maxLen; omega) (by omega) (by simp; omega) (wr.heap.size + 1) (by simp) ?_; intro g2 cp2 w7 hown hgrow _ _; have hb7 : Below w.heap.size w w7 := Below.grown ((unhide HB).alloc hzz _) hgrow (by simp; omega) (fun k hk => ((unhide HA).lt k hk).1); have k7 := cell_below hb7 (unhide K4); have HB7 := hide hb7; have HO7 := hide hown; clear hown hgrow hb7)
      go_roundg r'.length
      case measure => simp at hr; omega
      case rel =>
        refine ⟨p2, d ++ [f], r', rfl, ?_, rfl, unhide HL2, ?_, ⟨_, _, _, rfl⟩, unhide HB7⟩
        · rw [List.append_assoc]; exact unhide HD
        · unfold FrsAt
          rw [List.length_append, frCells_app]
          exact unhide HO7
end Go.Proofs.Ytoiacbdnkkolmaa
