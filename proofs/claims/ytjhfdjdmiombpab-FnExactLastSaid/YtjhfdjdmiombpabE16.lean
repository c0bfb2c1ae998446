import Derived.Test.YtjhfdjdmiombpabE15
namespace Go.Proofs.Ytjhfdjdmiombpab
open Go.RowKit Go.Lib

theorem info_bools : (Try.prog.info? 99).map (fun i => (i.zero, i.size, i.bytes)) = some (some (.slice none 0 0), 1, 24) := by kernel_rfl

set_option maxRecDepth 100000 in
set_option maxHeartbeats 4000000 in
theorem l3all_any (lo : Nat) (v1 v2 sv : Value) (nf : Nat) (fns : Nat → ByteArray) (n : Nat) (f : Nat → M) (ns : Nat) (ss : Nat → Sp) (w : World) (h2 : MomsAt lo w v2 n f) (h3 : StopsIn w sv ns ss) (hs : Sound nf fns n f) (h50 : ns ≤ 50) :
    Calls Try.prog 93 #[.agg #[v1, v2], sv] w fun e w' => (∃ hv, e = .returned hv ∧ HitsAt w.heap.size w' hv ns n f ss ∧ ∃ a m c, hv = .slice a m c) ∧ Below w.heap.size w w' := by
  have H2 := hide h2
  have H3 := hide h3
  have HS := hide hs
  clear hs
  obtain ⟨a2, cap2, rfl, hn2, -⟩ := h2
  obtain ⟨a3, cap3, rfl, hn3, -⟩ := h3
  unfold maxLen at hn2 hn3
  have T0 := hide (TrBox.new w v1 (.slice a2 n cap2))
  obtain ⟨i0, hi0, hz0, hz1, hz2⟩ := info_parts info_bools
  have II := hide (And.intro hi0 (And.intro hz0 (And.intro hz1 hz2)))
  clear hi0 hz0 hz1 hz2
  go_enter Try.func93, Try.ntmps93
  go_upto_region 1 with fail
  generalize w.alloc (.cells #[v1, .slice a2 n cap2] 31) = W0 at T0 ⊢
  obtain ⟨B, hB⟩ : ∃ B, B = W0.heap.size := ⟨_, rfl⟩
  have HBE := hide hB
  have HB0 : Hid (Below B W0 W0) := hide (Below.refl _ _)
  have HT0 : Hid (HitsAt B W0 (.slice none 0 0) 0 n f ss) := hide ⟨fun _ => 0, World.ownsRow_nil _ _ _ _, fun i hi => absurd hi (Nat.not_lt_zero _)⟩
  clear hB
  go_wp2_with fail
  go_loopg [5, 10] ns (fun gg hv i W => ∃ (k : Nat) (ta : Option Addr) (tc : Nat), k + gg = ns ∧ i = .int .i64 k ∧ hv = .slice ta k tc ∧ HitsAt B W hv k n f ss ∧ Below B W0 W)
  case atStart => exact ⟨0, _, _, by omega, rfl, rfl, unhide HT0, unhide HB0⟩
  case round =>
    clear HB0 HT0
    obtain ⟨k, ta, tc, hk, rfl, rfl, ht, hb⟩ := hrel
    have HTS := hide ht
    have HX := hide ((unhide T0).go (by rw [unhide HBE] at hb; exact hb))
    have hBr : B ≤ wr.heap.size := Nat.le_trans (Nat.le_of_eq (unhide HBE)) hb.size
    have HBP := hide hb
    clear ht hb
    by_cases hlt : k < ns
    · obtain ⟨_, _, e, _, hv⟩ := (unhide H3).below (unhide HX).below
      cases e
      obtain ⟨bs, os, rfl, hc0, hc1, hc2, hc3, hzk⟩ := hv k hlt
      clear hv
      have hkn : (k : Int) < (ns : Int) := by omega
      have hkz : (0 : Int) ≤ (k : Int) := by omega
      have HBN := hide (below_new wr (.cells #[.int .i64 (ss k).kind, .int .i64 (ss k).fn, .int .i64 (ss k).line, .string (ss k).name] 50))
      have HBX := hide (heap_alloc_new wr (.cells #[.int .i64 (ss k).kind, .int .i64 (ss k).fn, .int .i64 (ss k).line, .string (ss k).name] 50))
      go_upto_region 5 with fail
      have HT3 := hide ((unhide HTS).below (unhide HBN))
      have HB3 : Hid (Below B W0 (wr.alloc (.cells #[.int .i64 (ss k).kind, .int .i64 (ss k).fn, .int .i64 (ss k).line, .string (ss k).name] 50))) := hide ((unhide HBP).trans ((unhide HBN).mono hBr))
      have HX3 := hide ((unhide HX).go (unhide HBN))
      generalize wr.alloc (.cells #[.int .i64 (ss k).kind, .int .i64 (ss k).fn, .int .i64 (ss k).line, .string (ss k).name] 50) = W3 at HBX HT3 HB3 HX3 ⊢
      obtain ⟨xb, hxb⟩ : ∃ xb, xb = wr.heap.size := ⟨_, rfl⟩
      rw [← hxb] at HBX
      rw [← hxb]
      clear hxb hc0 hc1 hc2 hc3 HBN HTS HBP HX
      have y0 : W3.cell? ⟨xb, 0, none⟩ = some (.int .i64 (ss k).kind) := by rw [cell_of_row W3 xb 0 _ _ _ (unhide HBX)]; rfl
      have y1 : W3.cell? ⟨xb, 1, none⟩ = some (.int .i64 (ss k).fn) := by rw [cell_of_row W3 xb 1 _ _ _ (unhide HBX)]; rfl
      have y2 : W3.cell? ⟨xb, 2, none⟩ = some (.int .i64 (ss k).line) := by rw [cell_of_row W3 xb 2 _ _ _ (unhide HBX)]; rfl
      have y3 : W3.cell? ⟨xb, 3, none⟩ = some (.string (ss k).name) := by rw [cell_of_row W3 xb 3 _ _ _ (unhide HBX)]; rfl
      have g0 := (unhide HX3).b0
      have g1 := (unhide HX3).b1
      go_wp2_with fail
      refine (l3hits_any lo _ _ nf fns n f (ss k) _ ((unhide H2).below (unhide HX3).below) (unhide HS)).mono ?_
      rintro e w5 ⟨⟨b, rfl, hbo, hbb⟩, hb5⟩
      have HT5 := hide ((unhide HT3).below hb5)
      have hs3 : B ≤ W3.heap.size := Nat.le_trans (Nat.le_of_eq (unhide HBE)) (unhide HB3).size
      have HB5 := hide ((unhide HB3).trans (hb5.mono hs3))
      have HV5 := hide hbo
      have hs5 : B ≤ w5.heap.size := Nat.le_trans hs3 hb5.size
      obtain ⟨vs, hown, hts⟩ := unhide HT5
      have HTT := hide hts
      have HA := hide (owns_below hown (below_new w5 (.cells #[.slice (some ⟨b, 0, none⟩) n n] 99)))
      have HNW : Hid (∀ j u, ([.slice (some ⟨b, 0, none⟩) n n] : List Value)[j]? = some u → (w5.alloc (.cells #[.slice (some ⟨b, 0, none⟩) n n] 99)).cell? ((⟨w5.heap.size, 0, none⟩ : Addr).add j) = some u) := hide (World.news_of_block (cs := #[.slice (some ⟨b, 0, none⟩) n n]) (t := 99) (fr := (0, 0)) (heap_alloc_new w5 _))
      clear hbo hbb hb5 hown hts y0 y1 y2 y3 g0 g1 HT3 HB3 HX3 HBX
      go_wp2_with (at_builtin; refine wpList_append_lies _ (by rfl) _ _ _ (by rfl) B 99 i0 _ 1 24 Try.underlying144 (unhide II).1 (unhide II).2.1 (unhide II).2.2.1 (unhide II).2.2.2 rfl (by omega) (.slice ta k tc) k ((List.range k).map fun i => .slice (some ⟨vs i, 0, none⟩) n n) (by rfl) (unhide HA) ⟨w5.heap.size, 0, none⟩ 1 1 [.slice (some ⟨b, 0, none⟩) n n] (by rfl) (by rfl) (unhide HNW) (by intro u hu; rw [List.mem_singleton.1 hu]; rfl) (by omega) (by unfold maxLen; omega) (by omega) (by simp; omega) (w5.heap.size + 1) (by simp) ?_; intro g2 cp2 w7 hown7 hgrow _ _; have HO7 := hide hown7; have HG7 := hide hgrow; clear hown7 hgrow)
      have hty : ∀ b, (Value.slice ta k tc).ownBlock = some b → B ≤ b ∧ ∃ cs fr, (w5.alloc (.cells #[.slice (some ⟨_, 0, none⟩) n n] 99)).heap[b]? = some (.cells cs 99 fr) := owns_typed (unhide HA)
      have hkeep : ∀ b, b < w5.heap.size → (∀ cs fr, w5.heap[b]? ≠ some (.cells cs 99 fr)) → w7.heap[b]? = w5.heap[b]? := fun b hb hn => by
        rw [(unhide HG7).block b (by simp; omega) (fun e => by
          obtain ⟨-, cs, fr, h⟩ := hty b e.symm
          rw [Below.heap_alloc _ _ _ hb] at h
          exact hn cs fr h), Below.heap_alloc _ _ _ hb]
      have hbl : ∀ {c : Nat} {F : Nat → Bool}, Bools c w5 n F → Bools c w7 n F := fun h => h.of_block (hkeep _ h.lt (fun cs fr e => by obtain ⟨cs', e'⟩ := h.1; rw [e'] at e; cases e))
      have HT7 : Hid (HitsAt B w7 (.slice (some ⟨g2, 0, none⟩) (k + 1) cp2) (k + 1) n f ss) := hide ⟨fun i => if i = k then b else vs i, by
        have e : ((List.range (k + 1)).map fun i => Value.slice (some ⟨if i = k then b else vs i, 0, none⟩) n n) = ((List.range k).map fun i => .slice (some ⟨vs i, 0, none⟩) n n) ++ [.slice (some ⟨b, 0, none⟩) n n] := by
          rw [← range_snoc]
          exact List.map_congr_left fun i _ => by by_cases e : i = k <;> simp [e]
        rw [e]; exact unhide HO7, fun i hi => by
        dsimp only
        by_cases e : i = k
        · rw [if_pos e, e]; exact hbl (unhide HV5)
        · rw [if_neg e]; exact hbl (unhide HTT i (by omega))⟩
      have HB7 : Hid (Below B W0 w7) := hide (Below.grown ((unhide HB5).alloc hs5 _) (unhide HG7) (by simp; omega) (fun b e => (hty b e).1))
      clear hty hkeep hbl HA HNW HTT HG7 HO7 HT5 HB5 HV5
      go_roundg (ns - (k + 1))
      case measure => omega
      case rel => exact ⟨k + 1, _, _, by omega, by go_num, rfl, unhide HT7, unhide HB7⟩
    · have e : ns = k := by omega
      subst e
      have hnk : ¬ ((ns : Int) < (ns : Int)) := by omega
      go_wp2_with fail
      go_ret
      obtain ⟨bs, r1, r2⟩ := unhide HTS
      exact ⟨⟨_, rfl, ⟨bs, owns_low r1 (by have := unhide HBE; have := (unhide T0).size; omega), r2⟩, ⟨_, _, _, rfl⟩⟩, (unhide HX).below⟩
end Go.Proofs.Ytjhfdjdmiombpab
