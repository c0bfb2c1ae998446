import Derived.Test.YtoiacbdnkkolmaaH2z
import Derived.Test.YtoiacbdnkkolmaaF3z
import Derived.Test.YtoiacbdnkkolmaaF5z
import Derived.Test.YtoiacbdnkkolmaaC7z
import Derived.Test.YtoiacbdnkkolmaaGCcz
import Derived.Deep.LoopGhost
import Derived.Deep.AppendLies
import Derived.Deep.DeepCutAuto
namespace Go.Proofs.Ytoiacbdnkkolmaa
open Go.RowKit

theorem step_sound' {nf : Nat} {fns : Nat → ByteArray} {n : Nat} {f : Nat → M} {k : Int} {kd : Nat} {e : Ending} (h : StepSay nf fns n f k kd e) (hs : Sound nf fns n f) (hk : -1 ≤ k ∧ k ≤ n) (z : Int) (hz : StepIs n f k kd z) : e = .returned (.int .i64 z) := by
  rcases h with ⟨_, z', h, h'⟩ | ⟨h, _⟩
  · rw [h, h'.uniq hz]
  · exact absurd ⟨hs, hk⟩ h

theorem deep_fcAns {n n' : Nat} {F : Nat → Nat → Int} (h0 : 1 ≤ n) (hn : n ≤ 150) (h : FcAns 2 deepFns (3 * n) (deepM n) n' F) :
    n' = 2 ∧ F 1 0 = 1 ∧ F 1 1 = n ∧ F 1 2 = n ∧ F 1 3 = n ∧ F 0 0 = 0 ∧ F 0 1 = 1 ∧ F 0 2 = 0 ∧ F 0 3 = n := by
  rcases h with ⟨_, e, h⟩ | ⟨h, _⟩
  · have hf : ∀ r c, r < 2 → c < 4 → F r c = deepFc n r c := fun r c hr hc => by
      rw [h r c hr hc, show 3 * n = 2 * n + n by omega]; exact deep_fc_end n n (Nat.le_refl _) r c hr hc
    refine ⟨e, ?_, ?_, ?_, ?_, ?_, ?_, ?_, ?_⟩ <;> (rw [hf _ _ (by omega) (by omega)]; rfl)
  · exact absurd (deep_sound h0 hn) h

theorem deep_trAns {n n' : Nat} {F : Nat → Nat → Int} (h0 : 1 ≤ n) (hn : n ≤ 150) (h : TrAns 2 deepFns (3 * n) (deepM n) n' F) :
    n' = n + 1 ∧ ∀ i, 1 ≤ i → i ≤ n → F i 0 = 1 ∧ F i 1 = (i : Int) - 1 ∧ F i 2 = 1 ∧ F i 3 = 1 := by
  rcases h with ⟨_, e, h⟩ | ⟨h, _⟩
  · have et : (treeAt (deepM n) (3 * n)).bs = deepBs n := by rw [show 3 * n = 2 * n + n by omega, deep_tree_end n n (Nat.le_refl _)]
    refine ⟨by rw [e, et, deepBs_len], fun i h1 h2 => ?_⟩
    have hl : i < (treeAt (deepM n) (3 * n)).bs.length := by rw [et, deepBs_len]; omega
    have eb : (treeAt (deepM n) (3 * n)).bs[i] = ⟨1, (i : Int) - 1, 1, 1⟩ := by
      have := deepBs_get? n i h1 h2
      rw [← et, List.getElem?_eq_getElem hl] at this
      exact Option.some.inj this
    refine ⟨?_, ?_, ?_, ?_⟩ <;> (rw [h i _ hl (by omega), eb]; rfl)
  · exact absurd (deep_sound h0 hn) h

set_option maxRecDepth 100000 in
set_option maxHeartbeats 4000000 in
theorem fnDeep_any (hso : SortsInts) (hco : CompactsInts) (v : Value) (len : Nat) (w : World) (h : BytesAt w v len) :
    Calls Try.prog 8 #[v] w fun e w' => e = .returned (.bool true) ∧ Below w.heap.size w w' := by
  have H := hide h
  have HSO := hide hso
  have HCO := hide hco
  clear hso hco
  obtain ⟨a, cap, rfl, _⟩ := h
  obtain ⟨i1, hi0, hz0, hz1, hz2⟩ := info_parts info_Moment
  have IM := hide (And.intro hi0 (And.intro hz0 (And.intro hz1 hz2))); clear hi0 hz0 hz1 hz2
  by_cases hlen : len ≤ 1048576
  · have hle2 : decide ((1048576 : Int) < (len : Int)) = false := by simp; omega
    go_enter Try.func8, Try.ntmps8
    go_wp2_with fail
    refine (wByte_any _ len 0 _ (unhide H) hlen).mono ?_
    rintro e w1 ⟨⟨b0, rfl, hb0⟩, rfl⟩
    have hm1 : IntKind.i64.wrap (1 + (b0 : Int) % 150) = 1 + (b0 : Int) % 150 := by rw [IntKind.wrap_i64]; omega
    go_upto_region 4 with fail
    obtain ⟨n, hn⟩ : ∃ n : Nat, (n : Int) = 1 + (b0 : Int) % 150 := ⟨1 + b0 % 150, by omega⟩
    have hn0 : 1 ≤ n := by omega
    have hn1 : n ≤ 150 := by omega
    rw [← hn]
    clear hn hm1 hb0 H hle2
    go_wp2_with fail
    have HDT0 : Hid (DT w1 n (2 * 0) (.slice none 0 0) ((w1.alloc (.cells #[.string ⟨#[109, 97, 105, 110]⟩, .string ⟨#[102]⟩] 9)).alloc (.cells #[deepFv w1, .slice none 0 0] 26))) := hide (by
      have hs : (w1.alloc (.cells #[.string ⟨#[109, 97, 105, 110]⟩, .string ⟨#[102]⟩] 9)).heap.size = w1.heap.size + 1 := by simp
      refine ⟨?_, ?_, World.ownsRow_nil _ _ _ _, ((Below.refl _ _).alloc (Nat.le_refl _) _).alloc (by simp) _⟩
      · rw [Below.heap_alloc _ _ _ (by simp)]; exact heap_alloc_new w1 _
      · have h := heap_alloc_new (w1.alloc (.cells #[.string ⟨#[109, 97, 105, 110]⟩, .string ⟨#[102]⟩] 9)) (.cells #[deepFv w1, .slice none 0 0] 26)
        rw [hs] at h
        exact h)
    go_loopg [5] n (fun gg i W => ∃ (k : Nat) (ta : Option Addr) (tc : Nat), k + gg = n ∧ i = .int .i64 k ∧ DT w1 n (2 * k) (.slice ta (2 * k) tc) W)
    case atStart => exact ⟨0, none, 0, by omega, rfl, unhide HDT0⟩
    case round =>
      clear HDT0
      obtain ⟨k, ta, tc, hk, rfl, hdt⟩ := hrel
      have HDT := hide hdt
      clear hdt
      by_cases hlt : k < n
      · have hkn : (k : Int) < (n : Int) := by omega
        have wq : IntKind.i64.wrap ((k : Int) + 1) = ((k + 1 : Nat) : Int) := by rw [IntKind.wrap_i64]; omega
        have HNW : Hid (∀ j u, ([.int .i64 2, .int .i64 0, .int .i64 1, .int .i64 0, .string ⟨#[]⟩, .slice none 0 0, .int .i64 1, .int .i64 0, .int .i64 1, .int .i64 3, .string ⟨#[]⟩, .slice none 0 0] : List Value)[j]? = some u → (wr.alloc (.cells #[.int .i64 2, .int .i64 0, .int .i64 1, .int .i64 0, .string ⟨#[]⟩, .slice none 0 0, .int .i64 1, .int .i64 0, .int .i64 1, .int .i64 3, .string ⟨#[]⟩, .slice none 0 0] 30)).cell? ((⟨wr.heap.size, 0, none⟩ : Addr).add j) = some u) := hide (World.news_of_block (cs := #[.int .i64 2, .int .i64 0, .int .i64 1, .int .i64 0, .string ⟨#[]⟩, .slice none 0 0, .int .i64 1, .int .i64 0, .int .i64 1, .int .i64 3, .string ⟨#[]⟩, .slice none 0 0]) (t := 30) (fr := (0, 0)) (heap_alloc_new wr _))
        have HRW := hide (owns_below (unhide HDT).row (below_new wr (.cells #[.int .i64 2, .int .i64 0, .int .i64 1, .int .i64 0, .string ⟨#[]⟩, .slice none 0 0, .int .i64 1, .int .i64 0, .int .i64 1, .int .i64 3, .string ⟨#[]⟩, .slice none 0 0] 30)))
        have t1 := (unhide HDT).t1
        have hsz := (unhide HDT).size
        go_wp2_with (at_builtin; refine wpList_append_lies _ (by rfl) _ _ _ (by rfl) (w1.heap.size + 2) 30 i1 _ 6 72 Try.underlying24 (unhide IM).1 (unhide IM).2.1 (unhide IM).2.2.1 (unhide IM).2.2.2 rfl (by omega) (.slice ta (2 * k) tc) (2 * k) (momCells (deepMs n (2 * k))) (by rfl) (unhide HRW) ⟨wr.heap.size, 0, none⟩ 2 2 [.int .i64 2, .int .i64 0, .int .i64 1, .int .i64 0, .string ⟨#[]⟩, .slice none 0 0, .int .i64 1, .int .i64 0, .int .i64 1, .int .i64 3, .string ⟨#[]⟩, .slice none 0 0] (by rfl) (by rfl) (unhide HNW) (by simp [Value.oneCell']) (by omega) (by unfold maxLen; omega) (by omega) (by simp; omega) (wr.heap.size + 1) (by simp) ?_; intro g2 cp2 w7 hown hgrow _ _; obtain ⟨hq, hdt⟩ := (unhide HDT).put (k' := 2 * k + 2) hgrow (by rw [deepMs_pair hlt, momCells_app]; exact hown); have HD7 := hide hdt; have c7 : w7.cell? ⟨w1.heap.size + 1, 1, none⟩ = some (.slice ta (2 * k) tc) := (by rw [cell_of_row w7 _ 1 _ _ _ hq]; rfl); have z7 : w7.frozen? ⟨w1.heap.size + 1, 1, none⟩ = false := frozen_of_row _ _ _ _ _ hq; clear hown hgrow hq hdt)
        go_roundg (n - (k + 1))
        case measure => omega
        case rel => exact ⟨k + 1, _, _, by omega, by go_num, unhide HD7⟩
      · have hkn : ¬ (k : Int) < (n : Int) := by omega
        obtain rfl : k = n := by omega
        have HDT1 : Hid (DT w1 k (2 * k + 0) (.slice ta (2 * k + 0) tc) wr) := HDT
        clear HDT
        go_wp2_with fail
        go_loopg [6] k (fun gg i W => ∃ (j : Nat) (ta : Option Addr) (tc : Nat), j + gg = k ∧ i = .int .i64 j ∧ DT w1 k (2 * k + j) (.slice ta (2 * k + j) tc) W)
        case atStart => exact ⟨0, ta, tc, by omega, rfl, unhide HDT1⟩
        case round =>
          clear HDT1 hlt hkn hk
          obtain ⟨j, ta, tc, hj, rfl, hdt⟩ := hrel
          have HDT := hide hdt
          clear hdt
          by_cases hlt : j < k
          · have hkn : (j : Int) < (k : Int) := by omega
            have wq : IntKind.i64.wrap ((j : Int) + 1) = ((j + 1 : Nat) : Int) := by rw [IntKind.wrap_i64]; omega
            have HNW : Hid (∀ j u, ([.int .i64 3, .int .i64 0, .int .i64 1, .int .i64 0, .string ⟨#[]⟩, .slice none 0 0] : List Value)[j]? = some u → (wr.alloc (.cells #[.int .i64 3, .int .i64 0, .int .i64 1, .int .i64 0, .string ⟨#[]⟩, .slice none 0 0] 30)).cell? ((⟨wr.heap.size, 0, none⟩ : Addr).add j) = some u) := hide (World.news_of_block (cs := #[.int .i64 3, .int .i64 0, .int .i64 1, .int .i64 0, .string ⟨#[]⟩, .slice none 0 0]) (t := 30) (fr := (0, 0)) (heap_alloc_new wr _))
            have HRW := hide (owns_below (unhide HDT).row (below_new wr (.cells #[.int .i64 3, .int .i64 0, .int .i64 1, .int .i64 0, .string ⟨#[]⟩, .slice none 0 0] 30)))
            have t1 := (unhide HDT).t1
            have hsz := (unhide HDT).size
            go_wp2_with (at_builtin; refine wpList_append_lies _ (by rfl) _ _ _ (by rfl) (w1.heap.size + 2) 30 i1 _ 6 72 Try.underlying24 (unhide IM).1 (unhide IM).2.1 (unhide IM).2.2.1 (unhide IM).2.2.2 rfl (by omega) (.slice ta (2 * k + j) tc) (2 * k + j) (momCells (deepMs k (2 * k + j))) (by rfl) (unhide HRW) ⟨wr.heap.size, 0, none⟩ 1 1 [.int .i64 3, .int .i64 0, .int .i64 1, .int .i64 0, .string ⟨#[]⟩, .slice none 0 0] (by rfl) (by rfl) (unhide HNW) (by simp [Value.oneCell']) (by omega) (by unfold maxLen; omega) (by omega) (by simp; omega) (wr.heap.size + 1) (by simp) ?_; intro g2 cp2 w7 hown hgrow _ _; obtain ⟨hq, hdt⟩ := (unhide HDT).put (k' := 2 * k + j + 1) hgrow (by rw [deepMs_back hlt, momCells_app]; exact hown); have HD7 := hide hdt; have c7 : w7.cell? ⟨w1.heap.size + 1, 1, none⟩ = some (.slice ta (2 * k + j) tc) := (by rw [cell_of_row w7 _ 1 _ _ _ hq]; rfl); have z7 : w7.frozen? ⟨w1.heap.size + 1, 1, none⟩ = false := frozen_of_row _ _ _ _ _ hq; clear hown hgrow hq hdt)
            go_roundg (k - (j + 1))
            case measure => omega
            case rel => exact ⟨j + 1, _, _, by omega, by go_num, unhide HD7⟩
          · have hkn : ¬ (j : Int) < (k : Int) := by omega
            obtain rfl : j = k := by omega
            clear hlt hj hkn
            as_aux_lemma =>
              have HD : Hid (DT w1 j (3 * j) (.slice ta (3 * j) tc) wr) := by
                have e : 2 * j + j = 3 * j := by omega
                rw [e] at HDT; exact HDT
              clear HDT
              have x0 := (unhide HD).t0
              have x1 := (unhide HD).t1
              go_wp2_with fail
              refine (implFnCounts_any (unhide HSO) (unhide HCO) 0 _ _ 2 deepFns (3 * j) (deepM j) _ (unhide HD).strs ((unhide HD).moms (by omega))).mono ?_
              rintro e w2 ⟨⟨cv, nc, F, rfl, hfc, hrows⟩, hb2⟩
              obtain ⟨rfl, F10, F11, F12, F13, F00, F01, F02, F03⟩ := deep_fcAns hn0 hn1 hfc
              have HF := hide (And.intro (And.intro F10 (And.intro F11 (And.intro F12 F13))) (And.intro F00 (And.intro F01 (And.intro F02 F03))))
              have HR2 := hide hrows
              obtain ⟨ca, ccap, rfl⟩ := hrows.shape
              have HD2 := hide ((unhide HD).go hb2)
              clear hfc hrows hb2 F10 F11 F12 F13 F00 F01 F02 F03 HD x0 x1
              have x0 := (unhide HD2).t0
              have x1 := (unhide HD2).t1
              go_wp2_with fail
              refine (implCallTree_any 0 _ _ 2 deepFns (3 * j) (deepM j) _ (unhide HD2).strs ((unhide HD2).moms (by omega))).mono ?_
              rintro e w3 ⟨⟨bv, nb, G, rfl, htr, hrows⟩, hb3⟩
              obtain ⟨rfl, hG⟩ := deep_trAns hn0 hn1 htr
              have HG := hide hG
              have HR3 := hide hrows
              obtain ⟨ba, bcap, rfl⟩ := hrows.shape
              have HD3 := hide ((unhide HD2).go hb3)
              have HC3 := hide ((unhide HR2).below hb3)
              clear htr hG hrows hb3 HD2 HR2 x0 x1
              obtain ⟨_, _, ec, hrow⟩ := unhide HC3
              cases ec
              obtain ⟨cb, rfl, -, hc1⟩ := hrow 1 (by omega)
              obtain ⟨cb', e', -, hc0⟩ := hrow 0 (by omega)
              cases e'
              obtain ⟨⟨F10, F11, F12, F13⟩, F00, F01, F02, F03⟩ := unhide HF
              have c10 : w3.cell? ⟨cb, 4, none⟩ = some (.int .i64 1) := by have := (hc1 0 (by omega)).1; rw [F10] at this; exact this
              have c11 : w3.cell? ⟨cb, 5, none⟩ = some (.int .i64 (j : Int)) := by have := (hc1 1 (by omega)).1; rw [F11] at this; exact this
              have c12 : w3.cell? ⟨cb, 6, none⟩ = some (.int .i64 (j : Int)) := by have := (hc1 2 (by omega)).1; rw [F12] at this; exact this
              have c13 : w3.cell? ⟨cb, 7, none⟩ = some (.int .i64 (j : Int)) := by have := (hc1 3 (by omega)).1; rw [F13] at this; exact this
              have c00 : w3.cell? ⟨cb, 0, none⟩ = some (.int .i64 0) := by have := (hc0 0 (by omega)).1; rw [F00] at this; exact this
              have c01 : w3.cell? ⟨cb, 1, none⟩ = some (.int .i64 1) := by have := (hc0 1 (by omega)).1; rw [F01] at this; exact this
              have c02 : w3.cell? ⟨cb, 2, none⟩ = some (.int .i64 0) := by have := (hc0 2 (by omega)).1; rw [F02] at this; exact this
              have c03 : w3.cell? ⟨cb, 3, none⟩ = some (.int .i64 (j : Int)) := by have := (hc0 3 (by omega)).1; rw [F03] at this; exact this
              have wj : IntKind.i64.wrap ((j : Int) + 1) = ((j + 1 : Nat) : Int) := by rw [IntKind.wrap_i64]; omega
              clear hrow hc1 hc0 F10 F11 F12 F13 F00 F01 F02 F03 HC3 HF
              go_wp2_with fail
              clear c10 c11 c12 c13 c00 c01 c02 c03
              go_loopg [9] (j + 1) (fun gg i W => ∃ q : Nat, q + gg = j + 2 ∧ 1 ≤ q ∧ i = .int .i64 q ∧ W = w3)
              case atStart => exact ⟨1, by omega, by omega, rfl, rfl⟩
              case round =>
                obtain ⟨q, hq, hq1, rfl, rfl⟩ := hrel
                by_cases hle : q ≤ j
                · have hqj : (q : Int) ≤ (j : Int) := by omega
                  have hq0 : (0 : Int) ≤ (q : Int) := by omega
                  have hqn : (q : Int) < ((j + 1 : Nat) : Int) := by omega
                  have wq : IntKind.i64.wrap ((q : Int) + 1) = ((q + 1 : Nat) : Int) := by rw [IntKind.wrap_i64]; omega
                  have wm : IntKind.i64.wrap ((q : Int) - 1) = (q : Int) - 1 := by rw [IntKind.wrap_i64]; omega
                  obtain ⟨_, _, ec, hrow⟩ := unhide HR3
                  cases ec
                  obtain ⟨bb, rfl, -, hc1⟩ := hrow q (by omega)
                  obtain ⟨G0, G1, G2, G3⟩ := unhide HG q hq1 hle
                  have c0 : wr.cell? ⟨bb, q * 4, none⟩ = some (.int .i64 1) := by have := (hc1 0 (by omega)).1; rw [G0] at this; exact this
                  have c1 : wr.cell? ⟨bb, q * 4 + 1, none⟩ = some (.int .i64 ((q : Int) - 1)) := by have := (hc1 1 (by omega)).1; rw [G1] at this; exact this
                  have c2 : wr.cell? ⟨bb, q * 4 + 2, none⟩ = some (.int .i64 1) := by have := (hc1 2 (by omega)).1; rw [G2] at this; exact this
                  have c3 : wr.cell? ⟨bb, q * 4 + 3, none⟩ = some (.int .i64 1) := by have := (hc1 3 (by omega)).1; rw [G3] at this; exact this
                  clear hrow hc1 G0 G1 G2 G3
                  go_wp2
                  go_roundg (j + 1 - q)
                  case measure => omega
                  case rel => exact ⟨q + 1, by omega, by omega, by go_num, rfl⟩
                · have hqj : ¬ (q : Int) ≤ (j : Int) := by omega
                  have hsd : Sound 2 deepFns (3 * j) (deepM j) := deep_sound hn0 hn1
                  have HSD := hide hsd
                  have x0 := (unhide HD3).t0
                  have x1 := (unhide HD3).t1
                  have m2 : IntKind.i64.wrap (2 * (j : Int)) = 2 * (j : Int) := by rw [IntKind.wrap_i64]; omega
                  have m3 : IntKind.i64.wrap (3 * (j : Int)) = 3 * (j : Int) := by rw [IntKind.wrap_i64]; omega
                  have m4 : IntKind.i64.wrap (2 * (j : Int) - 1) = 2 * (j : Int) - 1 := by rw [IntKind.wrap_i64]; omega
                  have m5 : IntKind.i64.wrap (3 * (j : Int) - 1) = 3 * (j : Int) - 1 := by rw [IntKind.wrap_i64]; omega
                  clear hsd HG HR3
                  go_wp2_with fail
                  refine (implOver_any 0 _ _ 2 deepFns (3 * j) (deepM j) 0 _ (unhide HD3).strs ((unhide HD3).moms (by omega))).mono ?_
                  rintro e w4 ⟨hst, hb4⟩
                  obtain rfl := step_sound' hst (unhide HSD) ⟨by omega, by omega⟩ _ (deep_over hn0)
                  have HD4 := hide ((unhide HD3).go hb4)
                  clear hst hb4 x0 x1 HD3
                  have x0 := (unhide HD4).t0
                  have x1 := (unhide HD4).t1
                  go_wp2_with fail
                  refine (implOut_any 0 _ _ 2 deepFns (3 * j) (deepM j) (2 * (j : Int) - 1) _ (unhide HD4).strs ((unhide HD4).moms (by omega))).mono ?_
                  rintro e w5 ⟨hst, hb5⟩
                  obtain rfl := step_sound' hst (unhide HSD) ⟨by omega, by omega⟩ _ (deep_out1 hn0)
                  have HD5 := hide ((unhide HD4).go hb5)
                  clear hst hb5 x0 x1 HD4
                  have x0 := (unhide HD5).t0
                  have x1 := (unhide HD5).t1
                  go_wp2_with fail
                  refine (implOut_any 0 _ _ 2 deepFns (3 * j) (deepM j) 0 _ (unhide HD5).strs ((unhide HD5).moms (by omega))).mono ?_
                  rintro e w6 ⟨hst, hb6⟩
                  obtain rfl := step_sound' hst (unhide HSD) ⟨by omega, by omega⟩ _ (deep_out0 hn0)
                  have HD6 := hide ((unhide HD5).go hb6)
                  clear hst hb6 x0 x1 HD5
                  go_wp2
                  go_ret
                  exact ⟨by simp, (unhide HD6).below⟩
  · have hle2 : decide ((1048576 : Int) < (len : Int)) = true := by simp; omega
    go_enter Try.func8, Try.ntmps8
    go_wp2
    go_ret
    exact ⟨rfl, Below.refl _ _⟩
end Go.Proofs.Ytoiacbdnkkolmaa
