import Derived.Test.YtoiacbdnkkolmaaK3z
import Derived.Test.YtoiacbdnkkolmaaGEfz
import Derived.Test.YtoiacbdnkkolmaaG2z
import Derived.Deep.LoopGhost
import Derived.Deep.AppendLies
import Derived.Deep.DeepCutAuto
import Derived.Deep.RegionHeld3
import Derived.BigQuiet
namespace Go.Proofs.Ytoiacbdnkkolmaa
open Go.RowKit Go.Lib

/-- What is carried from line to line: the last digit, and what the outer call showed last. -/
def LastIsD (last : Int) (prev : Option ByteArray) : Prop := (last = -1 ∧ prev = none) ∨ ∃ d : Nat, d < 3 ∧ last = (d : Int) ∧ prev = some (digit d)

theorem LastIsD.same {last : Int} {prev : Option ByteArray} (h : LastIsD last prev) {d : Nat} (hd : d < 3) : (prev = some (digit d)) ↔ (d : Int) = last := by
  rcases h with ⟨rfl, rfl⟩ | ⟨d', h', rfl, rfl⟩
  · constructor
    · intro h; cases h
    · intro h; omega
  · constructor
    · intro h
      have := digit_inj h' hd (Option.some.inj h)
      omega
    · intro h
      have : d = d' := by omega
      rw [this]

set_option maxRecDepth 100000 in
set_option maxHeartbeats 40000000 in
theorem fnWatch_any (v : Value) (len : Nat) (w : World) (h : BytesAt w v len) :
    Calls Try.prog 7 #[v] w fun e w' => e = .returned (.bool true) ∧ Below w.heap.size w w' := by
  have H := hide h
  obtain ⟨a, cap, rfl, _⟩ := h
  obtain ⟨i1, hi0, hz0, hz1, hz2⟩ := info_parts info_Moment
  have IM := hide (And.intro hi0 (And.intro hz0 (And.intro hz1 hz2))); clear hi0 hz0 hz1 hz2
  obtain ⟨i0, hi0, hz0, hz1, hz2⟩ := info_parts info_int'
  have II := hide (And.intro hi0 (And.intro hz0 (And.intro hz1 hz2))); clear hi0 hz0 hz1 hz2
  by_cases hlen : len ≤ 1048576
  · have hle2 : decide ((1048576 : Int) < (len : Int)) = false := by simp; omega
    go_enter Try.func7, Try.ntmps7
    go_wp2_with fail
    refine (wByte_any _ len 0 _ (unhide H) hlen).mono ?_
    rintro e w1 ⟨⟨b0, rfl, hb0⟩, rfl⟩
    have hm1 : IntKind.i64.wrap (1 + (b0 : Int) % 60) = 1 + (b0 : Int) % 60 := by rw [IntKind.wrap_i64]; omega
    go_upto_region 4 with fail
    obtain ⟨n, hn⟩ : ∃ n : Nat, (n : Int) = 1 + (b0 : Int) % 60 := ⟨1 + b0 % 60, by omega⟩
    have hn0 : 1 ≤ n := by omega
    have hn1 : n ≤ 60 := by omega
    rw [← hn]
    clear hn hm1 hb0 hle2
    go_upto_region 5 with fail
    have HW0 : Hid (WT w1 [] [] (.slice none 0 0) (.slice none 0 0) ((w1.alloc (.cells #[.string ⟨#[109, 97, 105, 110]⟩, .string ⟨#[102]⟩] 9)).alloc (.cells #[deepFv w1, .slice none 0 0] 26))) := hide (by
      have hs : (w1.alloc (.cells #[.string ⟨#[109, 97, 105, 110]⟩, .string ⟨#[102]⟩] 9)).heap.size = w1.heap.size + 1 := by simp
      refine ⟨?_, ?_, ⟨World.ownsRow_nil _ _ _ _, fun x hx => by cases hx⟩, World.ownsRow_nil _ _ _ _, ((Below.refl _ _).alloc (Nat.le_refl _) _).alloc (by simp) _⟩
      · rw [Below.heap_alloc _ _ _ (by simp)]; exact heap_alloc_new w1 _
      · have h := heap_alloc_new (w1.alloc (.cells #[.string ⟨#[109, 97, 105, 110]⟩, .string ⟨#[102]⟩] 9)) (.cells #[deepFv w1, .slice none 0 0] 26)
        rw [hs] at h
        exact h)
    generalize (w1.alloc (.cells #[.string ⟨#[109, 97, 105, 110]⟩, .string ⟨#[102]⟩] 9)).alloc (.cells #[deepFv w1, .slice none 0 0] 26) = wz at HW0 ⊢
    obtain ⟨ta, hta⟩ : ∃ ta : Option Addr, ta = none := ⟨_, rfl⟩
    obtain ⟨tc, htc⟩ : ∃ tc : Nat, tc = 0 := ⟨_, rfl⟩
    rw [← hta, ← htc] at HW0
    have HWz : Hid (WT w1 [] [] (.slice ta 0 tc) (.slice none 0 0) wz) := by rw [hta, htc]; rw [hta, htc] at HW0; exact HW0
    clear HW0
    clear hta htc
    have HNW : Hid (∀ j u, ([.int .i64 2, .int .i64 0, .int .i64 1, .int .i64 0, .string ⟨#[]⟩, .slice none 0 0] : List Value)[j]? = some u → (wz.alloc (.cells #[.int .i64 2, .int .i64 0, .int .i64 1, .int .i64 0, .string ⟨#[]⟩, .slice none 0 0] 30)).cell? ((⟨wz.heap.size, 0, none⟩ : Addr).add j) = some u) := hide (World.news_of_block (cs := #[.int .i64 2, .int .i64 0, .int .i64 1, .int .i64 0, .string ⟨#[]⟩, .slice none 0 0]) (t := 30) (fr := (0, 0)) (heap_alloc_new wz _))
    have HWN := hide ((unhide HWz).go (below_new wz (.cells #[.int .i64 2, .int .i64 0, .int .i64 1, .int .i64 0, .string ⟨#[]⟩, .slice none 0 0] 30)))
    have HRW := hide (unhide HWN).mom.row
    have t1 := (unhide HWz).t1
    have hsz := (unhide HWz).size
    go_wp2_with (at_builtin; refine wpList_append_lies _ (by rfl) _ _ _ (by rfl) (w1.heap.size + 2) 30 i1 _ 6 72 Try.underlying24 (unhide IM).1 (unhide IM).2.1 (unhide IM).2.2.1 (unhide IM).2.2.2 rfl (by omega) (.slice ta (0) tc) (0) (momCells []) (by rfl) (unhide HRW) ⟨wz.heap.size, 0, none⟩ 1 1 [.int .i64 2, .int .i64 0, .int .i64 1, .int .i64 0, .string ⟨#[]⟩, .slice none 0 0] (by rfl) (by rfl) (unhide HNW) (by simp [Value.oneCell']) (by omega) (by unfold maxLen; omega) (by omega) (by simp; omega) (wz.heap.size + 1) (by simp) ?_; intro g2 cp2 w7 hown hgrow _ _; obtain ⟨hq, hwt⟩ := (unhide HWN).putM (news := [cMo]) hgrow (by rw [momCells_app, List.length_append]; exact hown) (fun x hx => by rw [List.mem_singleton.1 hx]; exact ⟨ownV_nil _ _, Nat.zero_le _, Nat.zero_le _⟩); have HW7 := hide hwt; have c7 : w7.cell? ⟨w1.heap.size + 1, 1, none⟩ = some (.slice ta (0) tc) := (by rw [cell_of_row w7 _ 1 _ _ _ hq]; rfl); have z7 : w7.frozen? ⟨w1.heap.size + 1, 1, none⟩ = false := frozen_of_row _ _ _ _ _ hq; clear hown hgrow hq hwt)
    clear HWz HWN HRW HNW t1 hsz
    have HI0 := hide WInv.start
    go_loopg [5, 6, 7] n (fun gg wv lv iv W => ∃ (i : Nat) (ms : List Mo) (want : List Nat) (ta : Option Addr) (tc : Nat) (wa : Option Addr) (wcp : Nat) (l : Int) (prev : Option ByteArray) (last : Int), i + gg = n + 1 ∧ 1 ≤ i ∧ wv = .slice wa want.length wcp ∧ lv = .int .i64 last ∧ iv = .int .i64 i ∧ LastIsD last prev ∧ WInv ms want (outS l) prev ∧ 1 ≤ ms.length ∧ ms.length ≤ 4 * i ∧ want.length ≤ ms.length ∧ WT w1 ms want (.slice ta ms.length tc) (.slice wa want.length wcp) W)
    case atStart => exact ⟨1, [cMo], [], _, _, none, 0, 0, none, -1, by omega, by omega, rfl, rfl, rfl, .inl ⟨rfl, rfl⟩, unhide HI0, by simp, by simp, by simp, unhide HW7⟩
    case round =>
      clear HI0 HW7 c7 z7
      obtain ⟨i, ms, want, ta, tc, wa0, wcp, l, prev, last, hi, hi1, rfl, rfl, rfl, hla, hinv, hms1, hms4, hwl, hwt⟩ := hrel
      have HLA := hide hla
      have HINV := hide hinv
      have HWT := hide hwt
      clear hla hinv hwt
      by_cases hlt : i ≤ n
      · as_aux_lemma =>
          have hin : (i : Int) ≤ (n : Int) := by omega
          have wq : IntKind.i64.wrap ((i : Int) + 1) = ((i + 1 : Nat) : Int) := by rw [IntKind.wrap_i64]; omega
          go_wp2_with fail
          refine (wByte_any _ len i _ ((unhide H).below (unhide HWT).below) hlen).mono ?_
          rintro e wb ⟨⟨z, rfl, hz⟩, rfl⟩
          go_upto_if 37 with fail
          obtain ⟨d, hd⟩ : ∃ d : Nat, (d : Int) = (z : Int) % 3 := ⟨z % 3, by omega⟩
          have hd3 : d < 3 := by omega
          rw [← hd]
          clear hd hz
          obtain ⟨want1, hw1⟩ : ∃ want1, want1 = if prev = some (digit d) then want else want ++ [ms.length] := ⟨_, rfl⟩
          have hw1l : want1.length ≤ ms.length + 1 := by
            rw [hw1]
            split
            · omega
            · rw [List.length_append, List.length_singleton]; omega
          have HW1E := hide hw1
          clear hw1
          go_cut [5] (fun wv W => ∃ (wa : Option Addr) (wcp : Nat), wv = .slice wa want1.length wcp ∧ WT w1 ms want1 (.slice ta ms.length tc) (.slice wa want1.length wcp) W)
          case first =>
            as_aux_lemma =>
              by_cases heq : (d : Int) = last
              · have hb : ((d : Int) != last) = false := by simpa using heq
                have HE : Hid (want1 = want) := hide (by rw [unhide HW1E, if_pos (((unhide HLA).same hd3).2 heq)])
                clear heq
                go_wp2_with fail
                go_meet
                case rel => rw [unhide HE]; exact ⟨_, _, rfl, unhide HWT⟩
              · have hb : ((d : Int) != last) = true := by simpa using heq
                have HE : Hid (want1 = want ++ [ms.length]) := hide (by rw [unhide HW1E, if_neg (fun h => heq (((unhide HLA).same hd3).1 h))])
                clear heq
                have HNI : Hid (∀ j u, ([.int .i64 ((ms.length : Nat) : Int)] : List Value)[j]? = some u → (wb.alloc (.cells #[.int .i64 ((ms.length : Nat) : Int)] 3)).cell? ((⟨wb.heap.size, 0, none⟩ : Addr).add j) = some u) := hide (World.news_of_block (cs := #[.int .i64 ((ms.length : Nat) : Int)]) (t := 3) (fr := (0, 0)) (heap_alloc_new wb _))
                have HWN := hide ((unhide HWT).go (below_new wb (.cells #[.int .i64 ((ms.length : Nat) : Int)] 3)))
                have HRI := hide (unhide HWN).wan
                have t1 := (unhide HWT).t1
                have hsz := (unhide HWT).size
                go_wp2_with (at_builtin; refine wpList_append_lies _ (by rfl) _ _ _ (by rfl) (w1.heap.size + 2) 3 i0 _ 1 8 Try.underlying54 (unhide II).1 (unhide II).2.1 (unhide II).2.2.1 (unhide II).2.2.2 rfl (by omega) (.slice wa0 want.length wcp) want.length (want.map fun (x : Nat) => Value.int .i64 (x : Int)) (by rfl) (unhide HRI) ⟨wb.heap.size, 0, none⟩ 1 1 [.int .i64 ((ms.length : Nat) : Int)] (by rfl) (by rfl) (unhide HNI) (by intro u hu; rw [List.mem_singleton.1 hu]; rfl) (by omega) (by unfold maxLen; omega) (by omega) (by simp; omega) (wb.heap.size + 1) (by simp) ?_; intro g2 cp2 w7 hown hgrow _ _; have hwt := (unhide HWN).putW (k := ms.length) (wv' := .slice (some ⟨g2, 0, none⟩) (want.length + 1) cp2) hgrow (by unfold IntsOwn; rw [List.map_append, List.length_append]; exact hown); have HW7 := hide hwt; clear hown hgrow hwt)
                go_meet
                case rel => rw [unhide HE, List.length_append]; exact ⟨_, _, rfl, unhide HW7⟩
          case rest =>
            obtain ⟨wa1, wc1, rfl, hwt⟩ := hcut
            have HWC := hide hwt
            clear hwt HWT
            go_upto_region 15 with fail
            go_cut [] (fun W => ∃ (ta' : Option Addr) (tc' : Nat) (vv : Value), WT w1 (ms ++ [oMo i (digit d) vv]) want1 (.slice ta' (ms.length + 1) tc') (.slice wa1 want1.length wc1) W)
            case first =>
              as_aux_lemma =>
                refine wp_region_held_drew (S := fun _ => True) (by kernel_rfl) trivial (fun hHeld => ?_)
                have HW0 := hide ((unhide HWC).go ((Below.refl _ _).drew))
                refine takeAt 0 (some 45) (v := ?v0q18) (by decide) rfl (by kernel_rfl) (by kernel_rfl) (by kernel_rfl) (fun _ _ _ h => h) (by rfl) ?hy0q18 trivial ?r0q18
                case hy0q18 => (intro wx hSw; go_simp; with_reducible rfl)
                simp only [Act.put, List.setIfInBounds_toArray, List.set_cons_zero, List.set_cons_succ]
                refine takeAt 2 (some 47) (v := ?v2q19) (by decide) rfl (by kernel_rfl) (by kernel_rfl) (by kernel_rfl) (fun _ _ _ h => h) (by rfl) ?hy2q19 trivial ?r2q19
                case hy2q19 => (intro wx hSw; go_simp; with_reducible rfl)
                simp only [Act.put, List.setIfInBounds_toArray, List.set_cons_zero, List.set_cons_succ]
                refine takeAt 3 (some 48) (v := ?v3q20) (by decide) rfl (by kernel_rfl) (by kernel_rfl) (by kernel_rfl) (fun _ _ _ h => h) (by rfl) ?hy3q20 trivial ?r3q20
                case hy3q20 => (intro wx hSw; go_simp; with_reducible rfl)
                simp only [Act.put, List.setIfInBounds_toArray, List.set_cons_zero, List.set_cons_succ]
                refine wpAnyH_ready (rs := [1, 4]) (by kernel_rfl) (by simp) ?_
                refine AllReadyH.cons rfl (fun K hK => ?_) (AllReadyH.cons rfl (fun K hK => ?_) AllReadyH.nil)
                · have t1 := (unhide HW0).t1
                  go_simp
                  refine hK.out _ _ trivial (fun hHeld => ?_)
                  clear hK K t1
                  try simp only [Act.put, List.setIfInBounds_toArray, List.getElem_toArray, List.getElem_cons_succ, List.getElem_cons_zero, List.set_cons_zero, List.set_cons_succ]
                  refine wpAnyH_ready (rs := [4]) (by kernel_rfl) (by simp) ?_
                  refine AllReadyH.cons rfl (fun K hK => ?_) AllReadyH.nil
                  go_simp
                  refine (wDigit_any d _ (by omega)).mono ?_
                  rintro e wa ⟨rfl, hba⟩
                  have HW1 := hide ((unhide HW0).go hba)
                  clear hba
                  refine hK.out _ _ trivial (fun hHeld => ?_)
                  clear hK K
                  try simp only [Act.put, List.setIfInBounds_toArray, List.getElem_toArray, List.getElem_cons_succ, List.getElem_cons_zero, List.set_cons_zero, List.set_cons_succ]
                  refine takeAt 5 (some 50) (v := ?v5q21) (by decide) rfl (by kernel_rfl) (by kernel_rfl) (by kernel_rfl) (fun _ _ _ h => h) (by rfl) ?hy5q21 trivial ?r5q21
                  case hy5q21 => (intro wx hSw; go_simp; with_reducible rfl)
                  simp only [Act.put, List.setIfInBounds_toArray, List.set_cons_zero, List.set_cons_succ]
                  refine wpAnyH_ready (rs := [6]) (by kernel_rfl) (by simp) ?_
                  refine AllReadyH.cons rfl (fun K hK => ?_) AllReadyH.nil
                  have hr := bs_var1 ⟨#[120]⟩ (digit d) wa
                  refine step_bs1 rfl _ _ _ rfl _ (by rfl) _ hr ?_
                  clear hr
                  have HW2 := hide ((unhide HW1).go (below_new wa (.cells #[.string ⟨#[120]⟩, .string (digit d)] 64)))
                  refine hK.out _ _ trivial (fun hHeld => ?_)
                  clear hK K
                  try simp only [Act.put, List.setIfInBounds_toArray, List.getElem_toArray, List.getElem_cons_succ, List.getElem_cons_zero, List.set_cons_zero, List.set_cons_succ]
                  refine takeAt 7 (some 52) (v := ?v7q22) (by decide) rfl (by kernel_rfl) (by kernel_rfl) (by kernel_rfl) (fun _ _ _ h => h) (by rfl) ?hy7q22 trivial ?r7q22
                  case hy7q22 => (intro wx hSw; go_simp; with_reducible rfl)
                  simp only [Act.put, List.setIfInBounds_toArray, List.set_cons_zero, List.set_cons_succ]
                  refine wpAnyH_ready (rs := [8]) (by kernel_rfl) (by simp) ?_
                  refine AllReadyH.cons rfl (fun K hK => ?_) AllReadyH.nil
                  have hr := bs_mom1 1 0 1 (i : Int) ⟨#[]⟩ (some ⟨wa.heap.size, 0, none⟩) 1 1 (wa.alloc (.cells #[.string ⟨#[120]⟩, .string (digit d)] 64))
                  rw [World.size_alloc] at hr
                  refine step_bs1 rfl _ _ _ rfl _ (by rfl) _ hr ?_
                  clear hr
                  have HW3 := hide ((unhide HW2).go (below_new (wa.alloc (.cells #[.string ⟨#[120]⟩, .string (digit d)] 64)) (.cells #[.int .i64 1, .int .i64 0, .int .i64 1, .int .i64 (i : Int), .string ⟨#[]⟩, .slice (some ⟨wa.heap.size, 0, none⟩) 1 1] 30)))
                  refine hK.out _ _ trivial (fun hHeld => ?_)
                  clear hK K
                  try simp only [Act.put, List.setIfInBounds_toArray, List.getElem_toArray, List.getElem_cons_succ, List.getElem_cons_zero, List.set_cons_zero, List.set_cons_succ]
                  have hvb : ((wa.alloc (.cells #[.string ⟨#[120]⟩, .string (digit d)] 64)).alloc (.cells #[.int .i64 1, .int .i64 0, .int .i64 1, .int .i64 (i : Int), .string ⟨#[]⟩, .slice (some ⟨wa.heap.size, 0, none⟩) 1 1] 30)).heap[wa.heap.size]? = some (.cells #[.string ⟨#[120]⟩, .string (digit d)] 64 (0, 0)) := by
                    rw [Below.heap_alloc _ _ _ (by simp)]
                    exact heap_alloc_new wa _
                  have hmb : ((wa.alloc (.cells #[.string ⟨#[120]⟩, .string (digit d)] 64)).alloc (.cells #[.int .i64 1, .int .i64 0, .int .i64 1, .int .i64 (i : Int), .string ⟨#[]⟩, .slice (some ⟨wa.heap.size, 0, none⟩) 1 1] 30)).heap[wa.heap.size + 1]? = some (.cells #[.int .i64 1, .int .i64 0, .int .i64 1, .int .i64 (i : Int), .string ⟨#[]⟩, .slice (some ⟨wa.heap.size, 0, none⟩) 1 1] 30 (0, 0)) := by
                    have := heap_alloc_new (wa.alloc (.cells #[.string ⟨#[120]⟩, .string (digit d)] 64)) (.cells #[.int .i64 1, .int .i64 0, .int .i64 1, .int .i64 (i : Int), .string ⟨#[]⟩, .slice (some ⟨wa.heap.size, 0, none⟩) 1 1] 30)
                    rw [World.size_alloc] at this
                    exact this
                  have hBs : w1.heap.size + 2 ≤ wa.heap.size := (unhide HW1).size
                  refine wpAnyH_ready (rs := [9]) (by kernel_rfl) (by simp) ?_
                  refine AllReadyH.cons rfl (fun K hK => ?_) AllReadyH.nil
                  refine step_append_lies _ (by rfl) _ _ _ (by rfl) (w1.heap.size + 2) 30 i1 _ 6 72 Try.underlying24 (unhide IM).1 (unhide IM).2.1 (unhide IM).2.2.1 (unhide IM).2.2.2 rfl (by omega) (.slice ta ms.length tc) ms.length (momCells ms) (by rfl) (unhide HW3).mom.row
                    ⟨wa.heap.size + 1, 0, none⟩ 1 1 [.int .i64 1, .int .i64 0, .int .i64 1, .int .i64 (i : Int), .string ⟨#[]⟩, .slice (some ⟨wa.heap.size, 0, none⟩) 1 1] (by rfl) (by rfl) (World.news_of_block (cs := #[.int .i64 1, .int .i64 0, .int .i64 1, .int .i64 (i : Int), .string ⟨#[]⟩, .slice (some ⟨wa.heap.size, 0, none⟩) 1 1]) (t := 30) (fr := (0, 0)) hmb) (by simp [Value.oneCell'])
                    (by omega) (by unfold maxLen; omega) (by omega) (by simp; omega) (wa.heap.size + 1 + 1) (by simp) ?_
                  intro g2 cp2 w7 hown hgrow _ _
                  obtain ⟨hq, hwt⟩ := (unhide HW3).putM (news := [oMo i (digit d) (.slice (some ⟨wa.heap.size, 0, none⟩) 1 1)]) hgrow (by rw [momCells_app, List.length_append]; exact hown) (fun x hx => by rw [List.mem_singleton.1 hx]; exact ⟨ownV_one hvb hBs rfl (digit_size d), by show 1 ≤ 3; omega, Nat.zero_le _⟩)
                  have HW7 := hide hwt
                  have c7 : w7.cell? ⟨w1.heap.size + 1, 1, none⟩ = some (.slice ta ms.length tc) := by rw [cell_of_row w7 _ 1 _ _ _ hq]; rfl
                  have z7 : w7.frozen? ⟨w1.heap.size + 1, 1, none⟩ = false := frozen_of_row _ _ _ _ _ hq
                  clear hown hgrow hq hwt
                  refine hK.out _ _ trivial (fun hHeld => ?_)
                  clear hK K
                  try simp only [Act.put, List.setIfInBounds_toArray, List.getElem_toArray, List.getElem_cons_succ, List.getElem_cons_zero, List.set_cons_zero, List.set_cons_succ]
                  refine takeAt 10 (some 55) (v := ?v10q23) (by decide) rfl (by kernel_rfl) (by kernel_rfl) (by kernel_rfl) (fun _ _ _ h => h) (by rfl) ?hy10q23 trivial ?r10q23
                  case hy10q23 => (intro wx hSw; go_simp; with_reducible rfl)
                  simp only [Act.put, List.setIfInBounds_toArray, List.set_cons_zero, List.set_cons_succ]
                  refine wpAnyH_ready (rs := [11]) (by kernel_rfl) (by simp) ?_
                  refine AllReadyH.cons rfl (fun K hK => ?_) AllReadyH.nil
                  go_simp
                  refine hK.out _ _ trivial (fun hHeld => ?_)
                  clear hK K
                  refine wpAnyH_done (by kernel_rfl) ?_ _
                  go_wp2_with fail
                  go_meet
                  case rel => exact ⟨_, _, _, unhide HW7⟩
                · go_simp
                  refine (wDigit_any d _ (by omega)).mono ?_
                  rintro e wa ⟨rfl, hba⟩
                  have HW1 := hide ((unhide HW0).go hba)
                  clear hba
                  refine hK.out _ _ trivial (fun hHeld => ?_)
                  clear hK K
                  try simp only [Act.put, List.setIfInBounds_toArray, List.getElem_toArray, List.getElem_cons_succ, List.getElem_cons_zero, List.set_cons_zero, List.set_cons_succ]
                  refine takeAt 5 (some 50) (v := ?v5q24) (by decide) rfl (by kernel_rfl) (by kernel_rfl) (by kernel_rfl) (fun _ _ _ h => h) (by rfl) ?hy5q24 trivial ?r5q24
                  case hy5q24 => (intro wx hSw; go_simp; with_reducible rfl)
                  simp only [Act.put, List.setIfInBounds_toArray, List.set_cons_zero, List.set_cons_succ]
                  refine wpAnyH_ready (rs := [1, 6]) (by kernel_rfl) (by simp) ?_
                  refine AllReadyH.cons rfl (fun K hK => ?_) (AllReadyH.cons rfl (fun K hK => ?_) AllReadyH.nil)
                  · have t1 := (unhide HW1).t1
                    go_simp
                    refine hK.out _ _ trivial (fun hHeld => ?_)
                    clear hK K t1
                    try simp only [Act.put, List.setIfInBounds_toArray, List.getElem_toArray, List.getElem_cons_succ, List.getElem_cons_zero, List.set_cons_zero, List.set_cons_succ]
                    refine wpAnyH_ready (rs := [6]) (by kernel_rfl) (by simp) ?_
                    refine AllReadyH.cons rfl (fun K hK => ?_) AllReadyH.nil
                    have hr := bs_var1 ⟨#[120]⟩ (digit d) wa
                    refine step_bs1 rfl _ _ _ rfl _ (by rfl) _ hr ?_
                    clear hr
                    have HW2 := hide ((unhide HW1).go (below_new wa (.cells #[.string ⟨#[120]⟩, .string (digit d)] 64)))
                    refine hK.out _ _ trivial (fun hHeld => ?_)
                    clear hK K
                    try simp only [Act.put, List.setIfInBounds_toArray, List.getElem_toArray, List.getElem_cons_succ, List.getElem_cons_zero, List.set_cons_zero, List.set_cons_succ]
                    refine takeAt 7 (some 52) (v := ?v7q25) (by decide) rfl (by kernel_rfl) (by kernel_rfl) (by kernel_rfl) (fun _ _ _ h => h) (by rfl) ?hy7q25 trivial ?r7q25
                    case hy7q25 => (intro wx hSw; go_simp; with_reducible rfl)
                    simp only [Act.put, List.setIfInBounds_toArray, List.set_cons_zero, List.set_cons_succ]
                    refine wpAnyH_ready (rs := [8]) (by kernel_rfl) (by simp) ?_
                    refine AllReadyH.cons rfl (fun K hK => ?_) AllReadyH.nil
                    have hr := bs_mom1 1 0 1 (i : Int) ⟨#[]⟩ (some ⟨wa.heap.size, 0, none⟩) 1 1 (wa.alloc (.cells #[.string ⟨#[120]⟩, .string (digit d)] 64))
                    rw [World.size_alloc] at hr
                    refine step_bs1 rfl _ _ _ rfl _ (by rfl) _ hr ?_
                    clear hr
                    have HW3 := hide ((unhide HW2).go (below_new (wa.alloc (.cells #[.string ⟨#[120]⟩, .string (digit d)] 64)) (.cells #[.int .i64 1, .int .i64 0, .int .i64 1, .int .i64 (i : Int), .string ⟨#[]⟩, .slice (some ⟨wa.heap.size, 0, none⟩) 1 1] 30)))
                    refine hK.out _ _ trivial (fun hHeld => ?_)
                    clear hK K
                    try simp only [Act.put, List.setIfInBounds_toArray, List.getElem_toArray, List.getElem_cons_succ, List.getElem_cons_zero, List.set_cons_zero, List.set_cons_succ]
                    have hvb : ((wa.alloc (.cells #[.string ⟨#[120]⟩, .string (digit d)] 64)).alloc (.cells #[.int .i64 1, .int .i64 0, .int .i64 1, .int .i64 (i : Int), .string ⟨#[]⟩, .slice (some ⟨wa.heap.size, 0, none⟩) 1 1] 30)).heap[wa.heap.size]? = some (.cells #[.string ⟨#[120]⟩, .string (digit d)] 64 (0, 0)) := by
                      rw [Below.heap_alloc _ _ _ (by simp)]
                      exact heap_alloc_new wa _
                    have hmb : ((wa.alloc (.cells #[.string ⟨#[120]⟩, .string (digit d)] 64)).alloc (.cells #[.int .i64 1, .int .i64 0, .int .i64 1, .int .i64 (i : Int), .string ⟨#[]⟩, .slice (some ⟨wa.heap.size, 0, none⟩) 1 1] 30)).heap[wa.heap.size + 1]? = some (.cells #[.int .i64 1, .int .i64 0, .int .i64 1, .int .i64 (i : Int), .string ⟨#[]⟩, .slice (some ⟨wa.heap.size, 0, none⟩) 1 1] 30 (0, 0)) := by
                      have := heap_alloc_new (wa.alloc (.cells #[.string ⟨#[120]⟩, .string (digit d)] 64)) (.cells #[.int .i64 1, .int .i64 0, .int .i64 1, .int .i64 (i : Int), .string ⟨#[]⟩, .slice (some ⟨wa.heap.size, 0, none⟩) 1 1] 30)
                      rw [World.size_alloc] at this
                      exact this
                    have hBs : w1.heap.size + 2 ≤ wa.heap.size := (unhide HW1).size
                    refine wpAnyH_ready (rs := [9]) (by kernel_rfl) (by simp) ?_
                    refine AllReadyH.cons rfl (fun K hK => ?_) AllReadyH.nil
                    refine step_append_lies _ (by rfl) _ _ _ (by rfl) (w1.heap.size + 2) 30 i1 _ 6 72 Try.underlying24 (unhide IM).1 (unhide IM).2.1 (unhide IM).2.2.1 (unhide IM).2.2.2 rfl (by omega) (.slice ta ms.length tc) ms.length (momCells ms) (by rfl) (unhide HW3).mom.row
                      ⟨wa.heap.size + 1, 0, none⟩ 1 1 [.int .i64 1, .int .i64 0, .int .i64 1, .int .i64 (i : Int), .string ⟨#[]⟩, .slice (some ⟨wa.heap.size, 0, none⟩) 1 1] (by rfl) (by rfl) (World.news_of_block (cs := #[.int .i64 1, .int .i64 0, .int .i64 1, .int .i64 (i : Int), .string ⟨#[]⟩, .slice (some ⟨wa.heap.size, 0, none⟩) 1 1]) (t := 30) (fr := (0, 0)) hmb) (by simp [Value.oneCell'])
                      (by omega) (by unfold maxLen; omega) (by omega) (by simp; omega) (wa.heap.size + 1 + 1) (by simp) ?_
                    intro g2 cp2 w7 hown hgrow _ _
                    obtain ⟨hq, hwt⟩ := (unhide HW3).putM (news := [oMo i (digit d) (.slice (some ⟨wa.heap.size, 0, none⟩) 1 1)]) hgrow (by rw [momCells_app, List.length_append]; exact hown) (fun x hx => by rw [List.mem_singleton.1 hx]; exact ⟨ownV_one hvb hBs rfl (digit_size d), by show 1 ≤ 3; omega, Nat.zero_le _⟩)
                    have HW7 := hide hwt
                    have c7 : w7.cell? ⟨w1.heap.size + 1, 1, none⟩ = some (.slice ta ms.length tc) := by rw [cell_of_row w7 _ 1 _ _ _ hq]; rfl
                    have z7 : w7.frozen? ⟨w1.heap.size + 1, 1, none⟩ = false := frozen_of_row _ _ _ _ _ hq
                    clear hown hgrow hq hwt
                    refine hK.out _ _ trivial (fun hHeld => ?_)
                    clear hK K
                    try simp only [Act.put, List.setIfInBounds_toArray, List.getElem_toArray, List.getElem_cons_succ, List.getElem_cons_zero, List.set_cons_zero, List.set_cons_succ]
                    refine takeAt 10 (some 55) (v := ?v10q26) (by decide) rfl (by kernel_rfl) (by kernel_rfl) (by kernel_rfl) (fun _ _ _ h => h) (by rfl) ?hy10q26 trivial ?r10q26
                    case hy10q26 => (intro wx hSw; go_simp; with_reducible rfl)
                    simp only [Act.put, List.setIfInBounds_toArray, List.set_cons_zero, List.set_cons_succ]
                    refine wpAnyH_ready (rs := [11]) (by kernel_rfl) (by simp) ?_
                    refine AllReadyH.cons rfl (fun K hK => ?_) AllReadyH.nil
                    go_simp
                    refine hK.out _ _ trivial (fun hHeld => ?_)
                    clear hK K
                    refine wpAnyH_done (by kernel_rfl) ?_ _
                    go_wp2_with fail
                    go_meet
                    case rel => exact ⟨_, _, _, unhide HW7⟩
                  · have hr := bs_var1 ⟨#[120]⟩ (digit d) wa
                    refine step_bs1 rfl _ _ _ rfl _ (by rfl) _ hr ?_
                    clear hr
                    have HW2 := hide ((unhide HW1).go (below_new wa (.cells #[.string ⟨#[120]⟩, .string (digit d)] 64)))
                    refine hK.out _ _ trivial (fun hHeld => ?_)
                    clear hK K
                    try simp only [Act.put, List.setIfInBounds_toArray, List.getElem_toArray, List.getElem_cons_succ, List.getElem_cons_zero, List.set_cons_zero, List.set_cons_succ]
                    refine takeAt 7 (some 52) (v := ?v7q27) (by decide) rfl (by kernel_rfl) (by kernel_rfl) (by kernel_rfl) (fun _ _ _ h => h) (by rfl) ?hy7q27 trivial ?r7q27
                    case hy7q27 => (intro wx hSw; go_simp; with_reducible rfl)
                    simp only [Act.put, List.setIfInBounds_toArray, List.set_cons_zero, List.set_cons_succ]
                    refine wpAnyH_ready (rs := [1, 8]) (by kernel_rfl) (by simp) ?_
                    refine AllReadyH.cons rfl (fun K hK => ?_) (AllReadyH.cons rfl (fun K hK => ?_) AllReadyH.nil)
                    · have t1 := (unhide HW2).t1
                      go_simp
                      refine hK.out _ _ trivial (fun hHeld => ?_)
                      clear hK K t1
                      try simp only [Act.put, List.setIfInBounds_toArray, List.getElem_toArray, List.getElem_cons_succ, List.getElem_cons_zero, List.set_cons_zero, List.set_cons_succ]
                      refine wpAnyH_ready (rs := [8]) (by kernel_rfl) (by simp) ?_
                      refine AllReadyH.cons rfl (fun K hK => ?_) AllReadyH.nil
                      have hr := bs_mom1 1 0 1 (i : Int) ⟨#[]⟩ (some ⟨wa.heap.size, 0, none⟩) 1 1 (wa.alloc (.cells #[.string ⟨#[120]⟩, .string (digit d)] 64))
                      rw [World.size_alloc] at hr
                      refine step_bs1 rfl _ _ _ rfl _ (by rfl) _ hr ?_
                      clear hr
                      have HW3 := hide ((unhide HW2).go (below_new (wa.alloc (.cells #[.string ⟨#[120]⟩, .string (digit d)] 64)) (.cells #[.int .i64 1, .int .i64 0, .int .i64 1, .int .i64 (i : Int), .string ⟨#[]⟩, .slice (some ⟨wa.heap.size, 0, none⟩) 1 1] 30)))
                      refine hK.out _ _ trivial (fun hHeld => ?_)
                      clear hK K
                      try simp only [Act.put, List.setIfInBounds_toArray, List.getElem_toArray, List.getElem_cons_succ, List.getElem_cons_zero, List.set_cons_zero, List.set_cons_succ]
                      have hvb : ((wa.alloc (.cells #[.string ⟨#[120]⟩, .string (digit d)] 64)).alloc (.cells #[.int .i64 1, .int .i64 0, .int .i64 1, .int .i64 (i : Int), .string ⟨#[]⟩, .slice (some ⟨wa.heap.size, 0, none⟩) 1 1] 30)).heap[wa.heap.size]? = some (.cells #[.string ⟨#[120]⟩, .string (digit d)] 64 (0, 0)) := by
                        rw [Below.heap_alloc _ _ _ (by simp)]
                        exact heap_alloc_new wa _
                      have hmb : ((wa.alloc (.cells #[.string ⟨#[120]⟩, .string (digit d)] 64)).alloc (.cells #[.int .i64 1, .int .i64 0, .int .i64 1, .int .i64 (i : Int), .string ⟨#[]⟩, .slice (some ⟨wa.heap.size, 0, none⟩) 1 1] 30)).heap[wa.heap.size + 1]? = some (.cells #[.int .i64 1, .int .i64 0, .int .i64 1, .int .i64 (i : Int), .string ⟨#[]⟩, .slice (some ⟨wa.heap.size, 0, none⟩) 1 1] 30 (0, 0)) := by
                        have := heap_alloc_new (wa.alloc (.cells #[.string ⟨#[120]⟩, .string (digit d)] 64)) (.cells #[.int .i64 1, .int .i64 0, .int .i64 1, .int .i64 (i : Int), .string ⟨#[]⟩, .slice (some ⟨wa.heap.size, 0, none⟩) 1 1] 30)
                        rw [World.size_alloc] at this
                        exact this
                      have hBs : w1.heap.size + 2 ≤ wa.heap.size := (unhide HW1).size
                      refine wpAnyH_ready (rs := [9]) (by kernel_rfl) (by simp) ?_
                      refine AllReadyH.cons rfl (fun K hK => ?_) AllReadyH.nil
                      refine step_append_lies _ (by rfl) _ _ _ (by rfl) (w1.heap.size + 2) 30 i1 _ 6 72 Try.underlying24 (unhide IM).1 (unhide IM).2.1 (unhide IM).2.2.1 (unhide IM).2.2.2 rfl (by omega) (.slice ta ms.length tc) ms.length (momCells ms) (by rfl) (unhide HW3).mom.row
                        ⟨wa.heap.size + 1, 0, none⟩ 1 1 [.int .i64 1, .int .i64 0, .int .i64 1, .int .i64 (i : Int), .string ⟨#[]⟩, .slice (some ⟨wa.heap.size, 0, none⟩) 1 1] (by rfl) (by rfl) (World.news_of_block (cs := #[.int .i64 1, .int .i64 0, .int .i64 1, .int .i64 (i : Int), .string ⟨#[]⟩, .slice (some ⟨wa.heap.size, 0, none⟩) 1 1]) (t := 30) (fr := (0, 0)) hmb) (by simp [Value.oneCell'])
                        (by omega) (by unfold maxLen; omega) (by omega) (by simp; omega) (wa.heap.size + 1 + 1) (by simp) ?_
                      intro g2 cp2 w7 hown hgrow _ _
                      obtain ⟨hq, hwt⟩ := (unhide HW3).putM (news := [oMo i (digit d) (.slice (some ⟨wa.heap.size, 0, none⟩) 1 1)]) hgrow (by rw [momCells_app, List.length_append]; exact hown) (fun x hx => by rw [List.mem_singleton.1 hx]; exact ⟨ownV_one hvb hBs rfl (digit_size d), by show 1 ≤ 3; omega, Nat.zero_le _⟩)
                      have HW7 := hide hwt
                      have c7 : w7.cell? ⟨w1.heap.size + 1, 1, none⟩ = some (.slice ta ms.length tc) := by rw [cell_of_row w7 _ 1 _ _ _ hq]; rfl
                      have z7 : w7.frozen? ⟨w1.heap.size + 1, 1, none⟩ = false := frozen_of_row _ _ _ _ _ hq
                      clear hown hgrow hq hwt
                      refine hK.out _ _ trivial (fun hHeld => ?_)
                      clear hK K
                      try simp only [Act.put, List.setIfInBounds_toArray, List.getElem_toArray, List.getElem_cons_succ, List.getElem_cons_zero, List.set_cons_zero, List.set_cons_succ]
                      refine takeAt 10 (some 55) (v := ?v10q28) (by decide) rfl (by kernel_rfl) (by kernel_rfl) (by kernel_rfl) (fun _ _ _ h => h) (by rfl) ?hy10q28 trivial ?r10q28
                      case hy10q28 => (intro wx hSw; go_simp; with_reducible rfl)
                      simp only [Act.put, List.setIfInBounds_toArray, List.set_cons_zero, List.set_cons_succ]
                      refine wpAnyH_ready (rs := [11]) (by kernel_rfl) (by simp) ?_
                      refine AllReadyH.cons rfl (fun K hK => ?_) AllReadyH.nil
                      go_simp
                      refine hK.out _ _ trivial (fun hHeld => ?_)
                      clear hK K
                      refine wpAnyH_done (by kernel_rfl) ?_ _
                      go_wp2_with fail
                      go_meet
                      case rel => exact ⟨_, _, _, unhide HW7⟩
                    · have hr := bs_mom1 1 0 1 (i : Int) ⟨#[]⟩ (some ⟨wa.heap.size, 0, none⟩) 1 1 (wa.alloc (.cells #[.string ⟨#[120]⟩, .string (digit d)] 64))
                      rw [World.size_alloc] at hr
                      refine step_bs1 rfl _ _ _ rfl _ (by rfl) _ hr ?_
                      clear hr
                      have HW3 := hide ((unhide HW2).go (below_new (wa.alloc (.cells #[.string ⟨#[120]⟩, .string (digit d)] 64)) (.cells #[.int .i64 1, .int .i64 0, .int .i64 1, .int .i64 (i : Int), .string ⟨#[]⟩, .slice (some ⟨wa.heap.size, 0, none⟩) 1 1] 30)))
                      refine hK.out _ _ trivial (fun hHeld => ?_)
                      clear hK K
                      try simp only [Act.put, List.setIfInBounds_toArray, List.getElem_toArray, List.getElem_cons_succ, List.getElem_cons_zero, List.set_cons_zero, List.set_cons_succ]
                      refine wpAnyH_ready (rs := [1]) (by kernel_rfl) (by simp) ?_
                      refine AllReadyH.cons rfl (fun K hK => ?_) AllReadyH.nil
                      have t1 := (unhide HW3).t1
                      go_simp
                      refine hK.out _ _ trivial (fun hHeld => ?_)
                      clear hK K t1
                      try simp only [Act.put, List.setIfInBounds_toArray, List.getElem_toArray, List.getElem_cons_succ, List.getElem_cons_zero, List.set_cons_zero, List.set_cons_succ]
                      have hvb : ((wa.alloc (.cells #[.string ⟨#[120]⟩, .string (digit d)] 64)).alloc (.cells #[.int .i64 1, .int .i64 0, .int .i64 1, .int .i64 (i : Int), .string ⟨#[]⟩, .slice (some ⟨wa.heap.size, 0, none⟩) 1 1] 30)).heap[wa.heap.size]? = some (.cells #[.string ⟨#[120]⟩, .string (digit d)] 64 (0, 0)) := by
                        rw [Below.heap_alloc _ _ _ (by simp)]
                        exact heap_alloc_new wa _
                      have hmb : ((wa.alloc (.cells #[.string ⟨#[120]⟩, .string (digit d)] 64)).alloc (.cells #[.int .i64 1, .int .i64 0, .int .i64 1, .int .i64 (i : Int), .string ⟨#[]⟩, .slice (some ⟨wa.heap.size, 0, none⟩) 1 1] 30)).heap[wa.heap.size + 1]? = some (.cells #[.int .i64 1, .int .i64 0, .int .i64 1, .int .i64 (i : Int), .string ⟨#[]⟩, .slice (some ⟨wa.heap.size, 0, none⟩) 1 1] 30 (0, 0)) := by
                        have := heap_alloc_new (wa.alloc (.cells #[.string ⟨#[120]⟩, .string (digit d)] 64)) (.cells #[.int .i64 1, .int .i64 0, .int .i64 1, .int .i64 (i : Int), .string ⟨#[]⟩, .slice (some ⟨wa.heap.size, 0, none⟩) 1 1] 30)
                        rw [World.size_alloc] at this
                        exact this
                      have hBs : w1.heap.size + 2 ≤ wa.heap.size := (unhide HW1).size
                      refine wpAnyH_ready (rs := [9]) (by kernel_rfl) (by simp) ?_
                      refine AllReadyH.cons rfl (fun K hK => ?_) AllReadyH.nil
                      refine step_append_lies _ (by rfl) _ _ _ (by rfl) (w1.heap.size + 2) 30 i1 _ 6 72 Try.underlying24 (unhide IM).1 (unhide IM).2.1 (unhide IM).2.2.1 (unhide IM).2.2.2 rfl (by omega) (.slice ta ms.length tc) ms.length (momCells ms) (by rfl) (unhide HW3).mom.row
                        ⟨wa.heap.size + 1, 0, none⟩ 1 1 [.int .i64 1, .int .i64 0, .int .i64 1, .int .i64 (i : Int), .string ⟨#[]⟩, .slice (some ⟨wa.heap.size, 0, none⟩) 1 1] (by rfl) (by rfl) (World.news_of_block (cs := #[.int .i64 1, .int .i64 0, .int .i64 1, .int .i64 (i : Int), .string ⟨#[]⟩, .slice (some ⟨wa.heap.size, 0, none⟩) 1 1]) (t := 30) (fr := (0, 0)) hmb) (by simp [Value.oneCell'])
                        (by omega) (by unfold maxLen; omega) (by omega) (by simp; omega) (wa.heap.size + 1 + 1) (by simp) ?_
                      intro g2 cp2 w7 hown hgrow _ _
                      obtain ⟨hq, hwt⟩ := (unhide HW3).putM (news := [oMo i (digit d) (.slice (some ⟨wa.heap.size, 0, none⟩) 1 1)]) hgrow (by rw [momCells_app, List.length_append]; exact hown) (fun x hx => by rw [List.mem_singleton.1 hx]; exact ⟨ownV_one hvb hBs rfl (digit_size d), by show 1 ≤ 3; omega, Nat.zero_le _⟩)
                      have HW7 := hide hwt
                      have c7 : w7.cell? ⟨w1.heap.size + 1, 1, none⟩ = some (.slice ta ms.length tc) := by rw [cell_of_row w7 _ 1 _ _ _ hq]; rfl
                      have z7 : w7.frozen? ⟨w1.heap.size + 1, 1, none⟩ = false := frozen_of_row _ _ _ _ _ hq
                      clear hown hgrow hq hwt
                      refine hK.out _ _ trivial (fun hHeld => ?_)
                      clear hK K
                      try simp only [Act.put, List.setIfInBounds_toArray, List.getElem_toArray, List.getElem_cons_succ, List.getElem_cons_zero, List.set_cons_zero, List.set_cons_succ]
                      refine takeAt 10 (some 55) (v := ?v10q29) (by decide) rfl (by kernel_rfl) (by kernel_rfl) (by kernel_rfl) (fun _ _ _ h => h) (by rfl) ?hy10q29 trivial ?r10q29
                      case hy10q29 => (intro wx hSw; go_simp; with_reducible rfl)
                      simp only [Act.put, List.setIfInBounds_toArray, List.set_cons_zero, List.set_cons_succ]
                      refine wpAnyH_ready (rs := [11]) (by kernel_rfl) (by simp) ?_
                      refine AllReadyH.cons rfl (fun K hK => ?_) AllReadyH.nil
                      go_simp
                      refine hK.out _ _ trivial (fun hHeld => ?_)
                      clear hK K
                      refine wpAnyH_done (by kernel_rfl) ?_ _
                      go_wp2_with fail
                      go_meet
                      case rel => exact ⟨_, _, _, unhide HW7⟩
            case rest =>
              obtain ⟨ta2, tc2, vv, hwt⟩ := hcut
              have HWD := hide hwt
              have HI2 := hide ((unhide HINV).outer (vv := vv) hi1 (by omega : i ≤ 60) (digit_size d))
              rw [← unhide HW1E] at HI2
              obtain ⟨ms2, hms2⟩ : ∃ ms2, ms2 = ms ++ [oMo i (digit d) vv] := ⟨_, rfl⟩
              have hl2 : ms2.length = ms.length + 1 := by rw [hms2, List.length_append, List.length_singleton]
              rw [← hms2] at HI2 HWD
              rw [← hl2] at HWD hw1l
              have hms5 : ms2.length ≤ 4 * i + 1 := by omega
              have hms6 : 1 ≤ ms2.length := by omega
              clear hwt HWC hms2 hl2 HINV HW1E HLA hms1 hms4 hwl
              have wq2 : IntKind.i64.wrap ((i : Int) + 1) = ((i + 1 : Nat) : Int) := by rw [IntKind.wrap_i64]; omega
              go_wp2_with fail
              refine (wByte_any _ len (i + 1) _ ((unhide H).below (unhide HWD).below) hlen).mono ?_
              rintro e we ⟨⟨z, rfl, hz⟩, rfl⟩
              clear hz
              by_cases h4 : (z : Int) % 4 = 0
              · skip
                have h4b : ((z : Int) % 4 == 0) = true := by simpa using h4
                clear h4
                obtain ⟨d1, hd1⟩ : ∃ d1 : Nat, (d1 : Int) = (d : Int) + 1 := ⟨d + 1, by omega⟩
                have hd4 : d1 ≤ 3 := by omega
                have wd1 : IntKind.i64.wrap ((d : Int) + 1) = (d1 : Int) := by rw [IntKind.wrap_i64]; omega
                clear hd1
                have HI3 := hide (fun vv => (unhide HI2).inner hms6 (vv := vv) (digit_size d1))
                have HNW : Hid (∀ j u, ([.int .i64 2, .int .i64 0, .int .i64 1, .int .i64 0, .string ⟨#[]⟩, .slice none 0 0] : List Value)[j]? = some u → (we.alloc (.cells #[.int .i64 2, .int .i64 0, .int .i64 1, .int .i64 0, .string ⟨#[]⟩, .slice none 0 0] 30)).cell? ((⟨we.heap.size, 0, none⟩ : Addr).add j) = some u) := hide (World.news_of_block (cs := #[.int .i64 2, .int .i64 0, .int .i64 1, .int .i64 0, .string ⟨#[]⟩, .slice none 0 0]) (t := 30) (fr := (0, 0)) (heap_alloc_new we _))
                have HWN := hide ((unhide HWD).go (below_new we (.cells #[.int .i64 2, .int .i64 0, .int .i64 1, .int .i64 0, .string ⟨#[]⟩, .slice none 0 0] 30)))
                have HRW := hide (unhide HWN).mom.row
                have t1 := (unhide HWD).t1
                have hsz := (unhide HWD).size
                go_upto_region 17 with fail
                refine wp_region_lit ?_
                refine wpList_val rfl (v := ?vp1) (w' := we) ?hyp1 ?rp1
                case hyp1 => (go_simp; with_reducible rfl)
                simp only [Act.put, List.setIfInBounds_toArray, List.set_cons_zero, List.set_cons_succ]
                refine wpList_val rfl (v := ?vp2) (w' := we) ?hyp2 ?rp2
                case hyp2 => (go_simp; with_reducible rfl)
                simp only [Act.put, List.setIfInBounds_toArray, List.set_cons_zero, List.set_cons_succ]
                refine wpList_val rfl (v := ?vp3) (w' := we) ?hyp3 ?rp3
                case hyp3 => (go_simp; with_reducible rfl)
                simp only [Act.put, List.setIfInBounds_toArray, List.set_cons_zero, List.set_cons_succ]
                refine wpList_bs1 rfl _ _ _ rfl _ (by rfl) _ (bs_mom1 2 0 1 0 ⟨#[]⟩ none 0 0 we) ?_
                simp only [Act.put, List.setIfInBounds_toArray, List.set_cons_zero, List.set_cons_succ]
                go_upto_region 18 with (at_builtin; refine wpList_append_lies _ (by rfl) _ _ _ (by rfl) (w1.heap.size + 2) 30 i1 _ 6 72 Try.underlying24 (unhide IM).1 (unhide IM).2.1 (unhide IM).2.2.1 (unhide IM).2.2.2 rfl (by omega) (.slice ta2 (ms2.length) tc2) (ms2.length) (momCells ms2) (by rfl) (unhide HRW) ⟨we.heap.size, 0, none⟩ 1 1 [.int .i64 2, .int .i64 0, .int .i64 1, .int .i64 0, .string ⟨#[]⟩, .slice none 0 0] (by rfl) (by rfl) (unhide HNW) (by simp [Value.oneCell']) (by omega) (by unfold maxLen; omega) (by omega) (by simp; omega) (we.heap.size + 1) (by simp) ?_; intro g2 cp2 w7 hown hgrow _ _; obtain ⟨hq, hwt⟩ := (unhide HWN).putM (news := [cMo]) hgrow (by rw [momCells_app, List.length_append]; exact hown) (fun x hx => by rw [List.mem_singleton.1 hx]; exact ⟨ownV_nil _ _, Nat.zero_le _, Nat.zero_le _⟩); have HW7 := hide hwt; have c7 : w7.cell? ⟨w1.heap.size + 1, 1, none⟩ = some (.slice ta2 (ms2.length) tc2) := (by rw [cell_of_row w7 _ 1 _ _ _ hq]; rfl); have z7 : w7.frozen? ⟨w1.heap.size + 1, 1, none⟩ = false := frozen_of_row _ _ _ _ _ hq; clear hown hgrow hq hwt)
                clear HWD HWN HRW HNW t1 hsz c7 z7
                generalize w7.setCell _ _ = W17 at HW7 ⊢
                generalize (some (⟨g2, 0, none⟩ : Addr)) = ta4 at HW7 ⊢
                generalize cp2 = tc4 at HW7 ⊢
                have hx0 := (unhide HW7).t1
                have HNI : Hid (∀ j u, ([.int .i64 (((ms2.length + 1) : Nat) : Int)] : List Value)[j]? = some u → (W17.alloc (.cells #[.int .i64 (((ms2.length + 1) : Nat) : Int)] 3)).cell? ((⟨W17.heap.size, 0, none⟩ : Addr).add j) = some u) := hide (World.news_of_block (cs := #[.int .i64 (((ms2.length + 1) : Nat) : Int)]) (t := 3) (fr := (0, 0)) (heap_alloc_new W17 _))
                have HWN := hide ((unhide HW7).go (below_new W17 (.cells #[.int .i64 (((ms2.length + 1) : Nat) : Int)] 3)))
                have HRI := hide (unhide HWN).wan
                have t1 := (unhide HW7).t1
                have hsz := (unhide HW7).size
                go_upto_region 19 with (at_builtin; refine wpList_append_lies _ (by rfl) _ _ _ (by rfl) (w1.heap.size + 2) 3 i0 _ 1 8 Try.underlying54 (unhide II).1 (unhide II).2.1 (unhide II).2.2.1 (unhide II).2.2.2 rfl (by omega) (.slice wa1 want1.length wc1) want1.length (want1.map fun (x : Nat) => Value.int .i64 (x : Int)) (by rfl) (unhide HRI) ⟨W17.heap.size, 0, none⟩ 1 1 [.int .i64 (((ms2.length + 1) : Nat) : Int)] (by rfl) (by rfl) (unhide HNI) (by intro u hu; rw [List.mem_singleton.1 hu]; rfl) (by omega) (by unfold maxLen; omega) (by omega) (by simp; omega) (W17.heap.size + 1) (by simp) ?_; intro g3 cp3 w8 hown hgrow _ _; have hwt := (unhide HWN).putW (k := (ms2.length + 1)) (wv' := .slice (some ⟨g3, 0, none⟩) (want1.length + 1) cp3) hgrow (by unfold IntsOwn; rw [List.map_append, List.length_append]; exact hown); have HWE := hide hwt; clear hown hgrow hwt)
                clear HW7 HWN HRI HNI t1 hsz hx0
                obtain ⟨ms3, hms3⟩ : ∃ ms3, ms3 = ms2 ++ [cMo] := ⟨_, rfl⟩
                have hl3 : ms3.length = ms2.length + 1 := by rw [hms3]; simp
                rw [← hms3] at HWE HI3
                rw [← hl3] at HWE HI3 ⊢
                have HL3 := hide hl3
                have hl4 : ms3.length ≤ 300 := by omega
                clear hms3 hl3
                as_aux_lemma =>
                  refine wp_region_held_drew (S := fun _ => True) (by kernel_rfl) trivial (fun hHeld => ?_)
                  have HW0 := hide ((unhide HWE).go ((Below.refl _ _).drew))
                  refine takeAt 0 (some 74) (v := ?v0q4) (by decide) rfl (by kernel_rfl) (by kernel_rfl) (by kernel_rfl) (fun _ _ _ h => h) (by rfl) ?hy0q4 trivial ?r0q4
                  case hy0q4 => (intro wx hSw; go_simp; with_reducible rfl)
                  simp only [Act.put, List.setIfInBounds_toArray, List.set_cons_zero, List.set_cons_succ]
                  refine takeAt 2 (some 76) (v := ?v2q5) (by decide) rfl (by kernel_rfl) (by kernel_rfl) (by kernel_rfl) (fun _ _ _ h => h) (by rfl) ?hy2q5 trivial ?r2q5
                  case hy2q5 => (intro wx hSw; go_simp; with_reducible rfl)
                  simp only [Act.put, List.setIfInBounds_toArray, List.set_cons_zero, List.set_cons_succ]
                  refine takeAt 3 (some 77) (v := ?v3q6) (by decide) rfl (by kernel_rfl) (by kernel_rfl) (by kernel_rfl) (fun _ _ _ h => h) (by rfl) ?hy3q6 trivial ?r3q6
                  case hy3q6 => (intro wx hSw; go_simp; with_reducible rfl)
                  simp only [Act.put, List.setIfInBounds_toArray, List.set_cons_zero, List.set_cons_succ]
                  refine takeAt 4 (some 78) (v := ?v4q7) (by decide) rfl (by kernel_rfl) (by kernel_rfl) (by kernel_rfl) (fun _ _ _ h => h) (by rfl) ?hy4q7 trivial ?r4q7
                  case hy4q7 => (intro wx hSw; go_simp; with_reducible rfl)
                  simp only [Act.put, List.setIfInBounds_toArray, List.set_cons_zero, List.set_cons_succ]
                  refine takeAt 9 (some 83) (v := ?v9q8) (by decide) rfl (by kernel_rfl) (by kernel_rfl) (by kernel_rfl) (fun _ _ _ h => h) (by rfl) ?hy9q8 trivial ?r9q8
                  case hy9q8 => (intro wx hSw; go_simp; with_reducible rfl)
                  simp only [Act.put, List.setIfInBounds_toArray, List.set_cons_zero, List.set_cons_succ]
                  refine wpAnyH_ready (rs := [1, 5]) (by kernel_rfl) (by simp) ?_
                  refine AllReadyH.cons rfl (fun K hK => ?_) (AllReadyH.cons rfl (fun K hK => ?_) AllReadyH.nil)
                  · have t1 := (unhide HW0).t1
                    go_simp
                    refine hK.out _ _ trivial (fun hHeld => ?_)
                    clear hK K t1
                    try simp only [Act.put, List.setIfInBounds_toArray, List.getElem_toArray, List.getElem_cons_succ, List.getElem_cons_zero, List.set_cons_zero, List.set_cons_succ]
                    refine wpAnyH_ready (rs := [5]) (by kernel_rfl) (by simp) ?_
                    refine AllReadyH.cons rfl (fun K hK => ?_) AllReadyH.nil
                    go_simp
                    refine (wDigit_any d1 _ (by omega)).mono ?_
                    rintro e wa ⟨rfl, hba⟩
                    have HW1 := hide ((unhide HW0).go hba)
                    clear hba
                    refine hK.out _ _ trivial (fun hHeld => ?_)
                    clear hK K
                    try simp only [Act.put, List.setIfInBounds_toArray, List.getElem_toArray, List.getElem_cons_succ, List.getElem_cons_zero, List.set_cons_zero, List.set_cons_succ]
                    refine takeAt 6 (some 80) (v := ?v6q9) (by decide) rfl (by kernel_rfl) (by kernel_rfl) (by kernel_rfl) (fun _ _ _ h => h) (by rfl) ?hy6q9 trivial ?r6q9
                    case hy6q9 => (intro wx hSw; go_simp; with_reducible rfl)
                    simp only [Act.put, List.setIfInBounds_toArray, List.set_cons_zero, List.set_cons_succ]
                    refine wpAnyH_ready (rs := [7]) (by kernel_rfl) (by simp) ?_
                    refine AllReadyH.cons rfl (fun K hK => ?_) AllReadyH.nil
                    have hr := bs_var2 ⟨#[121]⟩ ⟨#[113]⟩ ⟨#[120]⟩ (digit d1) wa
                    refine step_bs2 rfl _ _ _ _ rfl _ _ (by rfl) (by rfl) _ hr ?_
                    clear hr
                    have HW2 := hide ((unhide HW1).go (below_new wa (.cells #[.string ⟨#[121]⟩, .string ⟨#[113]⟩, .string ⟨#[120]⟩, .string (digit d1)] 64)))
                    refine hK.out _ _ trivial (fun hHeld => ?_)
                    clear hK K
                    try simp only [Act.put, List.setIfInBounds_toArray, List.getElem_toArray, List.getElem_cons_succ, List.getElem_cons_zero, List.set_cons_zero, List.set_cons_succ]
                    refine takeAt 8 (some 82) (v := ?v8q10) (by decide) rfl (by kernel_rfl) (by kernel_rfl) (by kernel_rfl) (fun _ _ _ h => h) (by rfl) ?hy8q10 trivial ?r8q10
                    case hy8q10 => (intro wx hSw; go_simp; with_reducible rfl)
                    simp only [Act.put, List.setIfInBounds_toArray, List.set_cons_zero, List.set_cons_succ]
                    refine wpAnyH_ready (rs := [10]) (by kernel_rfl) (by simp) ?_
                    refine AllReadyH.cons rfl (fun K hK => ?_) AllReadyH.nil
                    have hr := bs_mom2 1 0 1 7 ⟨#[]⟩ (some ⟨wa.heap.size, 0, none⟩) 2 2 3 0 1 0 ⟨#[]⟩ none 0 0 (wa.alloc (.cells #[.string ⟨#[121]⟩, .string ⟨#[113]⟩, .string ⟨#[120]⟩, .string (digit d1)] 64))
                    rw [World.size_alloc] at hr
                    refine step_bs2 rfl _ _ _ _ rfl _ _ (by rfl) (by rfl) _ hr ?_
                    clear hr
                    have HW3 := hide ((unhide HW2).go (below_new (wa.alloc (.cells #[.string ⟨#[121]⟩, .string ⟨#[113]⟩, .string ⟨#[120]⟩, .string (digit d1)] 64)) (.cells #[.int .i64 1, .int .i64 0, .int .i64 1, .int .i64 7, .string ⟨#[]⟩, .slice (some ⟨wa.heap.size, 0, none⟩) 2 2, .int .i64 3, .int .i64 0, .int .i64 1, .int .i64 0, .string ⟨#[]⟩, .slice none 0 0] 30)))
                    refine hK.out _ _ trivial (fun hHeld => ?_)
                    clear hK K
                    try simp only [Act.put, List.setIfInBounds_toArray, List.getElem_toArray, List.getElem_cons_succ, List.getElem_cons_zero, List.set_cons_zero, List.set_cons_succ]
                    have hvb : ((wa.alloc (.cells #[.string ⟨#[121]⟩, .string ⟨#[113]⟩, .string ⟨#[120]⟩, .string (digit d1)] 64)).alloc (.cells #[.int .i64 1, .int .i64 0, .int .i64 1, .int .i64 7, .string ⟨#[]⟩, .slice (some ⟨wa.heap.size, 0, none⟩) 2 2, .int .i64 3, .int .i64 0, .int .i64 1, .int .i64 0, .string ⟨#[]⟩, .slice none 0 0] 30)).heap[wa.heap.size]? = some (.cells #[.string ⟨#[121]⟩, .string ⟨#[113]⟩, .string ⟨#[120]⟩, .string (digit d1)] 64 (0, 0)) := by
                      rw [Below.heap_alloc _ _ _ (by simp)]
                      exact heap_alloc_new wa _
                    have hmb : ((wa.alloc (.cells #[.string ⟨#[121]⟩, .string ⟨#[113]⟩, .string ⟨#[120]⟩, .string (digit d1)] 64)).alloc (.cells #[.int .i64 1, .int .i64 0, .int .i64 1, .int .i64 7, .string ⟨#[]⟩, .slice (some ⟨wa.heap.size, 0, none⟩) 2 2, .int .i64 3, .int .i64 0, .int .i64 1, .int .i64 0, .string ⟨#[]⟩, .slice none 0 0] 30)).heap[wa.heap.size + 1]? = some (.cells #[.int .i64 1, .int .i64 0, .int .i64 1, .int .i64 7, .string ⟨#[]⟩, .slice (some ⟨wa.heap.size, 0, none⟩) 2 2, .int .i64 3, .int .i64 0, .int .i64 1, .int .i64 0, .string ⟨#[]⟩, .slice none 0 0] 30 (0, 0)) := by
                      have := heap_alloc_new (wa.alloc (.cells #[.string ⟨#[121]⟩, .string ⟨#[113]⟩, .string ⟨#[120]⟩, .string (digit d1)] 64)) (.cells #[.int .i64 1, .int .i64 0, .int .i64 1, .int .i64 7, .string ⟨#[]⟩, .slice (some ⟨wa.heap.size, 0, none⟩) 2 2, .int .i64 3, .int .i64 0, .int .i64 1, .int .i64 0, .string ⟨#[]⟩, .slice none 0 0] 30)
                      rw [World.size_alloc] at this
                      exact this
                    have hBs : w1.heap.size + 2 ≤ wa.heap.size := (unhide HW1).size
                    refine wpAnyH_ready (rs := [11]) (by kernel_rfl) (by simp) ?_
                    refine AllReadyH.cons rfl (fun K hK => ?_) AllReadyH.nil
                    refine step_append_lies _ (by rfl) _ _ _ (by rfl) (w1.heap.size + 2) 30 i1 _ 6 72 Try.underlying24 (unhide IM).1 (unhide IM).2.1 (unhide IM).2.2.1 (unhide IM).2.2.2 rfl (by omega) (.slice ta4 ms3.length tc4) ms3.length (momCells ms3) (by rfl) (unhide HW3).mom.row
                      ⟨wa.heap.size + 1, 0, none⟩ 2 2 [.int .i64 1, .int .i64 0, .int .i64 1, .int .i64 7, .string ⟨#[]⟩, .slice (some ⟨wa.heap.size, 0, none⟩) 2 2, .int .i64 3, .int .i64 0, .int .i64 1, .int .i64 0, .string ⟨#[]⟩, .slice none 0 0] (by rfl) (by rfl) (World.news_of_block (cs := #[.int .i64 1, .int .i64 0, .int .i64 1, .int .i64 7, .string ⟨#[]⟩, .slice (some ⟨wa.heap.size, 0, none⟩) 2 2, .int .i64 3, .int .i64 0, .int .i64 1, .int .i64 0, .string ⟨#[]⟩, .slice none 0 0]) (t := 30) (fr := (0, 0)) hmb) (by simp [Value.oneCell'])
                      (by omega) (by unfold maxLen; omega) (by omega) (by simp; omega) (wa.heap.size + 1 + 1) (by simp) ?_
                    intro g2 cp2 w7 hown hgrow _ _
                    obtain ⟨hq, hwt⟩ := (unhide HW3).putM (news := [nMo (digit d1) (.slice (some ⟨wa.heap.size, 0, none⟩) 2 2), bMo]) hgrow (by rw [momCells_app, List.length_append]; exact hown) (fun x hx => by rcases List.mem_cons.1 hx with e | hx <;> first | (rw [e]; exact ⟨ownV_two hvb hBs rfl rfl rfl (digit_size d1), by show 2 ≤ 3; omega, Nat.zero_le _⟩) | (rw [List.mem_singleton.1 hx]; exact ⟨ownV_nil _ _, Nat.zero_le _, Nat.zero_le _⟩))
                    have HW7 := hide hwt
                    have c7 : w7.cell? ⟨w1.heap.size + 1, 1, none⟩ = some (.slice ta4 ms3.length tc4) := by rw [cell_of_row w7 _ 1 _ _ _ hq]; rfl
                    have z7 : w7.frozen? ⟨w1.heap.size + 1, 1, none⟩ = false := frozen_of_row _ _ _ _ _ hq
                    clear hown hgrow hq hwt
                    refine hK.out _ _ trivial (fun hHeld => ?_)
                    clear hK K
                    try simp only [Act.put, List.setIfInBounds_toArray, List.getElem_toArray, List.getElem_cons_succ, List.getElem_cons_zero, List.set_cons_zero, List.set_cons_succ]
                    refine takeAt 12 (some 86) (v := ?v12q11) (by decide) rfl (by kernel_rfl) (by kernel_rfl) (by kernel_rfl) (fun _ _ _ h => h) (by rfl) ?hy12q11 trivial ?r12q11
                    case hy12q11 => (intro wx hSw; go_simp; with_reducible rfl)
                    simp only [Act.put, List.setIfInBounds_toArray, List.set_cons_zero, List.set_cons_succ]
                    refine wpAnyH_ready (rs := [13]) (by kernel_rfl) (by simp) ?_
                    refine AllReadyH.cons rfl (fun K hK => ?_) AllReadyH.nil
                    go_simp
                    refine hK.out _ _ trivial (fun hHeld => ?_)
                    clear hK K
                    refine wpAnyH_done (by kernel_rfl) ?_ _
                    go_wp2_with fail
                    go_roundg (n - i)
                    case measure => omega
                    case rel =>
                      have hl3 := unhide HL3
                      have hlA : ((ms3 ++ [nMo (digit d1) (.slice (some ⟨wa.heap.size, 0, none⟩) 2 2)]) ++ [bMo]).length = ms3.length + 2 := by simp
                      have heA : ms3 ++ [nMo (digit d1) (.slice (some ⟨wa.heap.size, 0, none⟩) 2 2), bMo] = (ms3 ++ [nMo (digit d1) (.slice (some ⟨wa.heap.size, 0, none⟩) 2 2)]) ++ [bMo] := by simp
                      have hwA : (want1 ++ [ms3.length]).length = want1.length + 1 := by simp
                      rw [heA] at HW7
                      refine ⟨i + 1, (ms3 ++ [nMo (digit d1) (.slice (some ⟨wa.heap.size, 0, none⟩) 2 2)]) ++ [bMo], want1 ++ [ms3.length], some ⟨g2, 0, none⟩, cp2, _, _, _, _, _, by omega, by omega, by rw [hwA], rfl, by go_num, .inr ⟨d, hd3, rfl, rfl⟩, unhide HI3 _, by rw [hlA]; omega, by rw [hlA]; omega, by rw [hlA, hwA]; omega, ?_⟩
                      rw [hlA, hwA]
                      exact unhide HW7
                  · go_simp
                    refine (wDigit_any d1 _ (by omega)).mono ?_
                    rintro e wa ⟨rfl, hba⟩
                    have HW1 := hide ((unhide HW0).go hba)
                    clear hba
                    refine hK.out _ _ trivial (fun hHeld => ?_)
                    clear hK K
                    try simp only [Act.put, List.setIfInBounds_toArray, List.getElem_toArray, List.getElem_cons_succ, List.getElem_cons_zero, List.set_cons_zero, List.set_cons_succ]
                    refine takeAt 6 (some 80) (v := ?v6q12) (by decide) rfl (by kernel_rfl) (by kernel_rfl) (by kernel_rfl) (fun _ _ _ h => h) (by rfl) ?hy6q12 trivial ?r6q12
                    case hy6q12 => (intro wx hSw; go_simp; with_reducible rfl)
                    simp only [Act.put, List.setIfInBounds_toArray, List.set_cons_zero, List.set_cons_succ]
                    refine wpAnyH_ready (rs := [1, 7]) (by kernel_rfl) (by simp) ?_
                    refine AllReadyH.cons rfl (fun K hK => ?_) (AllReadyH.cons rfl (fun K hK => ?_) AllReadyH.nil)
                    · have t1 := (unhide HW1).t1
                      go_simp
                      refine hK.out _ _ trivial (fun hHeld => ?_)
                      clear hK K t1
                      try simp only [Act.put, List.setIfInBounds_toArray, List.getElem_toArray, List.getElem_cons_succ, List.getElem_cons_zero, List.set_cons_zero, List.set_cons_succ]
                      refine wpAnyH_ready (rs := [7]) (by kernel_rfl) (by simp) ?_
                      refine AllReadyH.cons rfl (fun K hK => ?_) AllReadyH.nil
                      have hr := bs_var2 ⟨#[121]⟩ ⟨#[113]⟩ ⟨#[120]⟩ (digit d1) wa
                      refine step_bs2 rfl _ _ _ _ rfl _ _ (by rfl) (by rfl) _ hr ?_
                      clear hr
                      have HW2 := hide ((unhide HW1).go (below_new wa (.cells #[.string ⟨#[121]⟩, .string ⟨#[113]⟩, .string ⟨#[120]⟩, .string (digit d1)] 64)))
                      refine hK.out _ _ trivial (fun hHeld => ?_)
                      clear hK K
                      try simp only [Act.put, List.setIfInBounds_toArray, List.getElem_toArray, List.getElem_cons_succ, List.getElem_cons_zero, List.set_cons_zero, List.set_cons_succ]
                      refine takeAt 8 (some 82) (v := ?v8q13) (by decide) rfl (by kernel_rfl) (by kernel_rfl) (by kernel_rfl) (fun _ _ _ h => h) (by rfl) ?hy8q13 trivial ?r8q13
                      case hy8q13 => (intro wx hSw; go_simp; with_reducible rfl)
                      simp only [Act.put, List.setIfInBounds_toArray, List.set_cons_zero, List.set_cons_succ]
                      refine wpAnyH_ready (rs := [10]) (by kernel_rfl) (by simp) ?_
                      refine AllReadyH.cons rfl (fun K hK => ?_) AllReadyH.nil
                      have hr := bs_mom2 1 0 1 7 ⟨#[]⟩ (some ⟨wa.heap.size, 0, none⟩) 2 2 3 0 1 0 ⟨#[]⟩ none 0 0 (wa.alloc (.cells #[.string ⟨#[121]⟩, .string ⟨#[113]⟩, .string ⟨#[120]⟩, .string (digit d1)] 64))
                      rw [World.size_alloc] at hr
                      refine step_bs2 rfl _ _ _ _ rfl _ _ (by rfl) (by rfl) _ hr ?_
                      clear hr
                      have HW3 := hide ((unhide HW2).go (below_new (wa.alloc (.cells #[.string ⟨#[121]⟩, .string ⟨#[113]⟩, .string ⟨#[120]⟩, .string (digit d1)] 64)) (.cells #[.int .i64 1, .int .i64 0, .int .i64 1, .int .i64 7, .string ⟨#[]⟩, .slice (some ⟨wa.heap.size, 0, none⟩) 2 2, .int .i64 3, .int .i64 0, .int .i64 1, .int .i64 0, .string ⟨#[]⟩, .slice none 0 0] 30)))
                      refine hK.out _ _ trivial (fun hHeld => ?_)
                      clear hK K
                      try simp only [Act.put, List.setIfInBounds_toArray, List.getElem_toArray, List.getElem_cons_succ, List.getElem_cons_zero, List.set_cons_zero, List.set_cons_succ]
                      have hvb : ((wa.alloc (.cells #[.string ⟨#[121]⟩, .string ⟨#[113]⟩, .string ⟨#[120]⟩, .string (digit d1)] 64)).alloc (.cells #[.int .i64 1, .int .i64 0, .int .i64 1, .int .i64 7, .string ⟨#[]⟩, .slice (some ⟨wa.heap.size, 0, none⟩) 2 2, .int .i64 3, .int .i64 0, .int .i64 1, .int .i64 0, .string ⟨#[]⟩, .slice none 0 0] 30)).heap[wa.heap.size]? = some (.cells #[.string ⟨#[121]⟩, .string ⟨#[113]⟩, .string ⟨#[120]⟩, .string (digit d1)] 64 (0, 0)) := by
                        rw [Below.heap_alloc _ _ _ (by simp)]
                        exact heap_alloc_new wa _
                      have hmb : ((wa.alloc (.cells #[.string ⟨#[121]⟩, .string ⟨#[113]⟩, .string ⟨#[120]⟩, .string (digit d1)] 64)).alloc (.cells #[.int .i64 1, .int .i64 0, .int .i64 1, .int .i64 7, .string ⟨#[]⟩, .slice (some ⟨wa.heap.size, 0, none⟩) 2 2, .int .i64 3, .int .i64 0, .int .i64 1, .int .i64 0, .string ⟨#[]⟩, .slice none 0 0] 30)).heap[wa.heap.size + 1]? = some (.cells #[.int .i64 1, .int .i64 0, .int .i64 1, .int .i64 7, .string ⟨#[]⟩, .slice (some ⟨wa.heap.size, 0, none⟩) 2 2, .int .i64 3, .int .i64 0, .int .i64 1, .int .i64 0, .string ⟨#[]⟩, .slice none 0 0] 30 (0, 0)) := by
                        have := heap_alloc_new (wa.alloc (.cells #[.string ⟨#[121]⟩, .string ⟨#[113]⟩, .string ⟨#[120]⟩, .string (digit d1)] 64)) (.cells #[.int .i64 1, .int .i64 0, .int .i64 1, .int .i64 7, .string ⟨#[]⟩, .slice (some ⟨wa.heap.size, 0, none⟩) 2 2, .int .i64 3, .int .i64 0, .int .i64 1, .int .i64 0, .string ⟨#[]⟩, .slice none 0 0] 30)
                        rw [World.size_alloc] at this
                        exact this
                      have hBs : w1.heap.size + 2 ≤ wa.heap.size := (unhide HW1).size
                      refine wpAnyH_ready (rs := [11]) (by kernel_rfl) (by simp) ?_
                      refine AllReadyH.cons rfl (fun K hK => ?_) AllReadyH.nil
                      refine step_append_lies _ (by rfl) _ _ _ (by rfl) (w1.heap.size + 2) 30 i1 _ 6 72 Try.underlying24 (unhide IM).1 (unhide IM).2.1 (unhide IM).2.2.1 (unhide IM).2.2.2 rfl (by omega) (.slice ta4 ms3.length tc4) ms3.length (momCells ms3) (by rfl) (unhide HW3).mom.row
                        ⟨wa.heap.size + 1, 0, none⟩ 2 2 [.int .i64 1, .int .i64 0, .int .i64 1, .int .i64 7, .string ⟨#[]⟩, .slice (some ⟨wa.heap.size, 0, none⟩) 2 2, .int .i64 3, .int .i64 0, .int .i64 1, .int .i64 0, .string ⟨#[]⟩, .slice none 0 0] (by rfl) (by rfl) (World.news_of_block (cs := #[.int .i64 1, .int .i64 0, .int .i64 1, .int .i64 7, .string ⟨#[]⟩, .slice (some ⟨wa.heap.size, 0, none⟩) 2 2, .int .i64 3, .int .i64 0, .int .i64 1, .int .i64 0, .string ⟨#[]⟩, .slice none 0 0]) (t := 30) (fr := (0, 0)) hmb) (by simp [Value.oneCell'])
                        (by omega) (by unfold maxLen; omega) (by omega) (by simp; omega) (wa.heap.size + 1 + 1) (by simp) ?_
                      intro g2 cp2 w7 hown hgrow _ _
                      obtain ⟨hq, hwt⟩ := (unhide HW3).putM (news := [nMo (digit d1) (.slice (some ⟨wa.heap.size, 0, none⟩) 2 2), bMo]) hgrow (by rw [momCells_app, List.length_append]; exact hown) (fun x hx => by rcases List.mem_cons.1 hx with e | hx <;> first | (rw [e]; exact ⟨ownV_two hvb hBs rfl rfl rfl (digit_size d1), by show 2 ≤ 3; omega, Nat.zero_le _⟩) | (rw [List.mem_singleton.1 hx]; exact ⟨ownV_nil _ _, Nat.zero_le _, Nat.zero_le _⟩))
                      have HW7 := hide hwt
                      have c7 : w7.cell? ⟨w1.heap.size + 1, 1, none⟩ = some (.slice ta4 ms3.length tc4) := by rw [cell_of_row w7 _ 1 _ _ _ hq]; rfl
                      have z7 : w7.frozen? ⟨w1.heap.size + 1, 1, none⟩ = false := frozen_of_row _ _ _ _ _ hq
                      clear hown hgrow hq hwt
                      refine hK.out _ _ trivial (fun hHeld => ?_)
                      clear hK K
                      try simp only [Act.put, List.setIfInBounds_toArray, List.getElem_toArray, List.getElem_cons_succ, List.getElem_cons_zero, List.set_cons_zero, List.set_cons_succ]
                      refine takeAt 12 (some 86) (v := ?v12q14) (by decide) rfl (by kernel_rfl) (by kernel_rfl) (by kernel_rfl) (fun _ _ _ h => h) (by rfl) ?hy12q14 trivial ?r12q14
                      case hy12q14 => (intro wx hSw; go_simp; with_reducible rfl)
                      simp only [Act.put, List.setIfInBounds_toArray, List.set_cons_zero, List.set_cons_succ]
                      refine wpAnyH_ready (rs := [13]) (by kernel_rfl) (by simp) ?_
                      refine AllReadyH.cons rfl (fun K hK => ?_) AllReadyH.nil
                      go_simp
                      refine hK.out _ _ trivial (fun hHeld => ?_)
                      clear hK K
                      refine wpAnyH_done (by kernel_rfl) ?_ _
                      go_wp2_with fail
                      go_roundg (n - i)
                      case measure => omega
                      case rel =>
                        have hl3 := unhide HL3
                        have hlA : ((ms3 ++ [nMo (digit d1) (.slice (some ⟨wa.heap.size, 0, none⟩) 2 2)]) ++ [bMo]).length = ms3.length + 2 := by simp
                        have heA : ms3 ++ [nMo (digit d1) (.slice (some ⟨wa.heap.size, 0, none⟩) 2 2), bMo] = (ms3 ++ [nMo (digit d1) (.slice (some ⟨wa.heap.size, 0, none⟩) 2 2)]) ++ [bMo] := by simp
                        have hwA : (want1 ++ [ms3.length]).length = want1.length + 1 := by simp
                        rw [heA] at HW7
                        refine ⟨i + 1, (ms3 ++ [nMo (digit d1) (.slice (some ⟨wa.heap.size, 0, none⟩) 2 2)]) ++ [bMo], want1 ++ [ms3.length], some ⟨g2, 0, none⟩, cp2, _, _, _, _, _, by omega, by omega, by rw [hwA], rfl, by go_num, .inr ⟨d, hd3, rfl, rfl⟩, unhide HI3 _, by rw [hlA]; omega, by rw [hlA]; omega, by rw [hlA, hwA]; omega, ?_⟩
                        rw [hlA, hwA]
                        exact unhide HW7
                    · have hr := bs_var2 ⟨#[121]⟩ ⟨#[113]⟩ ⟨#[120]⟩ (digit d1) wa
                      refine step_bs2 rfl _ _ _ _ rfl _ _ (by rfl) (by rfl) _ hr ?_
                      clear hr
                      have HW2 := hide ((unhide HW1).go (below_new wa (.cells #[.string ⟨#[121]⟩, .string ⟨#[113]⟩, .string ⟨#[120]⟩, .string (digit d1)] 64)))
                      refine hK.out _ _ trivial (fun hHeld => ?_)
                      clear hK K
                      try simp only [Act.put, List.setIfInBounds_toArray, List.getElem_toArray, List.getElem_cons_succ, List.getElem_cons_zero, List.set_cons_zero, List.set_cons_succ]
                      refine takeAt 8 (some 82) (v := ?v8q15) (by decide) rfl (by kernel_rfl) (by kernel_rfl) (by kernel_rfl) (fun _ _ _ h => h) (by rfl) ?hy8q15 trivial ?r8q15
                      case hy8q15 => (intro wx hSw; go_simp; with_reducible rfl)
                      simp only [Act.put, List.setIfInBounds_toArray, List.set_cons_zero, List.set_cons_succ]
                      refine wpAnyH_ready (rs := [1, 10]) (by kernel_rfl) (by simp) ?_
                      refine AllReadyH.cons rfl (fun K hK => ?_) (AllReadyH.cons rfl (fun K hK => ?_) AllReadyH.nil)
                      · have t1 := (unhide HW2).t1
                        go_simp
                        refine hK.out _ _ trivial (fun hHeld => ?_)
                        clear hK K t1
                        try simp only [Act.put, List.setIfInBounds_toArray, List.getElem_toArray, List.getElem_cons_succ, List.getElem_cons_zero, List.set_cons_zero, List.set_cons_succ]
                        refine wpAnyH_ready (rs := [10]) (by kernel_rfl) (by simp) ?_
                        refine AllReadyH.cons rfl (fun K hK => ?_) AllReadyH.nil
                        have hr := bs_mom2 1 0 1 7 ⟨#[]⟩ (some ⟨wa.heap.size, 0, none⟩) 2 2 3 0 1 0 ⟨#[]⟩ none 0 0 (wa.alloc (.cells #[.string ⟨#[121]⟩, .string ⟨#[113]⟩, .string ⟨#[120]⟩, .string (digit d1)] 64))
                        rw [World.size_alloc] at hr
                        refine step_bs2 rfl _ _ _ _ rfl _ _ (by rfl) (by rfl) _ hr ?_
                        clear hr
                        have HW3 := hide ((unhide HW2).go (below_new (wa.alloc (.cells #[.string ⟨#[121]⟩, .string ⟨#[113]⟩, .string ⟨#[120]⟩, .string (digit d1)] 64)) (.cells #[.int .i64 1, .int .i64 0, .int .i64 1, .int .i64 7, .string ⟨#[]⟩, .slice (some ⟨wa.heap.size, 0, none⟩) 2 2, .int .i64 3, .int .i64 0, .int .i64 1, .int .i64 0, .string ⟨#[]⟩, .slice none 0 0] 30)))
                        refine hK.out _ _ trivial (fun hHeld => ?_)
                        clear hK K
                        try simp only [Act.put, List.setIfInBounds_toArray, List.getElem_toArray, List.getElem_cons_succ, List.getElem_cons_zero, List.set_cons_zero, List.set_cons_succ]
                        have hvb : ((wa.alloc (.cells #[.string ⟨#[121]⟩, .string ⟨#[113]⟩, .string ⟨#[120]⟩, .string (digit d1)] 64)).alloc (.cells #[.int .i64 1, .int .i64 0, .int .i64 1, .int .i64 7, .string ⟨#[]⟩, .slice (some ⟨wa.heap.size, 0, none⟩) 2 2, .int .i64 3, .int .i64 0, .int .i64 1, .int .i64 0, .string ⟨#[]⟩, .slice none 0 0] 30)).heap[wa.heap.size]? = some (.cells #[.string ⟨#[121]⟩, .string ⟨#[113]⟩, .string ⟨#[120]⟩, .string (digit d1)] 64 (0, 0)) := by
                          rw [Below.heap_alloc _ _ _ (by simp)]
                          exact heap_alloc_new wa _
                        have hmb : ((wa.alloc (.cells #[.string ⟨#[121]⟩, .string ⟨#[113]⟩, .string ⟨#[120]⟩, .string (digit d1)] 64)).alloc (.cells #[.int .i64 1, .int .i64 0, .int .i64 1, .int .i64 7, .string ⟨#[]⟩, .slice (some ⟨wa.heap.size, 0, none⟩) 2 2, .int .i64 3, .int .i64 0, .int .i64 1, .int .i64 0, .string ⟨#[]⟩, .slice none 0 0] 30)).heap[wa.heap.size + 1]? = some (.cells #[.int .i64 1, .int .i64 0, .int .i64 1, .int .i64 7, .string ⟨#[]⟩, .slice (some ⟨wa.heap.size, 0, none⟩) 2 2, .int .i64 3, .int .i64 0, .int .i64 1, .int .i64 0, .string ⟨#[]⟩, .slice none 0 0] 30 (0, 0)) := by
                          have := heap_alloc_new (wa.alloc (.cells #[.string ⟨#[121]⟩, .string ⟨#[113]⟩, .string ⟨#[120]⟩, .string (digit d1)] 64)) (.cells #[.int .i64 1, .int .i64 0, .int .i64 1, .int .i64 7, .string ⟨#[]⟩, .slice (some ⟨wa.heap.size, 0, none⟩) 2 2, .int .i64 3, .int .i64 0, .int .i64 1, .int .i64 0, .string ⟨#[]⟩, .slice none 0 0] 30)
                          rw [World.size_alloc] at this
                          exact this
                        have hBs : w1.heap.size + 2 ≤ wa.heap.size := (unhide HW1).size
                        refine wpAnyH_ready (rs := [11]) (by kernel_rfl) (by simp) ?_
                        refine AllReadyH.cons rfl (fun K hK => ?_) AllReadyH.nil
                        refine step_append_lies _ (by rfl) _ _ _ (by rfl) (w1.heap.size + 2) 30 i1 _ 6 72 Try.underlying24 (unhide IM).1 (unhide IM).2.1 (unhide IM).2.2.1 (unhide IM).2.2.2 rfl (by omega) (.slice ta4 ms3.length tc4) ms3.length (momCells ms3) (by rfl) (unhide HW3).mom.row
                          ⟨wa.heap.size + 1, 0, none⟩ 2 2 [.int .i64 1, .int .i64 0, .int .i64 1, .int .i64 7, .string ⟨#[]⟩, .slice (some ⟨wa.heap.size, 0, none⟩) 2 2, .int .i64 3, .int .i64 0, .int .i64 1, .int .i64 0, .string ⟨#[]⟩, .slice none 0 0] (by rfl) (by rfl) (World.news_of_block (cs := #[.int .i64 1, .int .i64 0, .int .i64 1, .int .i64 7, .string ⟨#[]⟩, .slice (some ⟨wa.heap.size, 0, none⟩) 2 2, .int .i64 3, .int .i64 0, .int .i64 1, .int .i64 0, .string ⟨#[]⟩, .slice none 0 0]) (t := 30) (fr := (0, 0)) hmb) (by simp [Value.oneCell'])
                          (by omega) (by unfold maxLen; omega) (by omega) (by simp; omega) (wa.heap.size + 1 + 1) (by simp) ?_
                        intro g2 cp2 w7 hown hgrow _ _
                        obtain ⟨hq, hwt⟩ := (unhide HW3).putM (news := [nMo (digit d1) (.slice (some ⟨wa.heap.size, 0, none⟩) 2 2), bMo]) hgrow (by rw [momCells_app, List.length_append]; exact hown) (fun x hx => by rcases List.mem_cons.1 hx with e | hx <;> first | (rw [e]; exact ⟨ownV_two hvb hBs rfl rfl rfl (digit_size d1), by show 2 ≤ 3; omega, Nat.zero_le _⟩) | (rw [List.mem_singleton.1 hx]; exact ⟨ownV_nil _ _, Nat.zero_le _, Nat.zero_le _⟩))
                        have HW7 := hide hwt
                        have c7 : w7.cell? ⟨w1.heap.size + 1, 1, none⟩ = some (.slice ta4 ms3.length tc4) := by rw [cell_of_row w7 _ 1 _ _ _ hq]; rfl
                        have z7 : w7.frozen? ⟨w1.heap.size + 1, 1, none⟩ = false := frozen_of_row _ _ _ _ _ hq
                        clear hown hgrow hq hwt
                        refine hK.out _ _ trivial (fun hHeld => ?_)
                        clear hK K
                        try simp only [Act.put, List.setIfInBounds_toArray, List.getElem_toArray, List.getElem_cons_succ, List.getElem_cons_zero, List.set_cons_zero, List.set_cons_succ]
                        refine takeAt 12 (some 86) (v := ?v12q16) (by decide) rfl (by kernel_rfl) (by kernel_rfl) (by kernel_rfl) (fun _ _ _ h => h) (by rfl) ?hy12q16 trivial ?r12q16
                        case hy12q16 => (intro wx hSw; go_simp; with_reducible rfl)
                        simp only [Act.put, List.setIfInBounds_toArray, List.set_cons_zero, List.set_cons_succ]
                        refine wpAnyH_ready (rs := [13]) (by kernel_rfl) (by simp) ?_
                        refine AllReadyH.cons rfl (fun K hK => ?_) AllReadyH.nil
                        go_simp
                        refine hK.out _ _ trivial (fun hHeld => ?_)
                        clear hK K
                        refine wpAnyH_done (by kernel_rfl) ?_ _
                        go_wp2_with fail
                        go_roundg (n - i)
                        case measure => omega
                        case rel =>
                          have hl3 := unhide HL3
                          have hlA : ((ms3 ++ [nMo (digit d1) (.slice (some ⟨wa.heap.size, 0, none⟩) 2 2)]) ++ [bMo]).length = ms3.length + 2 := by simp
                          have heA : ms3 ++ [nMo (digit d1) (.slice (some ⟨wa.heap.size, 0, none⟩) 2 2), bMo] = (ms3 ++ [nMo (digit d1) (.slice (some ⟨wa.heap.size, 0, none⟩) 2 2)]) ++ [bMo] := by simp
                          have hwA : (want1 ++ [ms3.length]).length = want1.length + 1 := by simp
                          rw [heA] at HW7
                          refine ⟨i + 1, (ms3 ++ [nMo (digit d1) (.slice (some ⟨wa.heap.size, 0, none⟩) 2 2)]) ++ [bMo], want1 ++ [ms3.length], some ⟨g2, 0, none⟩, cp2, _, _, _, _, _, by omega, by omega, by rw [hwA], rfl, by go_num, .inr ⟨d, hd3, rfl, rfl⟩, unhide HI3 _, by rw [hlA]; omega, by rw [hlA]; omega, by rw [hlA, hwA]; omega, ?_⟩
                          rw [hlA, hwA]
                          exact unhide HW7
                      · have hr := bs_mom2 1 0 1 7 ⟨#[]⟩ (some ⟨wa.heap.size, 0, none⟩) 2 2 3 0 1 0 ⟨#[]⟩ none 0 0 (wa.alloc (.cells #[.string ⟨#[121]⟩, .string ⟨#[113]⟩, .string ⟨#[120]⟩, .string (digit d1)] 64))
                        rw [World.size_alloc] at hr
                        refine step_bs2 rfl _ _ _ _ rfl _ _ (by rfl) (by rfl) _ hr ?_
                        clear hr
                        have HW3 := hide ((unhide HW2).go (below_new (wa.alloc (.cells #[.string ⟨#[121]⟩, .string ⟨#[113]⟩, .string ⟨#[120]⟩, .string (digit d1)] 64)) (.cells #[.int .i64 1, .int .i64 0, .int .i64 1, .int .i64 7, .string ⟨#[]⟩, .slice (some ⟨wa.heap.size, 0, none⟩) 2 2, .int .i64 3, .int .i64 0, .int .i64 1, .int .i64 0, .string ⟨#[]⟩, .slice none 0 0] 30)))
                        refine hK.out _ _ trivial (fun hHeld => ?_)
                        clear hK K
                        try simp only [Act.put, List.setIfInBounds_toArray, List.getElem_toArray, List.getElem_cons_succ, List.getElem_cons_zero, List.set_cons_zero, List.set_cons_succ]
                        refine wpAnyH_ready (rs := [1]) (by kernel_rfl) (by simp) ?_
                        refine AllReadyH.cons rfl (fun K hK => ?_) AllReadyH.nil
                        have t1 := (unhide HW3).t1
                        go_simp
                        refine hK.out _ _ trivial (fun hHeld => ?_)
                        clear hK K t1
                        try simp only [Act.put, List.setIfInBounds_toArray, List.getElem_toArray, List.getElem_cons_succ, List.getElem_cons_zero, List.set_cons_zero, List.set_cons_succ]
                        have hvb : ((wa.alloc (.cells #[.string ⟨#[121]⟩, .string ⟨#[113]⟩, .string ⟨#[120]⟩, .string (digit d1)] 64)).alloc (.cells #[.int .i64 1, .int .i64 0, .int .i64 1, .int .i64 7, .string ⟨#[]⟩, .slice (some ⟨wa.heap.size, 0, none⟩) 2 2, .int .i64 3, .int .i64 0, .int .i64 1, .int .i64 0, .string ⟨#[]⟩, .slice none 0 0] 30)).heap[wa.heap.size]? = some (.cells #[.string ⟨#[121]⟩, .string ⟨#[113]⟩, .string ⟨#[120]⟩, .string (digit d1)] 64 (0, 0)) := by
                          rw [Below.heap_alloc _ _ _ (by simp)]
                          exact heap_alloc_new wa _
                        have hmb : ((wa.alloc (.cells #[.string ⟨#[121]⟩, .string ⟨#[113]⟩, .string ⟨#[120]⟩, .string (digit d1)] 64)).alloc (.cells #[.int .i64 1, .int .i64 0, .int .i64 1, .int .i64 7, .string ⟨#[]⟩, .slice (some ⟨wa.heap.size, 0, none⟩) 2 2, .int .i64 3, .int .i64 0, .int .i64 1, .int .i64 0, .string ⟨#[]⟩, .slice none 0 0] 30)).heap[wa.heap.size + 1]? = some (.cells #[.int .i64 1, .int .i64 0, .int .i64 1, .int .i64 7, .string ⟨#[]⟩, .slice (some ⟨wa.heap.size, 0, none⟩) 2 2, .int .i64 3, .int .i64 0, .int .i64 1, .int .i64 0, .string ⟨#[]⟩, .slice none 0 0] 30 (0, 0)) := by
                          have := heap_alloc_new (wa.alloc (.cells #[.string ⟨#[121]⟩, .string ⟨#[113]⟩, .string ⟨#[120]⟩, .string (digit d1)] 64)) (.cells #[.int .i64 1, .int .i64 0, .int .i64 1, .int .i64 7, .string ⟨#[]⟩, .slice (some ⟨wa.heap.size, 0, none⟩) 2 2, .int .i64 3, .int .i64 0, .int .i64 1, .int .i64 0, .string ⟨#[]⟩, .slice none 0 0] 30)
                          rw [World.size_alloc] at this
                          exact this
                        have hBs : w1.heap.size + 2 ≤ wa.heap.size := (unhide HW1).size
                        refine wpAnyH_ready (rs := [11]) (by kernel_rfl) (by simp) ?_
                        refine AllReadyH.cons rfl (fun K hK => ?_) AllReadyH.nil
                        refine step_append_lies _ (by rfl) _ _ _ (by rfl) (w1.heap.size + 2) 30 i1 _ 6 72 Try.underlying24 (unhide IM).1 (unhide IM).2.1 (unhide IM).2.2.1 (unhide IM).2.2.2 rfl (by omega) (.slice ta4 ms3.length tc4) ms3.length (momCells ms3) (by rfl) (unhide HW3).mom.row
                          ⟨wa.heap.size + 1, 0, none⟩ 2 2 [.int .i64 1, .int .i64 0, .int .i64 1, .int .i64 7, .string ⟨#[]⟩, .slice (some ⟨wa.heap.size, 0, none⟩) 2 2, .int .i64 3, .int .i64 0, .int .i64 1, .int .i64 0, .string ⟨#[]⟩, .slice none 0 0] (by rfl) (by rfl) (World.news_of_block (cs := #[.int .i64 1, .int .i64 0, .int .i64 1, .int .i64 7, .string ⟨#[]⟩, .slice (some ⟨wa.heap.size, 0, none⟩) 2 2, .int .i64 3, .int .i64 0, .int .i64 1, .int .i64 0, .string ⟨#[]⟩, .slice none 0 0]) (t := 30) (fr := (0, 0)) hmb) (by simp [Value.oneCell'])
                          (by omega) (by unfold maxLen; omega) (by omega) (by simp; omega) (wa.heap.size + 1 + 1) (by simp) ?_
                        intro g2 cp2 w7 hown hgrow _ _
                        obtain ⟨hq, hwt⟩ := (unhide HW3).putM (news := [nMo (digit d1) (.slice (some ⟨wa.heap.size, 0, none⟩) 2 2), bMo]) hgrow (by rw [momCells_app, List.length_append]; exact hown) (fun x hx => by rcases List.mem_cons.1 hx with e | hx <;> first | (rw [e]; exact ⟨ownV_two hvb hBs rfl rfl rfl (digit_size d1), by show 2 ≤ 3; omega, Nat.zero_le _⟩) | (rw [List.mem_singleton.1 hx]; exact ⟨ownV_nil _ _, Nat.zero_le _, Nat.zero_le _⟩))
                        have HW7 := hide hwt
                        have c7 : w7.cell? ⟨w1.heap.size + 1, 1, none⟩ = some (.slice ta4 ms3.length tc4) := by rw [cell_of_row w7 _ 1 _ _ _ hq]; rfl
                        have z7 : w7.frozen? ⟨w1.heap.size + 1, 1, none⟩ = false := frozen_of_row _ _ _ _ _ hq
                        clear hown hgrow hq hwt
                        refine hK.out _ _ trivial (fun hHeld => ?_)
                        clear hK K
                        try simp only [Act.put, List.setIfInBounds_toArray, List.getElem_toArray, List.getElem_cons_succ, List.getElem_cons_zero, List.set_cons_zero, List.set_cons_succ]
                        refine takeAt 12 (some 86) (v := ?v12q17) (by decide) rfl (by kernel_rfl) (by kernel_rfl) (by kernel_rfl) (fun _ _ _ h => h) (by rfl) ?hy12q17 trivial ?r12q17
                        case hy12q17 => (intro wx hSw; go_simp; with_reducible rfl)
                        simp only [Act.put, List.setIfInBounds_toArray, List.set_cons_zero, List.set_cons_succ]
                        refine wpAnyH_ready (rs := [13]) (by kernel_rfl) (by simp) ?_
                        refine AllReadyH.cons rfl (fun K hK => ?_) AllReadyH.nil
                        go_simp
                        refine hK.out _ _ trivial (fun hHeld => ?_)
                        clear hK K
                        refine wpAnyH_done (by kernel_rfl) ?_ _
                        go_wp2_with fail
                        go_roundg (n - i)
                        case measure => omega
                        case rel =>
                          have hl3 := unhide HL3
                          have hlA : ((ms3 ++ [nMo (digit d1) (.slice (some ⟨wa.heap.size, 0, none⟩) 2 2)]) ++ [bMo]).length = ms3.length + 2 := by simp
                          have heA : ms3 ++ [nMo (digit d1) (.slice (some ⟨wa.heap.size, 0, none⟩) 2 2), bMo] = (ms3 ++ [nMo (digit d1) (.slice (some ⟨wa.heap.size, 0, none⟩) 2 2)]) ++ [bMo] := by simp
                          have hwA : (want1 ++ [ms3.length]).length = want1.length + 1 := by simp
                          rw [heA] at HW7
                          refine ⟨i + 1, (ms3 ++ [nMo (digit d1) (.slice (some ⟨wa.heap.size, 0, none⟩) 2 2)]) ++ [bMo], want1 ++ [ms3.length], some ⟨g2, 0, none⟩, cp2, _, _, _, _, _, by omega, by omega, by rw [hwA], rfl, by go_num, .inr ⟨d, hd3, rfl, rfl⟩, unhide HI3 _, by rw [hlA]; omega, by rw [hlA]; omega, by rw [hlA, hwA]; omega, ?_⟩
                          rw [hlA, hwA]
                          exact unhide HW7
              · have h4b : ((z : Int) % 4 == 0) = false := by simpa using h4
                clear h4
                go_wp2_with fail
                go_roundg (n - i)
                case measure => omega
                case rel => exact ⟨i + 1, ms2, want1, _, _, _, _, _, _, _, by omega, by omega, rfl, rfl, by go_num, .inr ⟨d, hd3, rfl, rfl⟩, unhide HI2, by omega, by omega, by omega, unhide HWD⟩
      · obtain rfl : i = n + 1 := by omega
        clear hlt
        as_aux_lemma =>
          have hin : ¬ ((n + 1 : Nat) : Int) ≤ (n : Int) := by omega
          have HSD := hide ((unhide HINV).sound (by omega))
          have HHT := hide (unhide HINV).hits
          have x0 := (unhide HWT).t0
          have x1 := (unhide HWT).t1
          go_wp2_with fail
          refine (implHits_any 0 _ _ 2 deepFns ms.length (momOf ms) wS _ (unhide HWT).strs ((unhide HWT).moms (by omega)) (by decide) (by omega)).mono ?_
          rintro e w2 ⟨⟨hv, xs, rfl, hown, hxs, ha, hm, hc, rfl⟩, hb2⟩
          obtain rfl : xs = want := by
            rcases hxs with ⟨_, e⟩ | ⟨h, _⟩
            · rw [e, unhide HHT]
            · exact absurd ⟨unhide HSD, wS_is⟩ h
          obtain rfl := hown.len
          have HO := hide hown
          have HW := hide ((unhide HWT).wan.below hb2)
          have HBB := hide ((unhide HWT).below.trans (hb2.mono (unhide HWT).below.size))
          clear hxs hown hb2 HWT x0 x1
          go_wp2_with fail
          go_loopg [97] xs.length (fun gg i W => ∃ q : Nat, q + gg = xs.length ∧ i = .int .i64 q ∧ Below w2.heap.size w2 W)
          case atStart => exact ⟨0, by omega, rfl, Below.refl _ _⟩
          case round =>
            obtain ⟨q, hq, rfl, hbw⟩ := hrel
            have HBW := hide hbw
            clear hbw
            by_cases hql : q < xs.length
            · obtain ⟨g1, rfl, c1⟩ := ((unhide HO).below (unhide HBW)).cell hql
              obtain ⟨g2, rfl, c2⟩ := ((unhide HW).below (unhide HBW)).cell hql
              have hi0 : (0 : Int) ≤ (q : Int) := by omega
              have hi1 : (q : Int) < (xs.length : Int) := by omega
              have wi : IntKind.i64.wrap ((q : Int) + 1) = ((q + 1 : Nat) : Int) := by rw [IntKind.wrap_i64]; omega
              generalize ((xs.getD q 0 : Nat) : Int) = y at c1 c2
              go_upto_region 26 with fail
              go_quiet (fail)
              generalize hW4 : wr.drewN _ = W4
              have HB4 : Hid (Below w2.heap.size w2 W4) := by rw [← hW4]; exact hide ((unhide HBW).trans ((below_drewN' _ _).mono (unhide HBW).size))
              clear hW4 c1 c2 HBW
              go_wp2_with fail
              go_roundg (xs.length - (q + 1))
              case measure => omega
              case rel => exact ⟨q + 1, by omega, by go_num, unhide HB4⟩
            · have hiq : ¬ (q : Int) < (xs.length : Int) := by omega
              go_wp2
              go_ret
              exact ⟨by simp, (unhide HBB).trans ((unhide HBW).mono (unhide HBB).size)⟩
  · have hle2 : decide ((1048576 : Int) < (len : Int)) = true := by simp; omega
    go_enter Try.func7, Try.ntmps7
    go_wp2
    go_ret
    exact ⟨rfl, Below.refl _ _⟩
end Go.Proofs.Ytoiacbdnkkolmaa
