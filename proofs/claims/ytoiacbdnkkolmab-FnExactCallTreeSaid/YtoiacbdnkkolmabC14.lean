import Derived.Test.YtoiacbdnkkolmabC13
import Derived.Deep.LoopGhost
import Derived.Deep.DeepCutAuto
namespace Go.Proofs.Ytoiacbdnkkolmab
open Go.RowKit

theorem after_len (f : Nat → M) : ∀ k t, ((St.after f k).tasks t).length ≤ k + 1
  | 0, t => by
    simp only [St.after, St.init]
    split <;> simp
  | k + 1, t => by
    have ih := after_len f k
    have hput : ∀ l : List Fr, l.length ≤ k + 2 → (((St.after f k).put l).tasks t).length ≤ k + 2 := by
      intro l hl
      simp only [St.put]
      split
      · exact hl
      · have := ih t; omega
    show (((St.after f k).step _ _ _ _ _).tasks t).length ≤ k + 2
    have hc := ih (St.after f k).cur
    unfold St.step
    split
    · have := ih t
      show ((St.after f k).tasks t).length ≤ _
      omega
    · split
      · exact hput _ (by simp; omega)
      · split
        · refine hput _ ?_
          cases h : (St.after f k).tasks (St.after f k).cur with
          | nil => simp [setLine]
          | cons a r => rw [h] at hc; simp [setLine] at hc ⊢; omega
        · split
          · exact hput _ (by simp; omega)
          · have := ih t; omega

theorem brMake_small {T : Tree} {k : Nat} (h : TreeOk T k) (par fn : Int) : ∀ b, b ∈ brMake T.bs par fn → 0 ≤ b.calls ∧ b.calls ≤ k + 1 := by
  intro b hb
  unfold brMake at hb
  split at hb
  · have := h.small b hb; omega
  · rcases List.mem_append.1 hb with hb | hb
    · have := h.small b hb; omega
    · rw [List.mem_singleton.1 hb]
      exact ⟨Int.le_refl 0, by show (0 : Int) ≤ _; omega⟩

set_option maxRecDepth 100000 in
set_option maxHeartbeats 4000000 in
theorem specCallTree_any (lo : Nat) (v1 v2 : Value) (nf : Nat) (fns : Nat → ByteArray) (n : Nat) (f : Nat → M) (w : World) (h1 : StrsAt lo w v1 nf fns) (h2 : MomsAt lo w v2 n f) :
    Calls Try.prog 29 #[.agg #[v1, v2]] w fun e w' => (∃ v n' F, e = .returned v ∧ TrAns nf fns n f n' F ∧ RowsAt w.heap.size w' v 4 n' F) ∧ Below w.heap.size w w' := by
  have H1 := hide h1
  have H2 := hide h2
  obtain ⟨a1, cap1, rfl, hn1, -⟩ := h1
  obtain ⟨a2, cap2, rfl, hn2, -⟩ := h2
  unfold maxLen at hn1 hn2
  have T0 := hide (TrBox.new w (.slice a1 nf cap1) (.slice a2 n cap2))
  obtain ⟨i0, hi0, hz0, hz1, hz2⟩ := info_parts info_i64'
  have II := hide (And.intro hi0 (And.intro hz0 (And.intro hz1 hz2))); clear hi0 hz0 hz1 hz2
  go_enter Try.func29, Try.ntmps29
  go_wp2_with fail
  refine (l1ok_any lo _ _ nf fns n f _ ((unhide H1).below (unhide T0).below) ((unhide H2).below (unhide T0).below)).mono ?_
  rintro e w1 ⟨⟨ok, rfl, hok⟩, hb1⟩
  have T1 := hide ((unhide T0).go hb1)
  clear hb1 T0
  cases ok with
  | false =>
    have HN : Hid (¬ Sound nf fns n f) := hide (fun h => by have := hok.2 h; cases this)
    clear hok
    go_wp2_with fail
    go_ret
    exact ⟨⟨_, 0, fun _ _ => 0, rfl, .inr ⟨unhide HN, rfl⟩, RowsAt.nil _ _ _ _⟩, (unhide T1).below⟩
  | true =>
    have hS := hok.1 rfl
    have HS := hide hS
    have hn3 : n ≤ 3000 := hS.1.2.2.1
    clear hok hS
    obtain ⟨mc, hmc⟩ : ∃ mc, mc = madeCells #[.slice none 0 0] 101 := ⟨_, rfl⟩
    have hmk : ∀ w, (Instr.makeSlice 118 (.int .i64 101) (.int .i64 101)).run Try.prog w = .ok (.slice (some ⟨w.heap.size, 0, none⟩) 101 101) (w.alloc (.cells mc 55)) := fun w => by
      have := run_make_many (P := Try.prog) 118 55 _ _ _ Try.underlying118 info_Ints 101 (by omega) (by omega) w
      rw [hmc]
      exact this
    have hs : mc.size = 101 := by rw [hmc]; exact size_madeCells _ _
    have hm : ∀ i, i < 101 → mc[i]? = some (.slice none 0 0) := fun i hi => by rw [hmc]; simp [madeCells, hi, Nat.mod_one]
    have h0 := hm 0 (by omega)
    have HS1 := hide hs
    have HM := hide hm
    have g1 := (unhide T1).b1
    have hsz := (unhide T1).size
    have hne : w.heap.size ≠ w1.heap.size := by omega
    clear hmc hm hs
    go_upto_region 7 with fail
    have HT0 := hide (((unhide T1).go (below_new w1 (.cells #[.int .i64 0, .int .i64 (-1), .int .i64 1, .int .i64 0] 117))).go (below_new _ (.cells (mc.setIfInBounds 0 (.slice (some ⟨w1.heap.size + 1 + 1, 0, none⟩) 1 1)) 55)))
    have HT := hide ((unhide HT0).go (below_new _ (.cells #[.int .i64 0] 3)))
    have HP := hide (SpT.begin w1 mc f (unhide HS1) (unhide HM))
    obtain ⟨B, hBe⟩ : ∃ B, B = w1.heap.size := ⟨_, rfl⟩
    generalize ((w1.alloc (.cells #[.int .i64 0, .int .i64 (-1), .int .i64 1, .int .i64 0] 117)).alloc (.cells (mc.setIfInBounds 0 (.slice (some ⟨w1.heap.size + 1 + 1, 0, none⟩) 1 1)) 55)).alloc (.cells #[.int .i64 0] 3) = W0 at HT HP ⊢
    rw [← hBe] at HP hsz
    rw [← hBe]
    have g1 := (unhide HT).b1
    clear hBe HT0 T1 hne HM HS1 h0 hmk
    go_wp2_with fail
    go_loopg [3, 5, 23] n (fun gg o c i W => ∃ (k : Nat) (V : Nat → Value) (oa : Option Addr) (oc : Nat), k + gg = n ∧ i = .int .i64 k ∧ c = .int .i64 (St.after f k).cur ∧ o = .slice oa (treeAt f k).bs.length oc ∧ SpT B W (B + 1) V (atL f k) o (treeAt f k).bs ∧ TrBox w (.slice a1 nf cap1) (.slice a2 n cap2) W)
    case atStart => exact ⟨0, _, _, _, by omega, rfl, rfl, rfl, unhide HP, unhide HT⟩
    case round =>
      clear HP HT g1
      obtain ⟨k, V, oa, oc, hk, rfl, rfl, rfl, hsp, ht⟩ := hrel
      have HP := hide hsp
      have HT := hide ht
      clear hsp ht
      by_cases hlt : k < n
      · obtain ⟨_, _, e, _, hv⟩ := (unhide H2).below (unhide HT).below
        cases e
        obtain ⟨bm, om, vv, rfl, hc0, hc1, hc2, hc3, hc4, hc5, -, hs2, -⟩ := hv k hlt
        clear hv
        obtain ⟨av, capv, rfl, -⟩ := hs2
        have hmo := (unhide HS).2.1 k hlt
        have ht1 : 0 ≤ (f k).task := hmo.1.2.2.1
        have hcu := after_cur101 (unhide HS) k (by omega)
        clear hmo
        have hkn : (k : Int) < (n : Int) := by omega
        have hkz : (0 : Int) ≤ (k : Int) := by omega
        have hown := (unhide HP).own _ hcu
        have hrc := (unhide HP).row.cell hcu
        have hrf := (unhide HP).row.frozen (St.after f k).cur
        have hrl := (unhide HP).row.lt
        obtain ⟨xa, xc, hVx⟩ := owns_slice hown
        rw [hVx] at hrc hown
        have HVX := hide hVx
        obtain ⟨al, hal⟩ : ∃ al, al = atL f k (St.after f k).cur := ⟨_, rfl⟩
        rw [← hal] at hrc hown
        have HAL := hide hal
        have HOW := hide hown
        obtain ⟨cu, hcue⟩ : ∃ cu, cu = (St.after f k).cur := ⟨_, rfl⟩
        rw [← hcue] at hrc hrf hcu ⊢
        have HCU := hide hcue
        have hq1 : (0 : Int) ≤ (cu : Int) := by omega
        have hq2 : (cu : Int) < 101 := by omega
        have hne1 : B + 1 ≠ wr.heap.size := by omega
        clear hown hVx hal hcue
        generalize hkk : (f k).kind = kk at hc0
        have HKK := hide hkk
        clear hkk
        by_cases k7 : kk = 7
        · have k7b : (kk == 7) = true := by simpa using k7
          have HK := hide k7
          clear k7
          go_wp2_with fail
          go_roundg (n - (k + 1))
          case measure => omega
          case rel =>
            have h7 : (f k).kind = 7 := by rw [unhide HKK]; exact unhide HK
            have hp := (unhide HP).below (below_new wr (.cells #[.int .i64 kk, .int .i64 (f k).task, .int .i64 (f k).fn, .int .i64 (f k).line, .string (f k).text, .slice av (f k).nv capv] 73))
            refine ⟨k + 1, V, oa, oc, by omega, by go_num, ?_, ?_, ?_, (unhide HT).go (below_new _ _)⟩
            · rw [cur_turn h7]; congr 1; exact (Int.toNat_of_nonneg ht1).symm
            · rw [tree_kind (by omega) (by omega)]
            · rw [tree_kind (by omega) (by omega), funext (atL_turn h7)]
              exact hp
        · have k7b : (kk == 7) = false := by simpa using k7
          by_cases k2 : kk = 2
          · have k2b : (kk == 2) = true := by simpa using k2
            have h2 : (f k).kind = 2 := by rw [unhide HKK]; exact k2
            have HC2 := hide h2
            clear k2 k7 h2
            obtain ⟨par, hpar⟩ : ∃ par, par = (treeAt f k).parOf ((St.after f k).tasks (St.after f k).cur) := ⟨_, rfl⟩
            have HPA := hide hpar
            have hph := par_head f k
            rw [← hpar, ← unhide HAL] at hph
            have HPH := hide hph
            have HBN := hide (below_new wr (.cells #[.int .i64 kk, .int .i64 (f k).task, .int .i64 (f k).fn, .int .i64 (f k).line, .string (f k).text, .slice av (f k).nv capv] 73))
            have HBX := hide (heap_alloc_new wr (.cells #[.int .i64 kk, .int .i64 (f k).task, .int .i64 (f k).fn, .int .i64 (f k).line, .string (f k).text, .slice av (f k).nv capv] 73))
            clear hpar hph
            obtain ⟨aln, haln⟩ : ∃ aln, aln = al.length := ⟨_, rfl⟩
            rw [← haln] at hrc
            have HALN := hide haln
            clear haln
            go_upto_if 41 with fail
            go_cut [9] (fun pv W => pv = .int .i64 par ∧ SpT B W (B + 1) V (atL f k) (.slice oa (treeAt f k).bs.length oc) (treeAt f k).bs ∧ TrBox w (.slice a1 nf cap1) (.slice (some ⟨bm, om, none⟩) n cap2) W ∧ W.heap[wr.heap.size]? = some (.cells #[.int .i64 kk, .int .i64 (f k).task, .int .i64 (f k).fn, .int .i64 (f k).line, .string (f k).text, .slice av (f k).nv capv] 73 (0, 0)))
            case first =>
              as_aux_lemma =>
                cases al with
                | nil =>
                  have e : par = -1 := unhide HPH
                  have HE := hide e
                  have ea : aln = 0 := unhide HALN
                  have hgt : ¬ ((0 : Int) < (aln : Int)) := by omega
                  have hgt2 : decide ((0 : Int) < (aln : Int)) = false := by simpa using hgt
                  clear e ea
                  go_wp2_with fail
                  go_meet
                  case rel => exact ⟨by rw [unhide HE], (unhide HP).below (unhide HBN), (unhide HT).go (unhide HBN), unhide HBX⟩
                | cons i r =>
                  have e : par = ((i : Nat) : Int) := unhide HPH
                  have HE := hide e
                  obtain ⟨g, cap', eg, hgB, hgl⟩ := (unhide HOW).form (by simp)
                  injection eg with e1 e2 e3
                  subst e1 e3
                  clear e2 e
                  obtain ⟨hcap, hcm⟩ : r.length + 1 ≤ xc ∧ xc ≤ maxLen := by
                    rcases (unhide HOW).2 with ⟨h, _⟩ | ⟨g', cap', cur, hv, -, -, h1, h2, -⟩
                    · cases h
                    · cases hv; exact ⟨h1, h2⟩
                  unfold maxLen at hcm
                  have kc := (owns_cell (unhide HOW) r.length (.int .i64 (i : Nat)) (by simp [atCells])).1
                  obtain ⟨rl, hrl⟩ : ∃ rl, rl = r.length := ⟨_, rfl⟩
                  have ea : aln = rl + 1 := by rw [hrl]; exact unhide HALN
                  rw [← hrl] at hcap kc
                  have wrw : IntKind.i64.wrap ((aln : Int) - 1) = rl := by rw [IntKind.wrap_i64]; omega
                  have hne3 : g ≠ wr.heap.size := by omega
                  have hgt : (0 : Int) < (aln : Int) := by omega
                  have hj1 : (0 : Int) ≤ (rl : Int) := by omega
                  have hj2 : (rl : Int) < (aln : Int) := by omega
                  clear ea
                  clear hrl
                  go_wp2_with fail
                  go_meet
                  case rel => exact ⟨by rw [unhide HE], (unhide HP).below (unhide HBN), (unhide HT).go (unhide HBN), unhide HBX⟩
            case rest =>
              obtain ⟨rfl, hsp, ht, hbx⟩ := hcut
              have HP2 := hide hsp
              have HT2 := hide ht
              have m2 : wc.cell? ⟨wr.heap.size, 2, none⟩ = some (.int .i64 (f k).fn) := by rw [cell_of_row wc wr.heap.size 2 _ _ _ hbx]; rfl
              have hBw : B ≤ wc.heap.size := by have := hsp.row.lt; omega
              clear hsp ht hbx HP HT HBN HBX
              go_wp2_with fail
              refine (l2branch_any B _ (treeAt f k).bs par (f k).fn _ (unhide HP2).out (by have := (treeAt_ok f k).len; omega) hBw).mono ?_
              rintro e w5 ⟨⟨v', rfl, hown', hat'⟩, hg5⟩
              have hbl := brMake_len (treeAt f k).bs par (f k).fn
              have hsmall := brMake_small (treeAt_ok f k) par (f k).fn
              have HT5 : Hid (TrBox w (.slice a1 nf cap1) (.slice (some ⟨bm, om, none⟩) n cap2) w5) := hide (Below.trans (unhide HT2) ((Below.grown (Below.refl B wc) hg5 hBw (fun b hb => ((unhide HP2).out.lt b hb).1)).mono (by omega)))
              have HP5 := hide ((unhide HP2).branch hg5 hown')
              have HTC := hide (tree_call (unhide HC2))
              have HATC := hide (fun t => atL_call (unhide HC2) t)
              rw [← unhide HPA] at HTC HATC
              generalize hix : brFind (treeAt f k).bs par (f k).fn = ix at hbl HATC ⊢
              have HIX := hide hix
              generalize hbs2 : brMake (treeAt f k).bs par (f k).fn = bs2 at hbl hsmall HP5 hown'
              have HBS := hide hbs2
              obtain ⟨og, oc2, eo, hoB, hol⟩ := hown'.form (by omega)
              subst eo
              obtain ⟨sc, sf⟩ := owns_cell (unhide HP5).out _ _ (brCells_get bs2 ix hbl.2.2).2.2.1
              have hsm := hsmall _ (List.getElem_mem hbl.2.2)
              have HBC := hide (brCells_set bs2 ix hbl.2.2).1
              generalize bs2[ix].calls = x at sc hsm HBC
              have wx : IntKind.i64.wrap (x + 1) = x + 1 := by rw [IntKind.wrap_i64]; omega
              obtain ⟨bl, hble⟩ : ∃ bl, bl = bs2.length := ⟨_, rfl⟩
              rw [← hble]
              have HBL := hide hble
              have hi1 : (0 : Int) ≤ (ix : Int) := by omega
              have hi2 : (ix : Int) < (bl : Int) := by omega
              have hrc5 := (unhide HP5).row.cell hcu
              have hVc : V cu = .slice xa aln xc := by rw [unhide HCU, unhide HVX, unhide HALN, unhide HAL]
              rw [hVc] at hrc5
              have hne6 : og ≠ B + 1 := fun e => (unhide HP5).obt (by rw [e]; rfl)
              have HP6 := hide ((unhide HP5).setOut (bs' := bs2.modify ix Br.called) (by simp) (unhide HBC))
              have HP7 := hide ((unhide HP6).below (below_new _ (.cells #[.int .i64 (ix : Nat)] 3)))
              clear hix hbs2 hble hown' hg5 hat' m2
              have hal200 : aln ≤ k + 1 := by rw [unhide HALN, unhide HAL]; unfold atL; rw [List.length_map]; exact after_len f k _
              have hLc : atL f k cu = al := by rw [unhide HCU, unhide HAL]
              have HOC : Hid (((w5.setCell ⟨og, ix * 4 + 2, none⟩ (.int .i64 (x + 1))).alloc (.cells #[.int .i64 (ix : Nat)] 3)).ownsRow B 3 1 (.slice xa aln xc) aln (atCells al)) := by
                have h := (unhide HP7).own cu hcu
                rw [hVc, hLc, ← unhide HALN] at h
                exact hide h
              have HNW : Hid (∀ j u, ([.int .i64 (ix : Nat)] : List Value)[j]? = some u → ((w5.setCell ⟨og, ix * 4 + 2, none⟩ (.int .i64 (x + 1))).alloc (.cells #[.int .i64 (ix : Nat)] 3)).cell? ((⟨w5.heap.size, 0, none⟩ : Addr).add j) = some u) := by
                have h := World.news_of_block (cs := #[.int .i64 (ix : Nat)]) (t := 3) (fr := (0, 0)) (heap_alloc_new (w5.setCell ⟨og, ix * 4 + 2, none⟩ (.int .i64 (x + 1))) (.cells #[.int .i64 (ix : Nat)] 3))
                exact hide (by simpa using h)
              have hB5 : B ≤ w5.heap.size := by omega
              have hnb : some (B + 1) ≠ (Value.slice xa aln xc).ownBlock := fun e => (unhide HP7).nbt cu hcu (by rw [hVc]; exact e.symm)
              have hl7 : B + 1 < ((w5.setCell ⟨og, ix * 4 + 2, none⟩ (.int .i64 (x + 1))).alloc (.cells #[.int .i64 (ix : Nat)] 3)).heap.size := (unhide HP7).row.lt
              have q7c := (unhide HP7).row.cell hcu
              have q7f := (unhide HP7).row.frozen cu
              rw [hVc] at q7c
              have Q7 := hide (And.intro q7c q7f)
              have HVC := hide hVc
              clear q7c q7f hLc hVc
              go_wp2_with (at_builtin; refine wpList_append_lies _ (by rfl) _ _ _ (by rfl) B 3 i0 _ 1 8 Try.underlying55 (unhide II).1 (unhide II).2.1 (unhide II).2.2.1 (unhide II).2.2.2 rfl (by omega) (.slice xa aln xc) aln (atCells al) (by rfl) (unhide HOC) ⟨w5.heap.size, 0, none⟩ 1 1 [.int .i64 (ix : Nat)] (by rfl) (by rfl) (unhide HNW) (by simp [Value.oneCell']) (by omega) (by unfold maxLen; omega) (by omega) (by simp; omega) (w5.heap.size + 1) (by simp) ?_; intro g2 cp2 w7 hown hgrow hat _; have HW7 := hide hown; have HG7 := hide hgrow; have HAT := hide hat; have t7 : w7.cell? ⟨B + 1, cu, none⟩ = some (.slice xa aln xc) := (World.cell?_of_block (hgrow.block (B + 1) hl7 hnb)).trans (unhide Q7).1; have f7 : w7.frozen? ⟨B + 1, cu, none⟩ = false := (World.frozen?_of_block (hgrow.block (B + 1) hl7 hnb)).trans (unhide Q7).2; clear hown hgrow hat)
              have ebl := unhide HBL
              subst ebl
              go_roundg (n - (k + 1))
              case measure => omega
              case rel =>
                have hVc := unhide HVC
                have ho : w7.ownsRow B 3 1 (.slice (some ⟨g2, 0, none⟩) (aln + 1) cp2) (ix :: al).length (atCells (ix :: al)) := by
                  have h := unhide HW7
                  rw [show (ix :: al).length = aln + 1 by rw [unhide HALN]; rfl, show atCells (ix :: al) = atCells al ++ [.int .i64 (ix : Nat)] by simp [atCells]]
                  exact h
                have hs1 := (unhide HP7).putRow (cu := cu) (g := g2) (v' := .slice (some ⟨g2, 0, none⟩) (aln + 1) cp2) (l := ix :: al) hcu (by rw [hVc]; exact unhide HG7) ho rfl (by
                  rw [hVc]
                  rcases unhide HAT with h | h
                  · exact .inl h
                  · exact .inr (by simp; omega))
                have et : (treeAt f (k + 1)).bs = bs2.modify ix Br.called := by
                  rw [unhide HTC]
                  show (brMake _ _ _).modify (brFind _ _ _) _ = _
                  rw [unhide HBS, unhide HIX]
                have el : atL f (k + 1) = fun t => if t = cu then ix :: al else atL f k t := funext fun t => by
                  rw [(unhide HATC t).1, ← unhide HCU]
                  by_cases e : t = cu
                  · rw [if_pos e, if_pos e, e, unhide HCU, ← unhide HAL]
                  · rw [if_neg e, if_neg e]
                have T6 := TrBox.go (Below.setCell (p := ⟨og, ix * 4 + 2, none⟩) (unhide HT5) (by simp; omega) (.int .i64 (x + 1))) (below_new _ (.cells #[.int .i64 (ix : Nat)] 3))
                have T7 : TrBox w (.slice a1 nf cap1) (.slice (some ⟨bm, om, none⟩) n cap2) w7 := Below.trans T6 ((Below.grown (Below.refl B _) (unhide HG7) (by simp; omega) (fun b hb => ((unhide HOC).lt b hb).1)).mono (by omega))
                refine ⟨k + 1, fun t => if t = cu then .slice (some ⟨g2, 0, none⟩) (aln + 1) cp2 else V t, some ⟨og, 0, none⟩, oc2, by omega, by go_num, ?_, ?_, ?_, Below.setCell (p := ⟨B + 1, cu, none⟩) T7 (by simp; omega) _⟩
                · rw [(unhide HATC 0).2, unhide HCU]
                · rw [et, List.length_modify]
                · rw [et, el]
                  rw [List.length_modify] at hs1
                  exact hs1
          have k2b : (kk == 2) = false := by simpa using k2
          by_cases k3 : kk = 3
          · as_aux_lemma =>
              have k3b : (kk == 3) = true := by simpa using k3
              have h3 : (f k).kind = 3 := by rw [unhide HKK]; exact k3
              have halne : al ≠ [] := by rw [unhide HAL]; exact atL_ne (unhide HS) k hlt (.inr h3)
              have H3 := hide h3
              clear k3 k7 k2 h3
              cases al with
              | nil => exact absurd rfl halne
              | cons i r =>
                obtain ⟨g, cap', eg, hgB, hgl⟩ := (unhide HOW).form (by simp)
                injection eg with e1 e2 e3
                subst e1 e3
                clear e2 halne
                obtain ⟨hcap, hcm⟩ : r.length + 1 ≤ xc ∧ xc ≤ maxLen := by
                  rcases (unhide HOW).2 with ⟨h, _⟩ | ⟨g', cap', cur, hv, -, -, h1, h2, -⟩
                  · cases h
                  · cases hv; exact ⟨h1, h2⟩
                unfold maxLen at hcm
                have hpop : wr.ownsRow B 3 1 (.slice (some ⟨g, 0, none⟩) r.length xc) r.length (atCells r) := ownsRow_pop (last := [.int .i64 (i : Nat)]) (by simp [atCells]) (by have := unhide HOW; simpa [atCells] using this)
                have HPO := hide hpop
                obtain ⟨rl, hrl⟩ : ∃ rl, rl = r.length := ⟨_, rfl⟩
                rw [show (i :: r).length = r.length + 1 from rfl, ← hrl] at hrc
                rw [← hrl] at hcap
                have HRL := hide hrl
                have wrw : IntKind.i64.wrap (((rl + 1 : Nat) : Int) - 1) = rl := by rw [IntKind.wrap_i64]; omega
                have wrw2 : IntKind.i64.wrap ((rl : Int) + 1 - 1) = rl := by rw [IntKind.wrap_i64]; omega
                have hne3 : g ≠ wr.heap.size := by omega
                clear hpop hrl
                go_wp2_with fail
                go_roundg (n - (k + 1))
                case measure => omega
                case rel =>
                  have hs1 := (unhide HP).putRow (cu := cu) (g := g) (v' := .slice (some ⟨g, 0, none⟩) r.length xc) (l := r) hcu (World.grownBy.refl _ _) (unhide HPO) rfl (.inl (by have := unhide HVX; rw [← unhide HCU] at this; rw [this]; rfl))
                  rw [← unhide HRL] at hs1
                  refine ⟨k + 1, fun t => if t = cu then .slice (some ⟨g, 0, none⟩) rl xc else V t, oa, oc, by omega, by go_num, ?_, ?_, ?_, TrBox.go (Below.setCell (p := ⟨B + 1, cu, none⟩) (unhide HT) (by simp; omega) _) (below_new _ _)⟩
                  · rw [(atL_back (unhide H3) 0).2, unhide HCU]
                  · rw [tree_kind (by rw [unhide H3]; decide) (by rw [unhide H3]; decide)]
                  · rw [tree_kind (by rw [unhide H3]; decide) (by rw [unhide H3]; decide)]
                    have el : atL f (k + 1) = fun t => if t = cu then r else atL f k t := funext fun t => by
                      rw [(atL_back (unhide H3) t).1, ← unhide HCU]
                      by_cases e : t = cu
                      · rw [if_pos e, if_pos e, e, unhide HCU, ← unhide HAL]; rfl
                      · rw [if_neg e, if_neg e]
                    rw [el]
                    exact hs1.below (below_new _ _)
          have k3b : (kk == 3) = false := by simpa using k3
          by_cases k1 : kk = 1
          · as_aux_lemma =>
              have k1b : (kk == 1) = true := by simpa using k1
              have h1 : (f k).kind = 1 := by rw [unhide HKK]; exact k1
              have halne : al ≠ [] := by rw [unhide HAL]; exact atL_ne (unhide HS) k hlt (.inl h1)
              have HL1 := hide h1
              clear k1 k3 k7 k2 h1
              cases al with
              | nil => exact absurd rfl halne
              | cons i r =>
                obtain ⟨g, cap', eg, hgB, hgl⟩ := (unhide HOW).form (by simp)
                injection eg with e1 e2 e3
                subst e1 e3
                clear e2 halne
                obtain ⟨hcap, hcm⟩ : r.length + 1 ≤ xc ∧ xc ≤ maxLen := by
                  rcases (unhide HOW).2 with ⟨h, _⟩ | ⟨g', cap', cur, hv, -, -, h1, h2, -⟩
                  · cases h
                  · cases hv; exact ⟨h1, h2⟩
                unfold maxLen at hcm
                have kc := (owns_cell (unhide HOW) r.length (.int .i64 (i : Nat)) (by simp [atCells])).1
                have hib : i < (treeAt f k).bs.length := by rw [← top_head (unhide HAL).symm]; exact (treeAt_ok f k).br _
                have hsm := (treeAt_ok f k).small _ (List.getElem_mem hib)
                obtain ⟨og, ocap', eo, hoB, hol⟩ := (unhide HP).out.form (by omega)
                injection eo with e1 e2 e3
                subst e1 e3
                clear e2
                obtain ⟨sc, sf⟩ := owns_cell (unhide HP).out _ _ (brCells_get _ i hib).2.2.2
                have HBC := hide (brCells_set _ i hib).2
                generalize hxe : (treeAt f k).bs[i].self = x at sc hsm HBC
                have wx : IntKind.i64.wrap (x + 1) = x + 1 := by rw [IntKind.wrap_i64]; omega
                obtain ⟨bl, hble⟩ : ∃ bl, bl = (treeAt f k).bs.length := ⟨_, rfl⟩
                obtain ⟨rl, hrl⟩ : ∃ rl, rl = r.length := ⟨_, rfl⟩
                rw [show (i :: r).length = r.length + 1 from rfl, ← hrl] at hrc
                rw [← hrl] at hcap kc
                rw [← hble] at hib
                rw [← hble]
                have HBL := hide hble
                have wrw : IntKind.i64.wrap (((rl + 1 : Nat) : Int) - 1) = rl := by rw [IntKind.wrap_i64]; omega
                have wrw2 : IntKind.i64.wrap ((rl : Int) + 1 - 1) = rl := by rw [IntKind.wrap_i64]; omega
                have hne3 : g ≠ wr.heap.size := by omega
                have hne4 : og ≠ wr.heap.size := by omega
                have hi1 : (0 : Int) ≤ (i : Int) := by omega
                have hi2 : (i : Int) < (bl : Int) := by omega
                clear hrl hble hxe
                go_wp2_with fail
                have ebl := unhide HBL
                subst ebl
                go_roundg (n - (k + 1))
                case measure => omega
                case rel =>
                  have hs1 := (unhide HP).setOut (bs' := (treeAt f k).bs.modify i Br.lined) (by simp) (unhide HBC)
                  have et : (treeAt f (k + 1)).bs = (treeAt f k).bs.modify i Br.lined := by
                    rw [tree_line (unhide HL1)]
                    show (treeAt f k).bs.modify _ _ = _
                    rw [top_head (unhide HAL).symm]
                  refine ⟨k + 1, V, some ⟨og, 0, none⟩, oc, by omega, by go_num, ?_, ?_, ?_, TrBox.go (Below.setCell (p := ⟨og, i * 4 + 3, none⟩) (unhide HT) (by simp; omega) _) (below_new _ _)⟩
                  · rw [(atL_line (unhide HL1) 0).2, unhide HCU]
                  · rw [et, List.length_modify]
                  · rw [et, funext (fun t => (atL_line (unhide HL1) t).1)]
                    have := hs1.below (below_new _ (.cells #[.int .i64 kk, .int .i64 (f k).task, .int .i64 (f k).fn, .int .i64 (f k).line, .string (f k).text, .slice av (f k).nv capv] 73))
                    rw [List.length_modify] at this
                    exact this
          have k1b : (kk == 1) = false := by simpa using k1
          have HK := hide (And.intro k7 (And.intro k2 (And.intro k1 k3)))
          clear k7 k2 k3 k1
          go_wp2_with fail
          go_roundg (n - (k + 1))
          case measure => omega
          case rel =>
            obtain ⟨q7, q2, q1, q3⟩ := unhide HK
            rw [← unhide HKK] at q7 q2 q1 q3
            have hp := (unhide HP).below (below_new wr (.cells #[.int .i64 kk, .int .i64 (f k).task, .int .i64 (f k).fn, .int .i64 (f k).line, .string (f k).text, .slice av (f k).nv capv] 73))
            refine ⟨k + 1, V, oa, oc, by omega, by go_num, ?_, ?_, ?_, (unhide HT).go (below_new _ _)⟩
            · rw [(atL_other q7 q2 q1 q3 0).2, unhide HCU]
            · rw [tree_kind q2 q1]
            · rw [tree_kind q2 q1, funext (fun t => (atL_other q7 q2 q1 q3 t).1)]
              exact hp
      · have e : n = k := by omega
        subst e
        have hnk : ¬ ((n : Int) < (n : Int)) := by omega
        go_wp2_with fail
        go_ret
        exact ⟨⟨_, rfl, _, _, .inl ⟨unhide HS, rfl, fun i j hi hj => by rw [dif_pos hi]⟩, (br_rows (unhide HP).out).low (by omega)⟩, (unhide HT).below⟩
end Go.Proofs.Ytoiacbdnkkolmab
