import Derived.Test.YtoiacbdnkkolmabC18
import Derived.Deep.LoopGhost
namespace Go.Proofs.Ytoiacbdnkkolmab
open Go.RowKit Go.Lib Go.Maps

theorem field_top' (a b c : Value) (w : World) : (Instr.field 112 (.agg #[a, b, c]) 1).run Try.prog w = .ok b w := by kernel_rfl

/-- The Froms of the calls that are open behind k moments. -/
def openAt (f : Nat → M) (k : Nat) (x : Int) : Prop := ∃ t fr, fr ∈ (St.after f k).tasks t ∧ fr.frm = x

theorem openAt_zero (f : Nat → M) (x : Int) (h : openAt f 0 x) : x = -1 := by
  obtain ⟨t, fr, h1, h2⟩ := h
  simp only [St.after, St.init] at h1
  split at h1
  · rw [List.mem_singleton.1 h1] at h2; exact h2.symm
  · cases h1

theorem openAt_step (f : Nat → M) (k : Nat) (x : Int) (h : openAt f (k + 1) x) : openAt f k x ∨ ((f k).kind = 2 ∧ x = k) := by
  obtain ⟨t, fr, h1, h2⟩ := h
  subst h2
  have hput : ∀ l : List Fr, (∀ fr, fr ∈ l → openAt f k fr.frm ∨ ((f k).kind = 2 ∧ fr.frm = k)) → fr ∈ ((St.after f k).put l).tasks t → openAt f k fr.frm ∨ ((f k).kind = 2 ∧ fr.frm = k) := by
    intro l hl hf
    simp only [St.put] at hf
    split at hf
    · exact hl fr hf
    · exact .inl ⟨t, fr, hf, rfl⟩
  have h1' : fr ∈ ((St.after f k).step (f k).kind (f k).task (f k).fn (f k).line k).tasks t := h1
  unfold St.step at h1'
  split at h1'
  · exact .inl ⟨t, fr, h1', rfl⟩
  · split at h1'
    · rename_i k2
      refine hput _ (fun fr hf => ?_) h1'
      rcases List.mem_cons.1 hf with e | e
      · rw [e]; exact .inr ⟨k2, rfl⟩
      · exact .inl ⟨_, fr, e, rfl⟩
    · split at h1'
      · refine hput _ (fun fr hf => ?_) h1'
        cases e2 : (St.after f k).tasks (St.after f k).cur with
        | nil => rw [e2] at hf; cases hf
        | cons f0 r =>
          rw [e2] at hf
          rcases List.mem_cons.1 hf with e | e
          · exact .inl ⟨(St.after f k).cur, f0, by rw [e2]; exact List.mem_cons_self .., by rw [e]⟩
          · exact .inl ⟨(St.after f k).cur, fr, by rw [e2]; exact List.mem_cons_of_mem _ e, rfl⟩
      · split at h1'
        · exact hput _ (fun fr hf => .inl ⟨_, fr, List.mem_of_mem_tail hf, rfl⟩) h1'
        · exact .inl ⟨t, fr, h1', rfl⟩

theorem lined_key (b : Br) : brKey b.lined = brKey b := rfl

/-- A line of a branch. -/
theorem ImT.line {lo : Nat} {W : World} {g N : Nat} {T : Tree} {nb ni : Nat → Nat} {om : Nat} {of : Int → Option Nat} {mv : Value} {num : Nat → Int} (h : ImT lo W g N T nb ni om of mv num) (x : Int) (hx : T.br x < T.bs.length) :
    ImT lo (W.setCell ⟨nb (T.br x + 1), 4, none⟩ (.int .i64 (T.bs[T.br x].self + 1))) g N (T.line x) nb ni om of mv num :=
  h.setNode (T.br x) hx Br.lined T.br num 4 _ lined_key (fun _ _ => rfl) rfl

theorem upto_pred (n k : Nat) (h : k < n) : upto n ((k : Int) - 1) = k := by unfold upto; omega
theorem upto_self (n k : Nat) (h : k < n) : upto n (k : Int) = k + 1 := by unfold upto; omega

/-- At a line something is open in the running task, and it is what was innermost before. -/
theorem line_top {nf : Nat} {fns : Nat → ByteArray} {n : Nat} {f : Nat → M} (h : Sound nf fns n f) (k : Nat) (hk : k < n) (h1 : (f k).kind = 1) : ∃ fr r, runs f (k + 1) = fr :: r ∧ fr.frm = topFrom ((St.after f k).tasks (St.after f k).cur) := by
  have hne := atL_ne h k hk (.inl h1)
  have e : runs f (k + 1) = setLine (f k).line ((St.after f k).tasks (St.after f k).cur) := by
    show ((St.after f k).step _ _ _ _ _).tasks ((St.after f k).step _ _ _ _ _).cur = _
    unfold St.step
    rw [if_neg (by omega), if_neg (by omega), if_pos h1]
    simp [St.put]
  rw [e]
  cases hl : (St.after f k).tasks (St.after f k).cur with
  | nil => unfold atL at hne; rw [hl] at hne; exact absurd rfl hne
  | cons a r => exact ⟨_, _, rfl, rfl⟩

set_option maxRecDepth 100000 in
set_option maxHeartbeats 4000000 in
theorem implCallTree_any (lo : Nat) (v1 v2 : Value) (nf : Nat) (fns : Nat → ByteArray) (n : Nat) (f : Nat → M) (w : World) (h1 : StrsAt lo w v1 nf fns) (h2 : MomsAt lo w v2 n f) :
    Calls Try.prog 30 #[.agg #[v1, v2]] w fun e w' => (∃ v n' F, e = .returned v ∧ TrAns nf fns n f n' F ∧ RowsAt w.heap.size w' v 4 n' F) ∧ Below w.heap.size w w' := by
  have H1 := hide h1
  have H2 := hide h2
  obtain ⟨a1, cap1, rfl, hn1, -⟩ := h1
  obtain ⟨a2, cap2, rfl, hn2, -⟩ := h2
  unfold maxLen at hn1 hn2
  have T0 := hide (TrBox.new w (.slice a1 nf cap1) (.slice a2 n cap2))
  go_enter Try.func30, Try.ntmps30
  go_wp2_with fail
  refine (readTrace_any lo _ _ nf fns n f _ ((unhide H1).below (unhide T0).below) ((unhide H2).below (unhide T0).below)).mono ?_
  rintro e w1 ⟨⟨pv, c, m, rfl, ha, hp, pa, pn, pc, rfl⟩, hb1⟩
  have BA := hide (below_new w1 (.cells #[.int .i64 c, .int .i64 m] 79))
  have T1 := hide (((unhide T0).go hb1).go (unhide BA))
  clear hb1 T0
  by_cases hc : c = 0
  · have hS := ha.zero.1.1 hc
    have HS := hide hS
    have hm := ha.zero.2 hc
    have HP := hide ((hp hc).below (unhide BA))
    have hnf : nf ≤ 300 := hS.1.2.1
    have hn3 : n ≤ 3000 := hS.1.2.2.1
    subst hm
    subst hc
    clear ha hp hS
    go_upto_region 4 with fail
    generalize w1.alloc (.cells #[.int .i64 0, .int .i64 0] 79) = wp at T1 HP ⊢
    clear BA
    have hwl : w.heap.size + 1 ≤ wp.heap.size := (unhide T1).size
    go_wp2_with fail
    refine (newTree_any _).mono ?_
    rintro e w2 ⟨⟨g, rfl, ht⟩, hb2⟩
    have HT0 := hide (ht.mono (N' := 2) (S' := openAt f 0) (Nat.le_refl _) (fun x hx => openAt_zero f x hx))
    have HB0 := hide hb2
    have g1 := ((unhide T1).go hb2).b1
    clear ht hb2
    go_wp2_with fail
    go_loopg [6, 20] n (fun gg _ i W => ∃ (k : Nat), k + gg = n ∧ i = .int .i64 k ∧ TreeAt wp.heap.size W g (2 * k + 2) (treeAt f k) (openAt f k) ∧ Below wp.heap.size wp W)
    case atStart => exact ⟨0, by omega, rfl, unhide HT0, unhide HB0⟩
    case round =>
      clear HT0 HB0 g1
      obtain ⟨k, hk, rfl, ht, hbp⟩ := hrel
      have HT := hide ht
      have HBP := hide hbp
      have HX := hide ((unhide T1).go hbp)
      have hwr : wp.heap.size ≤ wr.heap.size := hbp.size
      clear ht hbp
      by_cases hlt : k < n
      · obtain ⟨_, _, e, _, hv⟩ := (unhide H2).below (unhide HX).below
        cases e
        obtain ⟨bm, om, vv, rfl, hc0, hc1, hc2, hc3, hc4, hc5, -, hs2, -⟩ := hv k hlt
        clear hv
        obtain ⟨av, capv, rfl, -⟩ := hs2
        have hmo := (unhide HS).2.1 k hlt
        have hf1 : 0 ≤ (f k).fn := hmo.1.2.2.2.2.1
        have hf2 : (f k).fn < nf := hmo.1.2.2.2.2.2.1
        clear hmo
        have hkn : (k : Int) < (n : Int) := by omega
        have hkz : (0 : Int) ≤ (k : Int) := by omega
        have HBA := hide (below_new wr (.cells #[.int .i64 (f k).kind, .int .i64 (f k).task, .int .i64 (f k).fn, .int .i64 (f k).line, .string (f k).text, .slice av (f k).nv capv] 73))
        have hbx := heap_alloc_new wr (.cells #[.int .i64 (f k).kind, .int .i64 (f k).task, .int .i64 (f k).fn, .int .i64 (f k).line, .string (f k).text, .slice av (f k).nv capv] 73)
        have HBX := hide hbx
        clear hbx
        generalize hkk : (f k).kind = kk at hc0 HBA HBX
        have HKK := hide hkk
        clear hkk
        by_cases k2 : kk = 2
        · have k2b : (kk == 2) = true := by simpa using k2
          have HK2 := hide k2
          clear k2
          go_upto_region 10 with fail
          have HT3 := hide ((unhide HT).below (unhide HBA))
          have HB3 := hide ((unhide HBP).trans ((unhide HBA).mono hwr))
          have hsz : wr.heap.size < (wr.alloc (.cells #[.int .i64 kk, .int .i64 (f k).task, .int .i64 (f k).fn, .int .i64 (f k).line, .string (f k).text, .slice av (f k).nv capv] 73)).heap.size := by simp
          generalize wr.alloc (.cells #[.int .i64 kk, .int .i64 (f k).task, .int .i64 (f k).fn, .int .i64 (f k).line, .string (f k).text, .slice av (f k).nv capv] 73) = W3 at HT3 HB3 HBX hsz ⊢
          have c2 : W3.cell? ⟨wr.heap.size, 2, none⟩ = some (.int .i64 (f k).fn) := by rw [cell_at (unhide HBX)]; rfl
          clear hc0 hc1 hc2 hc3 hc4 hc5 HBA HT HBP HX
          have wx : IntKind.i64.wrap ((k : Int) - 1) = (k : Int) - 1 := by rw [IntKind.wrap_i64]; omega
          have hft := field_top'
          have HBD := hide ((Below.refl W3.heap.size W3).drew)
          have HPD := hide (((unhide HP).below (unhide HB3)).below (unhide HBD))
          have HTD := hide ((unhide HT3).below (unhide HBD))
          have hW3 : wp.heap.size ≤ W3.heap.size := (unhide HB3).size
          have hok := treeAt_ok f k
          have HOK := hide hok
          clear hok
          go_region_held3 (fun w' => w'.cell? ⟨wr.heap.size, 2, none⟩ = some (.int .i64 (f k).fn) ∧ w'.heap[wr.heap.size]? = some (.cells #[.int .i64 kk, .int .i64 (f k).task, .int .i64 (f k).fn, .int .i64 (f k).line, .string (f k).text, .slice av (f k).nv capv] 73 (0, 0)))
            (first | (exact ⟨c2, unhide HBX⟩) | (exact ⟨cell_below hbA c2, (hbA.block _ hsz).trans (unhide HBX)⟩) | (exact ⟨(cell_at (hkB _ _ _ ((hbA.block _ hsz).trans (unhide HBX))) 2).trans rfl, hkB _ _ _ ((hbA.block _ hsz).trans (unhide HBX))⟩))
            ((first | (go_at_call 77; refine (placeAt_any _ _ n f ((k : Int) - 1) _ (by exact unhide HPD) hn3 (by omega) (by omega)).mono ?_; rintro e wA ⟨⟨top, bw, rfl, hpl⟩, hbA⟩; rw [upto_pred n k hlt] at hpl) | (go_at_call 82; refine (call_any (lo := wp.heap.size) (g := g) (N := 2 * k + 2) (T := treeAt f k) (S := openAt f k) (k : Int) (f k).fn (runs f k) top wA ((unhide HTD).below hbA) hpl.1 (Nat.le_trans hW3 hbA.size) (fun fr r e => ⟨⟨_, fr, by show fr ∈ runs f k; rw [e]; exact List.mem_cons_self .., rfl⟩, (hpl.2.2.2 _ hpl.2.2.1).2 fr (by show fr ∈ runs f k; rw [e]; exact List.mem_cons_self ..), by have := after_frms f k _ fr (by show fr ∈ runs f k; rw [e]; exact List.mem_cons_self ..); omega⟩) (by omega) (by have := (unhide HOK).len; omega) (fun x _ => (unhide HOK).br x) (fun b hb => by have := (unhide HOK).small b hb; omega) (by omega) (by omega)).mono ?_; rintro e wB ⟨rfl, htB, hbB, hkB⟩)))
          have HTB := hide htB
          have HBB : Hid (Below wp.heap.size wp wB) := hide ((unhide HB3).trans ((((Below.refl W3.heap.size W3).drew.trans hbA).mono hW3).trans hbB))
          clear htB hbB hkB hbA hpl c2 wx hft
          go_wp2_with fail
          go_roundg (n - (k + 1))
          case measure => omega
          case rel =>
            refine ⟨k + 1, by omega, by go_num, ?_, unhide HBB⟩
            rw [tree_call (by rw [unhide HKK]; exact unhide HK2)]
            exact (unhide HTB).mono (by omega) (fun x hx => (openAt_step f k x hx).imp id (fun h => h.2))
        · have k2b : (kk == 2) = false := by simpa using k2
          by_cases k1 : kk = 1
          · have k1b : (kk == 1) = true := by rw [k1]; rfl
            have HK1 := hide k1
            clear k1 k2
            go_upto_region 12 with fail
            have HT3 := hide ((unhide HT).below (unhide HBA))
            have HB3 := hide ((unhide HBP).trans ((unhide HBA).mono hwr))
            generalize wr.alloc (.cells #[.int .i64 kk, .int .i64 (f k).task, .int .i64 (f k).fn, .int .i64 (f k).line, .string (f k).text, .slice av (f k).nv capv] 73) = W3 at HT3 HB3 ⊢
            clear hc0 hc1 hc2 hc3 hc4 hc5 HBA HBX HT HBP HX
            have hft := field_top'
            have hW3 : wp.heap.size ≤ W3.heap.size := (unhide HB3).size
            go_wp2_with fail
            refine (placeAt_any _ _ n f (k : Int) _ ((unhide HP).below (unhide HB3)) hn3 (by omega) (by omega)).mono ?_
            rintro e w4 ⟨⟨top, bw, rfl, hpl⟩, hb4⟩
            rw [upto_self n k hlt] at hpl
            obtain ⟨fr, r, hrun, hfrm⟩ := line_top (unhide HS) k hlt (by rw [unhide HKK]; exact unhide HK1)
            have hmem : fr ∈ (St.after f (k + 1)).tasks (St.after f (k + 1)).cur := by
              show fr ∈ runs f (k + 1)
              rw [hrun]; exact List.mem_cons_self ..
            have hop : openAt f k fr.frm := by
              rcases openAt_step f k fr.frm ⟨_, fr, hmem, rfl⟩ with h | h
              · exact h
              · have h1 := h.1
                rw [unhide HKK, unhide HK1] at h1
                exact absurd h1 (by decide)
            have hfr1 := (hpl.2.2.2 _ hpl.2.2.1).2 fr hmem
            have hfr2 := after_frms f (k + 1) _ fr hmem
            obtain ⟨nb, ni, om2, of, mv, num, hi, ho⟩ := (unhide HT3).below hb4
            have HB4 := hide ((unhide HB3).trans (hb4.mono hW3))
            have hpl1 : ListAt w4 (fr :: r) top := by rw [← hrun]; exact hpl.1
            have hbo := branchOf_any (fr :: r) top w4 hi hpl1 (fun fr' r' e => by cases e; exact ⟨ho _ hop, WalkArith.wf_i64 (by omega)⟩)
            have eidx : ((treeAt f k).parOf (fr :: r) + 1).toNat = (treeAt f k).br fr.frm + 1 := by show (((treeAt f k).br fr.frm : Int) + 1).toNat = _; omega
            rw [eidx] at hbo
            have HBO := hide hbo
            have HI := hide hi
            have HO := hide ho
            have HFRM := hide hfrm
            clear hbo hi ho hpl hb4 hpl1 hmem hop hfr1 hfr2 hrun eidx HT3 HB3 hfrm
            generalize ((St.after f (upto n (k : Int))).cur : Int) = cu
            go_wp2_with fail
            refine (unhide HBO).mono ?_
            rintro e w5 ⟨rfl, hb5⟩
            have hbr := (treeAt_ok f k).br fr.frm
            have hsm := (treeAt_ok f k).small _ (List.getElem_mem hbr)
            have HI5 := hide ((unhide HI).below hb5)
            have hw4 : wp.heap.size ≤ w4.heap.size := (unhide HB4).size
            have HB5 := hide ((unhide HB4).trans (hb5.mono hw4))
            obtain ⟨-, -, -, q4, -, qf⟩ := (unhide HI5).cells _ hbr
            have qf4 := qf 4
            have HL := hide ((unhide HI5).line fr.frm hbr)
            have HBL := hide ((unhide HB5).setCell (p := ⟨nb ((treeAt f k).br fr.frm + 1), 4, none⟩) ((unhide HI5).lb _ (by omega)) (.int .i64 ((treeAt f k).bs[(treeAt f k).br fr.frm].self + 1)))
            have wx : IntKind.i64.wrap ((treeAt f k).bs[(treeAt f k).br fr.frm].self + 1) = (treeAt f k).bs[(treeAt f k).br fr.frm].self + 1 := by rw [IntKind.wrap_i64]; omega
            generalize (treeAt f k).bs[(treeAt f k).br fr.frm].self = sf at q4 HL HBL wx
            generalize hbb : nb ((treeAt f k).br fr.frm + 1) = bb at q4 qf4 HL HBL ⊢
            clear hb5 HBO HI HI5 HB5 HB4 qf hsm hbb
            go_wp2_with fail
            go_roundg (n - (k + 1))
            case measure => omega
            case rel =>
              refine ⟨k + 1, by omega, by go_num, ?_, unhide HBL⟩
              rw [tree_line (by rw [unhide HKK]; exact unhide HK1), ← unhide HFRM]
              refine TreeAt.mono (N := 2 * k + 2) (S := openAt f k) ⟨nb, ni, om2, of, mv, num, unhide HL, unhide HO⟩ (by omega) (fun x hx => ?_)
              rcases openAt_step f k x hx with h | h
              · exact h
              · have h1 := h.1
                rw [unhide HKK, unhide HK1] at h1
                exact absurd h1 (by decide)
          · have k1b : (kk == 1) = false := by simpa using k1
            have HK := hide (And.intro k1 k2)
            clear k1 k2
            go_wp2_with fail
            go_roundg (n - (k + 1))
            case measure => omega
            case rel =>
              refine ⟨k + 1, by omega, by go_num, ?_, (unhide HBP).trans ((unhide HBA).mono hwr)⟩
              rw [tree_kind (by rw [unhide HKK]; exact (unhide HK).2) (by rw [unhide HKK]; exact (unhide HK).1)]
              refine ((unhide HT).below (unhide HBA)).mono (by omega) (fun x hx => ?_)
              rcases openAt_step f k x hx with h | h
              · exact h
              · exact absurd (by rw [← unhide HKK]; exact h.1) (unhide HK).2
      · have e : n = k := by omega
        subst e
        have hnk : ¬ ((n : Int) < (n : Int)) := by omega
        go_wp2_with fail
        refine (list_any (lo := wp.heap.size) _ (unhide HT) hwr (by have := (treeAt_ok f n).len; omega)).mono ?_
        rintro e w5 ⟨⟨v, rfl, hv⟩, hb5⟩
        have HV := hide hv
        have HX5 := hide ((unhide T1).go ((unhide HBP).trans hb5))
        clear hv hb5
        go_wp2_with fail
        go_ret
        refine ⟨⟨_, _, _, rfl, .inl ⟨unhide HS, rfl, fun i j hi hj => dif_pos hi⟩, (br_rows (unhide HV)).low (by omega)⟩, (unhide HX5).below⟩
  · have HN : Hid (¬ Sound nf fns n f) := hide (fun h => hc (ha.zero.1.2 h))
    have hcb : (c == 0) = false := by simpa using hc
    clear ha hp hc
    go_wp2_with fail
    go_ret
    exact ⟨⟨_, 0, fun _ _ => 0, rfl, .inr ⟨unhide HN, rfl⟩, RowsAt.nil _ _ _ _⟩, (unhide T1).below⟩
end Go.Proofs.Ytoiacbdnkkolmab
