import Derived.Test.YtoiacbdnkkolmabC15
import Derived.Deep.DeepCutAuto
namespace Go.Proofs.Ytoiacbdnkkolmab
open Go.RowKit Go.Lib Go.Maps

theorem cell_at {w : World} {b : Nat} {cs : Array Value} {t : TypeId} {fr : Nat × Nat} (h : w.heap[b]? = some (.cells cs t fr)) (i : Nat) : w.cell? ⟨b, i, none⟩ = cs[i]? := by simp [World.cell?, h]

section
variable {lo : Nat} {w : World} {g N : Nat} {T : Tree} {nb ni : Nat → Nat} {om : Nat} {of : Int → Option Nat} {mv : Value} {num : Nat → Int}

theorem ImT.cellInner (h : ImT lo w g N T nb ni om of mv num) (j : Nat) (hj : j ≤ T.bs.length) : w.cell? ⟨nb j, 2, none⟩ = some (.map (some (ni j))) := by
  cases j with
  | zero => rw [cell_at h.ground]; rfl
  | succ i => rw [cell_at (h.node i (by omega))]; rfl

theorem ImT.cells (h : ImT lo w g N T nb ni om of mv num) (i : Nat) (hi : i < T.bs.length) :
    w.cell? ⟨nb (i + 1), 0, none⟩ = some (.int .i64 T.bs[i].fn) ∧ w.cell? ⟨nb (i + 1), 1, none⟩ = some (.pointer (some ⟨nb (T.bs[i].par + 1).toNat, 0, none⟩)) ∧ w.cell? ⟨nb (i + 1), 3, none⟩ = some (.int .i64 T.bs[i].calls) ∧
      w.cell? ⟨nb (i + 1), 4, none⟩ = some (.int .i64 T.bs[i].self) ∧ w.cell? ⟨nb (i + 1), 5, none⟩ = some (.int .i64 (num i)) ∧ ∀ o, w.frozen? ⟨nb (i + 1), o, none⟩ = false := by
  have hn := h.node i hi
  refine ⟨?_, ?_, ?_, ?_, ?_, fun o => frozen_of_row _ _ _ _ _ hn⟩ <;> rw [cell_at hn] <;> rfl

theorem ImT.tcells (h : ImT lo w g N T nb ni om of mv num) : w.cell? ⟨g, 0, none⟩ = some (.pointer (some ⟨nb 0, 0, none⟩)) ∧ w.cell? ⟨g, 1, none⟩ = some mv ∧ w.cell? ⟨g, 2, none⟩ = some (.map (some om)) ∧ ∀ o, w.frozen? ⟨g, o, none⟩ = false := by
  refine ⟨?_, ?_, ?_, fun o => frozen_of_row _ _ _ _ _ h.hg⟩ <;> rw [cell_at h.hg] <;> rfl
end

set_option maxHeartbeats 1000000 in
theorem branchOf_any {lo : Nat} {g N : Nat} {T : Tree} {nb ni : Nat → Nat} {om : Nat} {of : Int → Option Nat} {mv : Value} {num : Nat → Int} (l : List Fr) (p : Option Addr) (w : World) (h : ImT lo w g N T nb ni om of mv num) (hl : ListAt w l p)
    (hof : ∀ fr r, l = fr :: r → of fr.frm = some (nb (T.br fr.frm + 1)) ∧ (Lit.int .i64 fr.frm).wf = true) :
    Calls Try.prog 83 #[.pointer (some ⟨g, 0, none⟩), .pointer p] w fun e w' => e = .returned (.pointer (some ⟨nb (T.parOf l + 1).toNat, 0, none⟩)) ∧ Below w.heap.size w w' := by
  obtain ⟨c0, c1, c2, -⟩ := h.tcells
  cases l with
  | nil =>
    have e : p = none := hl
    subst e
    clear h hof hl
    go_enter Try.func83, Try.ntmps83
    go_wp2
    go_ret
    exact ⟨rfl, Below.refl _ _⟩
  | cons f r =>
    obtain ⟨b, p', rfl, h0, h1, h2, h3, h4, -⟩ := hl
    obtain ⟨ho, hw⟩ := hof f r rfl
    have hlook : ∀ n, (Instr.lookup 125 (.map (some om)) (.int .i64 f.frm) false).run Try.prog (w.drewN n) = .ok (ptrVal (some (nb (T.br f.frm + 1)))) (w.drewN n) := fun n => by
      rw [← ho]
      exact (h.ofm.of_block (w' := w.drewN n) (by simp)).look f.frm hw
    have e : (T.parOf (f :: r) + 1).toNat = T.br f.frm + 1 := by show ((T.br f.frm : Int) + 1).toNat = _; omega
    rw [e]
    generalize nb (T.br f.frm + 1) = bb at hlook ⊢
    unfold ptrVal at hlook
    simp only [Option.map_some] at hlook
    clear h hof ho hw e
    go_enter Try.func83, Try.ntmps83
    go_wp2
    go_quiet (fail)
    go_wp2
    go_ret
    exact ⟨rfl, below_drewN (Below.refl _ _) _⟩

theorem info_pb : (Try.prog.info? 124).map (fun i => (i.zero, i.size, i.bytes)) = some (some (.pointer none), 1, 8) := by kernel_rfl

theorem ImT.mono {lo : Nat} {w : World} {g N N' : Nat} {T : Tree} {nb ni : Nat → Nat} {om : Nat} {of : Int → Option Nat} {mv : Value} {num : Nat → Int} (h : ImT lo w g N T nb ni om of mv num) (hN : N ≤ N') : ImT lo w g N' T nb ni om of mv num :=
  ⟨h.hg, h.lg, h.lb, h.li, h.lm, h.met, h.ground, h.node, h.par, fun j hj => (h.inner j hj).mono hN, h.ofm.mono hN, h.injb, h.inji, h.omn⟩

theorem called_key (b : Br) : brKey b.called = brKey b := rfl

theorem parOf_nat {T : Tree} (l : List Fr) (hb : ∀ fr r, l = fr :: r → T.br fr.frm < T.bs.length) : (T.parOf l + 1).toNat ≤ T.bs.length ∧ (((T.parOf l + 1).toNat : Int) - 1) = T.parOf l := by
  cases l with
  | nil => exact ⟨by show ((-1 : Int) + 1).toNat ≤ _; omega, by show ((((-1 : Int) + 1).toNat : Nat) : Int) - 1 = -1; omega⟩
  | cons f r => have := hb f r rfl; exact ⟨by show ((T.br f.frm : Int) + 1).toNat ≤ _; omega, by show ((((T.br f.frm : Int) + 1).toNat : Nat) : Int) - 1 = (T.br f.frm : Int); omega⟩

/-- The program's tree, the blocks of its parts left unnamed: S: the Froms whose branches are laid down. -/
def TreeAt (lo : Nat) (W : World) (g N : Nat) (T : Tree) (S : Int → Prop) : Prop :=
  ∃ nb ni om of mv num, ImT lo W g N T nb ni om of mv num ∧ ∀ x, S x → of x = some (nb (T.br x + 1))

theorem TreeAt.below {lo : Nat} {W W' : World} {g N : Nat} {T : Tree} {S : Int → Prop} (h : TreeAt lo W g N T S) (hb : Below W.heap.size W W') : TreeAt lo W' g N T S := by
  obtain ⟨nb, ni, om, of, mv, num, h1, h2⟩ := h
  exact ⟨nb, ni, om, of, mv, num, h1.below hb, h2⟩

/-- Boxed moments stay as they are. -/
def KeepsM (w w' : World) : Prop := ∀ (b : Nat) (cs : Array Value) (fr : Nat × Nat), w.heap[b]? = some (Obj.cells cs 73 fr) → w'.heap[b]? = some (Obj.cells cs 73 fr)

theorem KeepsM.of_below {w w' : World} (h : Below w.heap.size w w') : KeepsM w w' := fun b cs fr hb => by rw [h.block b (heap_lt' hb)]; exact hb

theorem KeepsM.trans {a b c : World} (h : KeepsM a b) (k : KeepsM b c) : KeepsM a c := fun i cs fr hi => k i cs fr (h i cs fr hi)

theorem KeepsM.of_grown {w w' : World} {row : Option Nat} (h : w.grownBy w' row) (hn : ∀ b cs fr, w.heap[b]? = some (.cells cs 73 fr) → row ≠ some b) : KeepsM w w' := fun b cs fr hb => by
  rw [h.block b (heap_lt' hb) (fun e => hn b cs fr hb e.symm)]; exact hb

theorem KeepsM.of_set {w : World} {g o : Nat} {v : Value} (hn : ∀ cs fr, w.heap[g]? ≠ some (.cells cs 73 fr)) : KeepsM w (w.setCell ⟨g, o, none⟩ v) := fun b cs fr hb => by
  rw [heap_setCell_other _ _ _ _ (fun e => hn cs fr (by have e' : b = g := e; rw [← e']; exact hb))]; exact hb

set_option maxRecDepth 100000 in
set_option maxHeartbeats 4000000 in
theorem call_any {lo : Nat} {g N : Nat} {T : Tree} {S : Int → Prop} (frm fn : Int) (l : List Fr) (p : Option Addr) (w : World) (h : TreeAt lo w g N T S) (hl : ListAt w l p) (hlo : lo ≤ w.heap.size)
    (hS : ∀ fr r, l = fr :: r → S fr.frm ∧ -1 ≤ fr.frm ∧ fr.frm ≤ 4000) (hN : N ≤ 100000) (hT : T.bs.length ≤ 4000) (hbr : ∀ x, S x → T.br x < T.bs.length) (hsm : ∀ b, b ∈ T.bs → 0 ≤ b.calls ∧ b.calls ≤ 4000)
    (hf : 0 ≤ fn ∧ fn ≤ 4000) (hk : -1 ≤ frm ∧ frm ≤ 4000) :
    Calls Try.prog 82 #[.pointer (some ⟨g, 0, none⟩), .int .i64 frm, .int .i64 fn, .pointer p] w fun e w' => e = .returned (.tuple #[]) ∧ TreeAt lo w' g (N + 2) (T.call (T.parOf l) fn frm) (fun x => S x ∨ x = frm) ∧ Below lo w w' ∧ KeepsM w w' := by
  obtain ⟨nb, ni, om, of, mv, num, hi, ho⟩ := h
  obtain ⟨q, hq⟩ : ∃ q, q = (T.parOf l + 1).toNat := ⟨_, rfl⟩
  have hq2 := parOf_nat l (fun fr r e => hbr _ (hS fr r e).1)
  rw [← hq] at hq2
  have hwf : (Lit.int .i64 fn).wf = true := WalkArith.wf_i64 (by omega)
  have hwk : (Lit.int .i64 frm).wf = true := WalkArith.wf_i64 (by omega)
  have hbo := branchOf_any l p w hi hl (fun fr r e => ⟨ho _ (hS fr r e).1, WalkArith.wf_i64 (by have := hS fr r e; omega)⟩)
  rw [← hq] at hbo
  have HI := hide hi
  have HO := hide ho
  have HQ := hide hq
  have HBO := hide hbo
  clear hi ho hq hbo hl hS
  go_enter Try.func82, Try.ntmps82
  go_wp2_with fail
  refine (unhide HBO).mono ?_
  rintro e w1 ⟨rfl, hb1⟩
  have HI1 := hide ((unhide HI).below hb1)
  have HB1 := hide (hb1.mono hlo)
  have KP1 := hide (KeepsM.of_below hb1)
  have hs1 : w.heap.size ≤ w1.heap.size := hb1.size
  clear hb1 HI HBO
  have ci := (unhide HI1).cellInner q hq2.1
  have hlook := ((unhide HI1).inner q hq2.1).look fn hwf
  by_cases hfd : brFind T.bs ((q : Int) - 1) fn < T.bs.length
  · have hno : nodeOf T.bs nb q fn = some (nb (brFind T.bs ((q : Int) - 1) fn + 1)) := by unfold nodeOf; rw [if_pos hfd]
    rw [hno] at hlook
    unfold ptrVal at hlook
    simp only [Option.map_some] at hlook
    obtain ⟨i, hii⟩ : ∃ i, i = brFind T.bs ((q : Int) - 1) fn := ⟨_, rfl⟩
    rw [← hii] at hfd hlook
    obtain ⟨-, -, k3, -, -, kf⟩ := (unhide HI1).cells i hfd
    have kf3 := kf 3
    have hsm' := hsm _ (List.getElem_mem hfd)
    have wx : IntKind.i64.wrap (T.bs[i].calls + 1) = T.bs[i].calls + 1 := by rw [IntKind.wrap_i64]; omega
    have HI2 := hide ((unhide HI1).setNode i hfd Br.called (fun x => if x = frm then i else T.br x) num 3 (.int .i64 (T.bs[i].calls + 1)) called_key (fun _ _ => rfl) rfl)
    have HB2 := hide ((unhide HB1).setCell (p := ⟨nb (i + 1), 3, none⟩) ((unhide HI1).lb (i + 1) (by omega)) (.int .i64 (T.bs[i].calls + 1)))
    have KP2 : Hid (KeepsM w (w1.setCell ⟨nb (i + 1), 3, none⟩ (.int .i64 (T.bs[i].calls + 1)))) := hide ((unhide KP1).trans (KeepsM.of_set (fun cs fr e => by have h1 := (unhide HI1).node i hfd; rw [e] at h1; cases h1)))
    have HII := hide hii
    have HHH := hide (And.intro hT (And.intro hbr hsm))
    clear hno hii hT hbr hsm kf hsm'
    generalize T.bs[i].calls = cc at k3 wx HI2 HB2 KP2
    go_upto_region 7 with fail
    generalize w1.setCell ⟨nb (i + 1), 3, none⟩ (.int .i64 (cc + 1)) = W2 at HI2 HB2 KP2 ⊢
    obtain ⟨-, -, c2, -⟩ := (unhide HI2).tcells
    have hom : lo ≤ om := (unhide HI2).lm
    have h2s : lo ≤ W2.heap.size := Nat.le_trans hlo (unhide HB2).size
    clear hlook ci k3 kf3 wx HI1 HB1
    go_wp2_with (at_mapUpdate; refine wpList_ptr_store _ (by rfl) _ _ _ (by rfl) om N of (by rfl) (unhide HI2).ofm (by unfold maxLen; omega) frm hwk (some (nb (i + 1))) (by rfl) (by rfl) ?_; intro w3 hpm hgr)
    go_end0
    have HI3 := (unhide HI2).putOf hpm hgr
    refine ⟨rfl, ⟨nb, ni, om, fun y => if y = frm then some (nb (i + 1)) else of y, mv, num, ?_, fun x hx => ?_⟩, (unhide HB2).grown hgr h2s (fun k hk => by cases hk; exact hom), (unhide KP2).trans (KeepsM.of_grown hgr (fun b cs fr hb e => by obtain ⟨es, c, h2⟩ := (unhide HI2).ofm.isMap; cases e; rw [h2] at hb; cases hb))⟩
    · have e : T.call (T.parOf l) fn frm = ⟨T.bs.modify i Br.called, fun x => if x = frm then i else T.br x⟩ := by
        unfold Tree.call brMake
        rw [← hq2.2, ← unhide HII, if_pos hfd]
      rw [e]
      exact HI3.mono (by omega)
    · have e : (T.call (T.parOf l) fn frm).br x = if x = frm then i else T.br x := by
        unfold Tree.call
        rw [← hq2.2, ← unhide HII]
      rw [e]
      dsimp only
      by_cases ex : x = frm
      · rw [if_pos ex, if_pos ex]
      · rw [if_neg ex, if_neg ex]
        rcases hx with hx | hx
        · exact unhide HO x hx
        · exact absurd hx ex
  · have hno : nodeOf T.bs nb q fn = none := by unfold nodeOf; rw [if_neg hfd]
    rw [hno] at hlook
    unfold ptrVal at hlook
    simp only [Option.map_none] at hlook
    have hmm := @run_makeMap Try.prog
    have HFD := hide hfd
    have HHH := hide (And.intro hT (And.intro hbr hsm))
    clear hfd hno hsm hbr
    obtain ⟨Wa, hWa⟩ : ∃ Wa, Wa = w1.alloc (.map #[] 0) := ⟨_, rfl⟩
    have sa : Wa.heap.size = w1.heap.size + 1 := by rw [hWa]; simp
    have ba : Below w1.heap.size w1 Wa := by rw [hWa]; exact below_new _ _
    have pa : PtrMap Wa w1.heap.size 0 (fun _ => none) := by rw [hWa]; exact PtrMap.made w1
    obtain ⟨Wb, hWb⟩ : ∃ Wb, Wb = Wa.alloc (.cells (branchCells ⟨fn, (q : Int) - 1, 0, 0⟩ (nb q) w1.heap.size 0) 127) := ⟨_, rfl⟩
    have sb : Wb.heap.size = w1.heap.size + 1 + 1 := by rw [hWb]; simp [sa]
    have bb : Below Wa.heap.size Wa Wb := by rw [hWb]; exact below_new _ _
    have pb : PtrMap Wb w1.heap.size 0 (fun _ => none) := pa.of_block (bb.block _ (by omega))
    have nbk : Wb.heap[w1.heap.size + 1]? = some (.cells (branchCells ⟨fn, (q : Int) - 1, 0, 0⟩ (nb q) w1.heap.size 0) 127 (0, 0)) := by rw [hWb, ← sa]; exact heap_alloc_new Wa _
    have b1b : Below w1.heap.size w1 Wb := ba.trans (bb.mono (by omega))
    have HIb := hide ((unhide HI1).below b1b)
    have HNB := hide (And.intro pb nbk)
    have HSB := hide (And.intro sb b1b)
    have h1s : lo ≤ w1.heap.size := Nat.le_trans hlo hs1
    have HBb := hide ((unhide HB1).trans (b1b.mono h1s))
    unfold branchCells at hWb
    clear pa pb nbk bb ba b1b
    go_upto_region 4 with fail
    rw [← hWa, ← hWb]
    clear hWa hWb hlook ci
    have ci := (unhide HIb).cellInner q hq2.1
    obtain ⟨va, vn, vc, hmv⟩ : ∃ va vn vc, mv = .slice va vn vc := by
      rcases (unhide HIb).met.2 with ⟨e, _⟩ | ⟨g', cap', cur, e, _⟩
      · exact ⟨_, _, _, e⟩
      · exact ⟨_, _, _, e⟩
    subst hmv
    go_upto_region 5 with (at_mapUpdate; refine wpList_ptr_store _ (by rfl) _ _ _ (by rfl) (ni q) N (nodeOf T.bs nb q) (by rfl) ((unhide HIb).inner q hq2.1) (by unfold maxLen; omega) fn hwf (some (w1.heap.size + 1)) (by rfl) (by rfl) ?_; intro Wc hpc hgc; have HPC := hide hpc; have HGC := hide hgc; clear hpc hgc)
    clear ci hmm
    have sC : Wb.heap.size ≤ Wc.heap.size := (unhide HGC).size
    have hgn : some g ≠ some (ni q) := fun e => (unhide HIb).i_ne_g q hq2.1 (Option.some.inj e).symm
    have hgc : Wc.heap[g]? = some (.cells #[.pointer (some ⟨nb 0, 0, none⟩), .slice va vn vc, .map (some om)] 175 (0, 0)) := by rw [(unhide HGC).block g (heap_lt' (unhide HIb).hg) hgn]; exact (unhide HIb).hg
    have c1c : Wc.cell? ⟨g, 1, none⟩ = some (.slice va vn vc) := by rw [cell_at hgc]; rfl
    have HMC : Hid (Wc.ownsRow lo 124 1 (.slice va vn vc) T.bs.length ((List.range T.bs.length).map fun i => .pointer (some ⟨nb (i + 1), 0, none⟩))) := hide ((unhide HIb).met.kept (unhide HGC) (.inr (fun e => (unhide HIb).m_ne_map ((unhide HIb).inner q hq2.1).isMap e)))
    have HBc := hide ((unhide HBb).grown (unhide HGC) (by have := (unhide HSB).1; omega) (fun k hk => by cases hk; exact (unhide HIb).li q hq2.1))
    have HGCell := hide hgc
    have hsb := (unhide HSB).1
    obtain ⟨i0, hi0, hz0, hz1, hz2⟩ := info_parts info_pb
    have II := hide (And.intro hi0 (And.intro hz0 (And.intro hz1 hz2))); clear hi0 hz0 hz1 hz2 hgc
    have HA := hide (owns_below (unhide HMC) (below_new Wc (.cells #[.pointer (some ⟨w1.heap.size + 1, 0, none⟩)] 124)))
    have HNW : Hid (∀ j u, ([.pointer (some ⟨w1.heap.size + 1, 0, none⟩)] : List Value)[j]? = some u → (Wc.alloc (.cells #[.pointer (some ⟨w1.heap.size + 1, 0, none⟩)] 124)).cell? ((⟨Wc.heap.size, 0, none⟩ : Addr).add j) = some u) :=
      hide (World.news_of_block (cs := #[.pointer (some ⟨w1.heap.size + 1, 0, none⟩)]) (t := 124) (fr := (0, 0)) (heap_alloc_new Wc _))
    have hgm : (Value.slice va vn vc).ownBlock ≠ some g := (unhide HIb).m_ne_g
    have hgl : g < Wc.heap.size := heap_lt' (unhide HGCell)
    have HGM := hide (And.intro hgm hgl)
    clear hgm hgl hsb
    go_upto_region 6 with (at_builtin; refine wpList_append_lies _ (by rfl) _ _ _ (by rfl) lo 124 i0 _ 1 8 Try.underlying173 (unhide II).1 (unhide II).2.1 (unhide II).2.2.1 (unhide II).2.2.2 rfl (by omega) (.slice va vn vc) T.bs.length _ (by rfl) (unhide HA) ⟨Wc.heap.size, 0, none⟩ 1 1 [.pointer (some ⟨w1.heap.size + 1, 0, none⟩)] (by rfl) (by rfl) (unhide HNW) (by simp [Value.oneCell']) (by omega) (by unfold maxLen; omega) (by omega) (by have := (unhide HSB).1; simp; omega) (Wc.heap.size + 1) (by simp) ?_; intro g2 cp2 w7 hown hgrow _ _; have HO7 := hide hown; have HG7 := hide hgrow; have kg7 : w7.heap[g]? = some (.cells #[.pointer (some ⟨nb 0, 0, none⟩), .slice va vn vc, .map (some om)] 175 (0, 0)) := (by rw [hgrow.block g (by have := (unhide HGM).2; simp; omega) (fun e => (unhide HGM).1 e.symm), Below.heap_alloc _ _ _ (unhide HGM).2]; exact unhide HGCell); have KG7 := hide kg7; have c7 : w7.cell? ⟨g, 1, none⟩ = some (.slice va vn vc) := (by rw [cell_at kg7]; rfl); have f7 : w7.frozen? ⟨g, 1, none⟩ = false := frozen_of_row _ _ _ _ _ kg7; clear hown hgrow kg7)
    have hI1 := unhide HI1
    obtain ⟨We, hWe⟩ : ∃ We, We = w7.setCell ⟨g, 1, none⟩ (.slice (some ⟨g2, 0, none⟩) (T.bs.length + 1) cp2) := ⟨_, rfl⟩
    rw [← hWe]
    have hch : ∀ b, b < Wc.heap.size → b ≠ g → (Value.slice va vn vc).ownBlock ≠ some b → We.heap[b]? = Wc.heap[b]? := fun b hb h1 h2 => by
      rw [hWe, heap_setCell_other _ _ _ _ h1, (unhide HG7).block b (by simp; omega) (fun e => h2 e.symm), Below.heap_alloc _ _ _ hb]
    have hcb : ∀ b, b < Wb.heap.size → b ≠ ni q → Wc.heap[b]? = Wb.heap[b]? := fun b hb h1 => (unhide HGC).block b hb (fun e => h1 (Option.some.inj e))
    have hsb := (unhide HSB).1
    have hg1 : g < w1.heap.size := heap_lt' hI1.hg
    have hq1 : ni q < w1.heap.size := (hI1.inner q hq2.1).lt
    have hm1 : ∀ b, w1.heap.size ≤ b → (Value.slice va vn vc).ownBlock ≠ some b := fun b hb e => by have := (hI1.met.lt b e).2; omega
    have hg2 : (Value.slice (some ⟨g2, 0, none⟩) (T.bs.length + 1) cp2).ownBlock ≠ some g := fun e => by
      obtain ⟨_, cs, fr, h1⟩ := owns_typed (unhide HO7) g e
      have h2 := unhide KG7
      rw [h1] at h2; cases h2
    have HIe := hI1.addNode q hq2.1 fn (unhide HFD) (w1.heap.size + 1) w1.heap.size (.slice (some ⟨g2, 0, none⟩) (T.bs.length + 1) cp2) T.br (W' := We) (by omega) (Nat.le_refl _) h1s
      (fun b hb h1 h2 h3 => by rw [hch b (by omega) h2 h3, hcb b (by omega) h1, (unhide HSB).2.block b hb])
      (by rw [hWe]; exact heap_setCell_same _ _ _ _ _ _ (unhide KG7))
      (by rw [hWe]; exact owns_setCell (unhide HO7) hg2)
      (by rw [hch _ (by omega) (by omega) (hm1 _ (by omega)), hcb _ (by omega) (by omega)]; exact (unhide HNB).2)
      (((unhide HNB).1.of_block (by rw [hch _ (by omega) (by omega) (hm1 _ (by omega)), hcb _ (by omega) (by omega)])).mono (by omega))
      ((unhide HPC).of_block (hch _ (by omega) (hI1.i_ne_g q hq2.1) (hI1.m_ne_map (hI1.inner q hq2.1).isMap)))
    have HBe := hide (((((unhide HBc).alloc (by omega) (.cells #[.pointer (some ⟨w1.heap.size + 1, 0, none⟩)] 124)).grown (unhide HG7) (by simp; omega) (fun k hk => (hI1.met.lt k hk).1)).setCell (p := ⟨g, 1, none⟩) hI1.lg (.slice (some ⟨g2, 0, none⟩) (T.bs.length + 1) cp2)))
    rw [← hWe] at HBe
    have KPe : Hid (KeepsM w We) := hide ((unhide KP1).trans (fun b cs fr hb => by
      have hbl := heap_lt' hb
      rw [hch b (by omega) (fun e => by have h2 := hI1.hg; rw [← e, hb] at h2; cases h2) (fun e => by obtain ⟨_, cs', fr', h2⟩ := owns_typed hI1.met b e; rw [hb] at h2; cases h2), hcb b (by omega) (fun e => by obtain ⟨es, c, h2⟩ := (hI1.inner q hq2.1).isMap; rw [← e, hb] at h2; cases h2), (unhide HSB).2.block b hbl]
      exact hb))
    have hlen : T.bs.length < (T.bs ++ [(⟨fn, (q : Int) - 1, 0, 0⟩ : Br)]).length := by simp
    have hat : (T.bs ++ [(⟨fn, (q : Int) - 1, 0, 0⟩ : Br)])[T.bs.length] = ⟨fn, (q : Int) - 1, 0, 0⟩ := by simp
    obtain ⟨-, -, k3, -, -, kf⟩ := HIe.cells T.bs.length hlen
    have kf3 := kf 3
    simp only [if_pos] at k3 kf3
    have HI2 := HIe.setNode T.bs.length hlen Br.called (fun x => if x = frm then T.bs.length else T.br x) (fun i => if i = T.bs.length then 0 else num i) 3 (.int .i64 1) called_key (fun _ _ => rfl) (by simp only [hat]; rfl)
    simp only [if_pos] at HI2
    rw [hat] at k3
    simp only at k3
    have HJ2 := hide HI2
    have HB2 := hide ((unhide HBe).setCell (p := ⟨w1.heap.size + 1, 3, none⟩) (by show lo ≤ w1.heap.size + 1; omega) (.int .i64 1))
    have KP2 : Hid (KeepsM w (We.setCell ⟨w1.heap.size + 1, 3, none⟩ (.int .i64 1))) := hide ((unhide KPe).trans (KeepsM.of_set (fun cs fr e => by
      have h1 := HIe.node T.bs.length hlen
      simp only [if_pos] at h1
      rw [e] at h1; cases h1)))
    clear HI2 HIe hWe hch hcb hsb hg1 hq1 hm1 hg2 hat kf hI1 c1c c7 f7 HO7 HG7 KG7 HGM HGCell HPC HGC HNB HSB HIb HI1 HB1 HBb HBc HA HNW HMC II HBe
    go_upto_region 7 with fail
    generalize We.setCell ⟨w1.heap.size + 1, 3, none⟩ (.int .i64 1) = W2 at HJ2 HB2 KP2 ⊢
    obtain ⟨-, -, c2, -⟩ := (unhide HJ2).tcells
    have hom : lo ≤ om := (unhide HJ2).lm
    have h2s : lo ≤ W2.heap.size := Nat.le_trans hlo (unhide HB2).size
    clear k3 kf3
    go_wp2_with (at_mapUpdate; refine wpList_ptr_store _ (by rfl) _ _ _ (by rfl) om (N + 1) of (by rfl) (unhide HJ2).ofm (by unfold maxLen; omega) frm hwk (some (w1.heap.size + 1)) (by rfl) (by rfl) ?_; intro w3 hpm hgr)
    go_end0
    have HI3 := (unhide HJ2).putOf hpm hgr
    have hfi : brFind T.bs (T.parOf l) fn = T.bs.length := by
      have h1 := unhide HFD
      have h2 := brFind_le T.bs ((q : Int) - 1) fn
      rw [hq2.2] at h1 h2
      omega
    refine ⟨rfl, ⟨fun j => if j = T.bs.length + 1 then w1.heap.size + 1 else nb j, fun j => if j = T.bs.length + 1 then w1.heap.size else ni j, om, fun y => if y = frm then some (w1.heap.size + 1) else of y, .slice (some ⟨g2, 0, none⟩) (T.bs.length + 1) cp2, fun i => if i = T.bs.length then 0 else num i, ?_, fun x hx => ?_⟩, (unhide HB2).grown hgr h2s (fun k hk => by cases hk; exact hom), (unhide KP2).trans (KeepsM.of_grown hgr (fun b cs fr hb e => by obtain ⟨es, c, h2⟩ := (unhide HJ2).ofm.isMap; cases e; rw [h2] at hb; cases hb))⟩
    · have e : T.call (T.parOf l) fn frm = ⟨(T.bs ++ [(⟨fn, (q : Int) - 1, 0, 0⟩ : Br)]).modify T.bs.length Br.called, fun x => if x = frm then T.bs.length else T.br x⟩ := by
        unfold Tree.call brMake
        rw [hfi, if_neg (Nat.lt_irrefl _), hq2.2]
      rw [e]
      exact HI3
    · have e : (T.call (T.parOf l) fn frm).br x = if x = frm then T.bs.length else T.br x := by
        unfold Tree.call
        rw [hfi]
      rw [e]
      dsimp only
      by_cases ex : x = frm
      · rw [if_pos ex, if_pos ex, if_pos rfl]
      · rw [if_neg ex, if_neg ex]
        rcases hx with hx | hx
        · have hb := (unhide HHH).2.1 x hx
          rw [if_neg (by omega)]
          exact unhide HO x hx
        · exact absurd hx ex
end Go.Proofs.Ytoiacbdnkkolmab
