import Derived.Test.YtoiacbdnkkolmaaD7
namespace Go.Proofs.Ytoiacbdnkkolmaa
open Go.RowKit

theorem SpecAt.but {B mb : Nat} {w w' : World} {ps : Nat} {s : St} {cs : Array Value} {e0 : TypeId} {fr : Nat × Nat} (h : SpecAt B w ps s) (hb : ∀ b, b ≠ mb → w'.heap[b]? = w.heap[b]?) (hp : ps ≠ mb) (hm : w.heap[mb]? = some (.cells cs e0 fr)) (h1 : e0 ≠ 48) (h2 : e0 ≠ 45) : SpecAt B w' ps s := by
  obtain ⟨bt, V, h⟩ := h
  have hps : w'.heap[ps]? = w.heap[ps]? := hb ps hp
  obtain ⟨cb, hcb, hsz, hfn⟩ := h.row
  have hbt : w'.heap[bt]? = w.heap[bt]? := hb bt (fun e => by
    rw [e, hm] at hcb; cases hcb; exact h2 rfl)
  refine ⟨bt, V, h.hp, h.hbt, h.ne, ?_, ?_, ?_, h.row.of_block hbt, fun t ht => ?_, h.nps, h.nbt, h.dis, h.cur, h.len⟩
  · rw [World.cell?_of_block hps]; exact h.c0
  · rw [World.cell?_of_block hps]; exact h.c1
  · rw [World.frozen?_of_block hps]; exact h.fz
  · obtain ⟨g1, g2⟩ := h.own t ht
    refine ⟨g1, ?_⟩
    rcases g2 with g2 | ⟨g, cap, cur, hv, hg, hh, r⟩
    · exact .inl g2
    · exact .inr ⟨g, cap, cur, hv, hg, by rw [hb g (fun e => by rw [e, hm] at hh; cases hh; exact h1 rfl)]; exact hh, r⟩

theorem owns_but {w : World} {B mb i : Nat} {e e0 : TypeId} {z : Nat} {v u : Value} {n : Nat} {xs : List Value} {cs : Array Value} {fr : Nat × Nat} (h : w.ownsRow B e z v n xs) (hm : w.heap[mb]? = some (.cells cs e0 fr)) (hne : e ≠ e0) : (w.setCell ⟨mb, i, none⟩ u).ownsRow B e z v n xs := by
  refine owns_setCell h (fun e1 => ?_)
  obtain ⟨_, cs', fr', h1⟩ := owns_kind h mb e1
  rw [hm] at h1; cases h1; exact hne rfl

/-- The moment's box in a round of the drawing. -/
structure Bx (B2 mb : Nat) (W : World) (mv vv : Value) (l : List V) (k t fn ln : Int) (tx : ByteArray) : Prop where
  hB : B2 ≤ mb
  box : W.heap[mb]? = some (.cells #[.int .i64 k, .int .i64 t, .int .i64 fn, .int .i64 ln, .string tx, vv] 30 (0, 0))
  far : mv.ownBlock ≠ some mb
  vars : OwnV B2 W vv l
  l3 : l.length ≤ 3
  tx1 : tx.size ≤ 1

theorem TrMem.setBox {w0 : World} {K pc len N B2 ps mb i : Nat} {wr : World} {c : Cu} {s : St} {ms : List Mo} {wv mv vv u : Value} {ws : List Int} {l : List V} {k t fn ln : Int} {tx : ByteArray} (h : TrMem w0 K pc len N B2 ps wr c s ms wv mv ws) (hx : Bx B2 mb wr mv vv l k t fn ln tx) :
    TrMem w0 K pc len N B2 ps (wr.setCell ⟨mb, i, none⟩ u) c s ms wv mv ws := by
  have hn := h.nb
  have hk := h.kn
  have hw := h.w0N
  have hB := hx.hB
  have hp := h.psB
  have hb : Below B2 wr (wr.setCell ⟨mb, i, none⟩ u) := (Below.refl _ _).setCell (p := ⟨mb, i, none⟩) hx.hB _
  exact ⟨h.cur.below (hb.mono (by omega)), h.kn, h.w0N, h.spec.but (mb := mb) (fun b e => Below.heap_setCell _ _ _ _ e) (by omega) hx.box (by decide) (by decide), h.psB, h.nb, Nat.le_trans h.bB hb.size, by rw [hb.block _ (by omega)]; exact h.rbx, by rw [hb.block _ (by omega)]; exact h.fnx, by rw [hb.block _ (by omega)]; exact h.tbx,
    ⟨owns_setCell h.mom.row hx.far, fun x hx' => ⟨⟨owns_but (h.mom.vars x hx').1.1 hx.box (by decide), (h.mom.vars x hx').1.2⟩, (h.mom.vars x hx').2⟩⟩, owns_but h.wai hx.box (by decide), h.betw.onw (hb.mono (by omega))⟩

theorem Bx.draw {B2 mb pc : Nat} {W W' : World} {mv vv : Value} {l : List V} {k t fn ln : Int} {tx : ByteArray} (h : Bx B2 mb W mv vv l k t fn ln tx) (hb : Betw pc (pc + 1) W W') (hp : pc < B2) : Bx B2 mb W' mv vv l k t fn ln tx :=
  ⟨h.hB, by have := h.hB; rw [hb.block mb (heap_lt h.box) (.inr (by omega))]; exact h.box, h.far, h.vars.betw hb hp, h.l3, h.tx1⟩

theorem Bx.below {B2 mb : Nat} {W W' : World} {mv vv : Value} {l : List V} {k t fn ln : Int} {tx : ByteArray} (h : Bx B2 mb W mv vv l k t fn ln tx) (hb : Below W.heap.size W W') : Bx B2 mb W' mv vv l k t fn ln tx :=
  ⟨h.hB, by rw [hb.block mb (heap_lt h.box)]; exact h.box, h.far, ⟨owns_below h.vars.1 hb, h.vars.2⟩, h.l3, h.tx1⟩

theorem Bx.kind {B2 mb : Nat} {W : World} {mv vv : Value} {l : List V} {k t fn ln : Int} {tx : ByteArray} (h : Bx B2 mb W mv vv l k t fn ln tx) (x : Int) : Bx B2 mb (W.setCell ⟨mb, 0, none⟩ (.int .i64 x)) mv vv l x t fn ln tx :=
  ⟨h.hB, by simp [World.setCell, Array.getElem?_modify, h.box], h.far, ⟨owns_but h.vars.1 h.box (by decide), h.vars.2⟩, h.l3, h.tx1⟩

theorem Bx.task {B2 mb : Nat} {W : World} {mv vv : Value} {l : List V} {k t fn ln : Int} {tx : ByteArray} (h : Bx B2 mb W mv vv l k t fn ln tx) (x : Int) : Bx B2 mb (W.setCell ⟨mb, 1, none⟩ (.int .i64 x)) mv vv l k x fn ln tx :=
  ⟨h.hB, by simp [World.setCell, Array.getElem?_modify, h.box], h.far, ⟨owns_but h.vars.1 h.box (by decide), h.vars.2⟩, h.l3, h.tx1⟩

theorem Bx.fn {B2 mb : Nat} {W : World} {mv vv : Value} {l : List V} {k t fn ln : Int} {tx : ByteArray} (h : Bx B2 mb W mv vv l k t fn ln tx) (x : Int) : Bx B2 mb (W.setCell ⟨mb, 2, none⟩ (.int .i64 x)) mv vv l k t x ln tx :=
  ⟨h.hB, by simp [World.setCell, Array.getElem?_modify, h.box], h.far, ⟨owns_but h.vars.1 h.box (by decide), h.vars.2⟩, h.l3, h.tx1⟩

theorem Bx.line {B2 mb : Nat} {W : World} {mv vv : Value} {l : List V} {k t fn ln : Int} {tx : ByteArray} (h : Bx B2 mb W mv vv l k t fn ln tx) (x : Int) : Bx B2 mb (W.setCell ⟨mb, 3, none⟩ (.int .i64 x)) mv vv l k t fn x tx :=
  ⟨h.hB, by simp [World.setCell, Array.getElem?_modify, h.box], h.far, ⟨owns_but h.vars.1 h.box (by decide), h.vars.2⟩, h.l3, h.tx1⟩

theorem Bx.text {B2 mb : Nat} {W : World} {mv vv : Value} {l : List V} {k t fn ln : Int} {tx : ByteArray} (h : Bx B2 mb W mv vv l k t fn ln tx) (x : ByteArray) (hx : x.size ≤ 1) : Bx B2 mb (W.setCell ⟨mb, 4, none⟩ (.string x)) mv vv l k t fn ln x :=
  ⟨h.hB, by simp [World.setCell, Array.getElem?_modify, h.box], h.far, ⟨owns_but h.vars.1 h.box (by decide), h.vars.2⟩, h.l3, hx⟩

/-- Behind an append to the tasks that wait. -/
theorem Bx.waits {B2 mb : Nat} {W W' : World} {mv vv wv : Value} {l : List V} {k t fn ln : Int} {tx : ByteArray} {n : Nat} {xs : List Value} (h : Bx B2 mb W mv vv l k t fn ln tx) (hw : W.ownsRow B2 3 1 wv n xs) (hg : W.grownBy W' wv.ownBlock) : Bx B2 mb W' mv vv l k t fn ln tx := by
  have hr := owns_kind hw
  refine ⟨h.hB, ?_, h.far, ⟨owns_apart h.vars.1 hg (fun g e => (hr g e).2) (by decide), h.vars.2⟩, h.l3, h.tx1⟩
  rw [hg.block mb (heap_lt h.box) (fun er => ?_)]
  · exact h.box
  · obtain ⟨_, cs, fr, e1⟩ := hr mb er.symm
    rw [h.box] at e1; cases e1

theorem itr_mod64 (t s : Nat) : itr t (s % 18446744073709551616) % 18446744073709551616 = itr t s % 18446744073709551616 := by
  induction t generalizing s with
  | zero => simp [itr]
  | succ t ih =>
    simp only [itr]
    rw [← ih (lcg (s % 18446744073709551616)), ← ih (lcg s)]
    have e : lcg (s % 18446744073709551616) % 18446744073709551616 = lcg s % 18446744073709551616 := by
      unfold lcg
      rw [Nat.add_mod, Nat.mul_mod, Nat.mod_mod, ← Nat.mul_mod, ← Nat.add_mod]
    rw [e]

theorem Draws.trans {len d e : Nat} {c c1 c2 : Cu} (h : Draws len d c c1) (k : Draws len e c1 c2) : Draws len (d + e) c c2 := by
  refine ⟨by rw [k.at1, h.at1]; omega, fun hf => ?_⟩
  rw [k.far (by rw [h.at1]; omega), ← itr_mod64, h.far hf, itr_mod64, itr_add]

theorem OwnV.low {B B' : Nat} {w : World} {v : Value} {l : List V} (h : OwnV B w v l) (hB : B' ≤ B) : OwnV B' w v l := by
  refine ⟨⟨h.1.1, ?_⟩, h.2⟩
  rcases h.1.2 with hn | ⟨g, cap, cur, hv, hb, rest⟩
  · exact .inl hn
  · exact .inr ⟨g, cap, cur, hv, by omega, rest⟩

theorem OwnV.below {B : Nat} {w w' : World} {v : Value} {l : List V} (h : OwnV B w v l) (hb : Below w.heap.size w w') : OwnV B w' v l := ⟨owns_below h.1 hb, h.2⟩

/-- The moment's box, just made. -/
structure ZBox (S0 mb : Nat) (W : World) : Prop where
  hS : S0 ≤ mb
  box : W.heap[mb]? = some (.cells #[.int .i64 0, .int .i64 0, .int .i64 0, .int .i64 0, .string ByteArray.empty, .slice none 0 0] 30 (0, 0))

theorem ZBox.new {S0 : Nat} {W : World} (h : S0 ≤ W.heap.size) : ZBox S0 W.heap.size (W.alloc (.cells #[.int .i64 0, .int .i64 0, .int .i64 0, .int .i64 0, .string ByteArray.empty, .slice none 0 0] 30)) :=
  ⟨h, heap_alloc_new W _⟩

theorem ZBox.below {S0 mb : Nat} {W W' : World} (h : ZBox S0 mb W) (hb : Below W.heap.size W W') : ZBox S0 mb W' :=
  ⟨h.hS, by rw [hb.block mb (heap_lt h.box)]; exact h.box⟩

theorem ZBox.draw {S0 mb pc : Nat} {W W' : World} (h : ZBox S0 mb W) (hb : Betw pc (pc + 1) W W') (hp : pc < S0) : ZBox S0 mb W' :=
  ⟨h.hS, by have := h.hS; rw [hb.block mb (heap_lt h.box) (.inr (by omega))]; exact h.box⟩

theorem TrMem.zbox {w0 : World} {K pc len N B2 ps S0 : Nat} {wr : World} {c : Cu} {s : St} {ms : List Mo} {wv mv : Value} {ws : List Int} (_ : TrMem w0 K pc len N B2 ps wr c s ms wv mv ws) (hS : S0 ≤ wr.heap.size) :
    ZBox S0 wr.heap.size (wr.alloc (.cells #[.int .i64 0, .int .i64 0, .int .i64 0, .int .i64 0, .string ByteArray.empty, .slice none 0 0] 30)) := ZBox.new hS

theorem TrMem.bnew {w0 : World} {K pc len N B2 ps : Nat} {wr : World} {c : Cu} {s : St} {ms : List Mo} {wv mv : Value} {ws : List Int} (_ : TrMem w0 K pc len N B2 ps wr c s ms wv mv ws) :
    Below wr.heap.size wr (wr.alloc (.cells #[.int .i64 0, .int .i64 0, .int .i64 0, .int .i64 0, .string ByteArray.empty, .slice none 0 0] 30)) := below_new _ _

theorem ZBox.cells {S0 mb : Nat} {W : World} (h : ZBox S0 mb W) : W.cell? ⟨mb, 0, none⟩ = some (.int .i64 0) ∧ W.cell? ⟨mb, 1, none⟩ = some (.int .i64 0) ∧ W.cell? ⟨mb, 2, none⟩ = some (.int .i64 0) ∧ W.cell? ⟨mb, 3, none⟩ = some (.int .i64 0) ∧ W.cell? ⟨mb, 4, none⟩ = some (.string ByteArray.empty) ∧ W.cell? ⟨mb, 5, none⟩ = some (.slice none 0 0) := by
  refine ⟨?_, ?_, ?_, ?_, ?_, ?_⟩
  all_goals (rw [cell_of_row W mb _ _ _ _ h.box]; rfl)

theorem ZBox.fz {S0 mb : Nat} {W : World} (h : ZBox S0 mb W) : W.frozen? ⟨mb, 0, none⟩ = false ∧ W.frozen? ⟨mb, 1, none⟩ = false ∧ W.frozen? ⟨mb, 2, none⟩ = false ∧ W.frozen? ⟨mb, 3, none⟩ = false ∧ W.frozen? ⟨mb, 4, none⟩ = false ∧ W.frozen? ⟨mb, 5, none⟩ = false := by
  refine ⟨?_, ?_, ?_, ?_, ?_, ?_⟩
  all_goals simp [World.frozen?, h.box]

theorem TrMem.setAt {w0 : World} {K pc len N B2 ps mb i : Nat} {wr : World} {c : Cu} {s : St} {ms : List Mo} {wv mv u : Value} {ws : List Int} {cs : Array Value} {fr : Nat × Nat} (h : TrMem w0 K pc len N B2 ps wr c s ms wv mv ws) (hB : B2 ≤ mb) (hbx : wr.heap[mb]? = some (.cells cs 30 fr)) (hfar : mv.ownBlock ≠ some mb) :
    TrMem w0 K pc len N B2 ps (wr.setCell ⟨mb, i, none⟩ u) c s ms wv mv ws ∧ ∃ cs', (wr.setCell ⟨mb, i, none⟩ u).heap[mb]? = some (.cells cs' 30 fr) := by
  have hn := h.nb
  have hk := h.kn
  have hw := h.w0N
  have hp := h.psB
  have hb : Below B2 wr (wr.setCell ⟨mb, i, none⟩ u) := (Below.refl _ _).setCell (p := ⟨mb, i, none⟩) hB _
  exact ⟨⟨h.cur.below (hb.mono (by omega)), h.kn, h.w0N, h.spec.but (mb := mb) (fun b e => Below.heap_setCell _ _ _ _ e) (by omega) hbx (by decide) (by decide), h.psB, h.nb, Nat.le_trans h.bB hb.size, by rw [hb.block _ (by omega)]; exact h.rbx, by rw [hb.block _ (by omega)]; exact h.fnx, by rw [hb.block _ (by omega)]; exact h.tbx,
    ⟨owns_setCell h.mom.row hfar, fun x hx' => ⟨⟨owns_but (h.mom.vars x hx').1.1 hbx (by decide), (h.mom.vars x hx').1.2⟩, (h.mom.vars x hx').2⟩⟩, owns_but h.wai hbx (by decide), h.betw.onw (hb.mono (by omega))⟩, ⟨cs.setIfInBounds i u, by simp [World.setCell, Array.getElem?_modify, hbx]⟩⟩

/-- The box is filled. -/
theorem TrMem.full {w0 : World} {K pc len N B2 ps S0 mb : Nat} {W : World} {c : Cu} {s : St} {ms : List Mo} {wv mv vv : Value} {ws : List Int} {l : List V} (h : TrMem w0 K pc len N B2 ps W c s ms wv mv ws) (hz : ZBox S0 mb W) (hB : B2 ≤ S0) (hfar : mv.ownBlock ≠ some mb) (hov : OwnV B2 W vv l) (hl : l.length ≤ 3) (t fn ln : Int) :
    TrMem w0 K pc len N B2 ps ((((((W.setCell ⟨mb, 0, none⟩ (.int .i64 0)).setCell ⟨mb, 1, none⟩ (.int .i64 t)).setCell ⟨mb, 2, none⟩ (.int .i64 fn)).setCell ⟨mb, 3, none⟩ (.int .i64 ln)).setCell ⟨mb, 4, none⟩ (.string ByteArray.empty)).setCell ⟨mb, 5, none⟩ vv) c s ms wv mv ws ∧
    Bx B2 mb ((((((W.setCell ⟨mb, 0, none⟩ (.int .i64 0)).setCell ⟨mb, 1, none⟩ (.int .i64 t)).setCell ⟨mb, 2, none⟩ (.int .i64 fn)).setCell ⟨mb, 3, none⟩ (.int .i64 ln)).setCell ⟨mb, 4, none⟩ (.string ByteArray.empty)).setCell ⟨mb, 5, none⟩ vv) mv vv l 0 t fn ln ByteArray.empty := by
  have hm : B2 ≤ mb := Nat.le_trans hB hz.hS
  obtain ⟨h1, c1, b1⟩ := h.setAt (i := 0) (u := .int .i64 0) hm hz.box hfar
  obtain ⟨h2, c2, b2⟩ := h1.setAt (i := 1) (u := .int .i64 t) hm b1 hfar
  obtain ⟨h3, c3, b3⟩ := h2.setAt (i := 2) (u := .int .i64 fn) hm b2 hfar
  obtain ⟨h4, c4, b4⟩ := h3.setAt (i := 3) (u := .int .i64 ln) hm b3 hfar
  obtain ⟨h5, c5, b5⟩ := h4.setAt (i := 4) (u := .string ByteArray.empty) hm b4 hfar
  obtain ⟨h6, c6, b6⟩ := h5.setAt (i := 5) (u := vv) hm b5 hfar
  refine ⟨h6, hm, ?_, hfar, ⟨?_, hov.2⟩, hl, by decide⟩
  · simp [World.setCell, Array.getElem?_modify, hz.box]
  · exact owns_but (owns_but (owns_but (owns_but (owns_but (owns_but hov.1 hz.box (by decide)) b1 (by decide)) b2 (by decide)) b3 (by decide)) b4 (by decide)) b5 (by decide)

/-- What a round of the drawing has drawn, ahead of what may be. -/
def Half (s : St) (k t fn l : Int) (q : Prop) : Prop :=
  0 ≤ l ∧ l ≤ 4 ∧ ((k = 7 ∧ 0 ≤ t ∧ t < 9 ∧ fn = 0) ∨ (t = s.cur ∧ ((k = 2 ∧ 0 ≤ fn ∧ fn < 4) ∨ (k = 1 ∧ fn = topFn (s.tasks s.cur) ∧ 1 ≤ l) ∨ (k = 3 ∧ fn = topFn (s.tasks s.cur) ∧ q) ∨ (4 ≤ k ∧ k ≤ 6 ∧ fn = topFn (s.tasks s.cur)))))

theorem Bx.cells {B2 mb : Nat} {W : World} {mv vv : Value} {l : List V} {k t fn ln : Int} {tx : ByteArray} (h : Bx B2 mb W mv vv l k t fn ln tx) : W.cell? ⟨mb, 0, none⟩ = some (.int .i64 k) ∧ W.cell? ⟨mb, 1, none⟩ = some (.int .i64 t) ∧ W.cell? ⟨mb, 2, none⟩ = some (.int .i64 fn) ∧ W.cell? ⟨mb, 3, none⟩ = some (.int .i64 ln) ∧ W.cell? ⟨mb, 4, none⟩ = some (.string tx) ∧ W.cell? ⟨mb, 5, none⟩ = some vv := by
  refine ⟨?_, ?_, ?_, ?_, ?_, ?_⟩
  all_goals (rw [cell_of_row W mb _ _ _ _ h.box]; rfl)

theorem Bx.fz {B2 mb : Nat} {W : World} {mv vv : Value} {l : List V} {k t fn ln : Int} {tx : ByteArray} (h : Bx B2 mb W mv vv l k t fn ln tx) : W.frozen? ⟨mb, 0, none⟩ = false ∧ W.frozen? ⟨mb, 1, none⟩ = false ∧ W.frozen? ⟨mb, 2, none⟩ = false ∧ W.frozen? ⟨mb, 3, none⟩ = false ∧ W.frozen? ⟨mb, 4, none⟩ = false := by
  refine ⟨?_, ?_, ?_, ?_, ?_⟩
  all_goals simp [World.frozen?, h.box]

theorem info_int : (Try.prog.info? 3).map (fun i => (i.zero, i.size, i.bytes)) = some (some (.int .i64 0), 1, 8) := by kernel_rfl

theorem owns_cap {w : World} {B : Nat} {e : TypeId} {z g n cap : Nat} {xs : List Value} (h : w.ownsRow B e z (.slice (some ⟨g, 0, none⟩) n cap) n xs) : n ≤ cap := by
  rcases h.2 with ⟨h, _⟩ | ⟨g', cap', cur, hv, -, -, h1, -⟩
  · cases h
  · cases hv; exact h1

theorem snoc_cases {α : Type} (l : List α) : l = [] ∨ ∃ r x, l = r ++ [x] := by
  by_cases h : l = []
  · exact .inl h
  · exact .inr ⟨l.dropLast, l.getLast h, (List.dropLast_concat_getLast h).symm⟩

/-- The last of the tasks that wait is taken away. -/
theorem TrMem.pop {w0 : World} {K pc len N B2 ps g cap : Nat} {wr : World} {c : Cu} {s : St} {ms : List Mo} {mv : Value} {ws : List Int} {x : Int} (h : TrMem w0 K pc len N B2 ps wr c s ms (.slice (some ⟨g, 0, none⟩) (ws.length + 1) cap) mv (ws ++ [x])) :
    TrMem w0 K pc len N B2 ps wr c s ms (.slice (some ⟨g, 0, none⟩) ws.length cap) mv ws := by
  have hw := h.wai
  rw [List.map_append, List.length_append] at hw
  exact ⟨h.cur, h.kn, h.w0N, h.spec, h.psB, h.nb, h.bB, h.rbx, h.fnx, h.tbx, h.mom, ownsRow_pop (by simp) hw, h.betw⟩

theorem Bx.keeps {B2 mb ps : Nat} {W W' : World} {mv vv : Value} {l : List V} {k t fn ln : Int} {tx : ByteArray} (h : Bx B2 mb W mv vv l k t fn ln tx) (hk : Keeps ps W W') (hp : ps < B2) : Bx B2 mb W' mv vv l k t fn ln tx :=
  ⟨h.hB, by have := h.hB; rw [hk mb _ _ _ h.box (by omega) (by decide) (by decide)]; exact h.box, h.far, h.vars.keeps hk hp, h.l3, h.tx1⟩

theorem Half.good {s : St} {k t fn l : Int} {q : Prop} (h : Half s k t fn l q) (h1 : k = 1 → (s.tasks s.cur).length ≠ 0) (h3 : k = 3 → 0 ≤ topFrom (s.tasks s.cur)) : Good s k t fn l := by
  obtain ⟨l1, l2, hk⟩ := h
  refine ⟨l1, l2, ?_⟩
  rcases hk with a | ⟨a, b | ⟨b, c, d⟩ | ⟨b, c, d⟩ | b⟩
  · exact .inl a
  · exact .inr ⟨a, .inl b⟩
  · exact .inr ⟨a, .inr (.inl ⟨b, c, h1 b, d⟩)⟩
  · exact .inr ⟨a, .inr (.inr (.inl ⟨b, c, h3 b⟩))⟩
  · exact .inr ⟨a, .inr (.inr (.inr b))⟩

theorem Half.leave {s : St} {t fn l : Int} {q : Prop} (h : Half s 3 t fn l q) : q := by
  obtain ⟨_, _, hk⟩ := h
  rcases hk with ⟨a, _⟩ | ⟨a, ⟨b, _⟩ | ⟨b, _⟩ | ⟨_, _, d⟩ | ⟨b, _⟩⟩
  · omega
  · omega
  · omega
  · exact d
  · omega

theorem Half.call {s : St} {t fn l : Int} {q : Prop} (h : Half s 1 t fn l q) : Half s 2 t 1 l q := by
  obtain ⟨l1, l2, hk⟩ := h
  rcases hk with ⟨a, _⟩ | ⟨a, _⟩
  · omega
  · exact ⟨l1, l2, .inr ⟨a, .inl ⟨rfl, by omega, by omega⟩⟩⟩

theorem Half.task {s : St} {k t fn l : Int} {q : Prop} (h : Half s k t fn l q) (h9 : s.cur < 9) : 0 ≤ t ∧ t < 9 := by
  obtain ⟨l1, l2, hk⟩ := h
  rcases hk with ⟨_, a, b, _⟩ | ⟨a, _⟩
  · exact ⟨a, b⟩
  · omega

/-- Behind the round's choice. -/
def Chosen (w0 : World) (K pc len B2 ps mb : Nat) (s : St) (ms : List Mo) (c : Cu) (wv mv : Value) (ws : List Int) (nt : Nat) (wv' nv' : Value) (W : World) : Prop :=
  ∃ (c' : Cu) (wa : Option Addr) (wcap : Nat) (ws' : List Int) (nt' : Nat) (vv : Value) (l : List V) (k t fn ln : Int) (tx : ByteArray),
    wv' = .slice wa ws'.length wcap ∧ nv' = .int .i64 nt' ∧ TrMem w0 K pc len w0.heap.size B2 ps W c' s ms wv' mv ws' ∧ Bx B2 mb W mv vv l k t fn ln tx ∧ (∀ x, x ∈ ws' → 0 ≤ x ∧ x < 9) ∧ ws'.length < nt' ∧ nt' ≤ 9 ∧ c.at_ ≤ c'.at_ ∧ c'.at_ ≤ c.at_ + 12 ∧
    Half s k t fn ln (wv' = wv ∧ ws' = ws ∧ nt' = nt ∧ ∃ d x, 1 ≤ d ∧ d ≤ 9 ∧ Draws len d c c' ∧ (len ≤ c.at_ → x = c'.seed / 1099511627776 % 256) ∧ (x % 14 = 8 ∨ x % 14 = 9))
end Go.Proofs.Ytoiacbdnkkolmaa
