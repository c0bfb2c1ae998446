import Derived.Test.YtoiacbdnkkolmaaD5
import Derived.Test.YtoiacbdnkkolmaaS10
namespace Go.Proofs.Ytoiacbdnkkolmaa
open Go.RowKit

theorem SpecCore.blocks {B : Nat} {w w' : World} {ps bt : Nat} {V : Nat → Value} {s : St} (h : SpecCore B w ps bt V s) (hb : ∀ b, B ≤ b → b < w.heap.size → w'.heap[b]? = w.heap[b]?) : SpecCore B w' ps bt V s := by
  have hps : w'.heap[ps]? = w.heap[ps]? := hb ps h.hp (cell_lt h.c0)
  have hbt : w'.heap[bt]? = w.heap[bt]? := hb bt h.hbt h.row.lt
  refine ⟨h.hp, h.hbt, h.ne, ?_, ?_, ?_, h.row.of_block hbt, fun t ht => ?_, h.nps, h.nbt, h.dis, h.cur, h.len⟩
  · rw [World.cell?_of_block hps]; exact h.c0
  · rw [World.cell?_of_block hps]; exact h.c1
  · rw [World.frozen?_of_block hps]; exact h.fz
  · obtain ⟨h1, h2⟩ := h.own t ht
    refine ⟨h1, ?_⟩
    rcases h2 with h2 | ⟨g, cap, cur, hv, hg, hh, r⟩
    · exact .inl h2
    · exact .inr ⟨g, cap, cur, hv, hg, by rw [hb g hg (Array.getElem?_eq_some_iff.1 hh).1]; exact hh, r⟩

theorem SpecAt.blocks {B : Nat} {w w' : World} {ps : Nat} {s : St} (h : SpecAt B w ps s) (hb : ∀ b, B ≤ b → b < w.heap.size → w'.heap[b]? = w.heap[b]?) : SpecAt B w' ps s := by
  obtain ⟨bt, V, h⟩ := h
  exact ⟨bt, V, h.blocks hb⟩

def drawnFns (i : Nat) : ByteArray := ([⟨#[109, 97, 105, 110]⟩, ⟨#[102]⟩, ⟨#[]⟩, ⟨#[103]⟩] : List ByteArray).getD i ByteArray.empty
def fnCells : Array Value := #[.string ⟨#[109, 97, 105, 110]⟩, .string ⟨#[102]⟩, .string ⟨#[]⟩, .string ⟨#[103]⟩]

/-- The drawing on its way, as it lies in memory: w0 the world at its beginning, N its size; B2 where its own rows begin; the result's box, the names, the trace's box stand at N, N + 1, N + 2. -/
structure TrMem (w0 : World) (K pc len N B2 ps : Nat) (wr : World) (c : Cu) (s : St) (ms : List Mo) (wv mv : Value) (ws : List Int) : Prop where
  cur : Cur K wr pc len c
  kn : K ≤ N
  w0N : w0.heap.size = N
  spec : SpecAt (N + 3) wr ps s
  psB : ps < B2
  nb : N + 3 ≤ B2
  bB : B2 ≤ wr.heap.size
  rbx : wr.heap[N]? = some (.cells #[.slice none 0 0, .slice none 0 0] 26 (0, 0))
  fnx : wr.heap[N + 1]? = some (.cells fnCells 9 (0, 0))
  tbx : wr.heap[N + 2]? = some (.cells #[.slice (some ⟨N + 1, 0, none⟩) 4 4, mv] 26 (0, 0))
  mom : OwnM B2 wr mv ms
  wai : wr.ownsRow B2 3 1 wv ws.length (ws.map (Value.int .i64))
  betw : Betw pc (pc + 1) w0 wr

theorem heap_lt {w : World} {b : Nat} {o : Obj} (h : w.heap[b]? = some o) : b < w.heap.size := (Array.getElem?_eq_some_iff.1 h).1

/-- Behind a draw. -/
theorem TrMem.draw {w0 : World} {K pc len N B2 ps : Nat} {wr w' : World} {c c' : Cu} {s : St} {ms : List Mo} {wv mv : Value} {ws : List Int} (h : TrMem w0 K pc len N B2 ps wr c s ms wv mv ws) (hb : Betw pc (pc + 1) wr w') (hc : Cur K w' pc len c') :
    TrMem w0 K pc len N B2 ps w' c' s ms wv mv ws := by
  have hp : pc < N := Nat.lt_of_lt_of_le h.cur.hk h.kn
  have hn := h.nb
  have hx : ∀ b, N ≤ b → b < wr.heap.size → w'.heap[b]? = wr.heap[b]? := fun b h1 h2 => hb.block b h2 (.inr (by omega))
  exact ⟨hc, h.kn, h.w0N, h.spec.blocks (fun b h1 h2 => hx b (by omega) h2), h.psB, h.nb, Nat.le_trans h.bB hb.size, by rw [hx _ (by omega) (heap_lt h.rbx)]; exact h.rbx, by rw [hx _ (by omega) (heap_lt h.fnx)]; exact h.fnx, by rw [hx _ (by omega) (heap_lt h.tbx)]; exact h.tbx,
    h.mom.betw hb (by omega), owns_betw h.wai hb (by omega), h.betw.trans hb⟩

/-- Behind new blocks and draws of order. -/
theorem TrMem.below {w0 : World} {K pc len N B2 ps : Nat} {wr w' : World} {c : Cu} {s : St} {ms : List Mo} {wv mv : Value} {ws : List Int} (h : TrMem w0 K pc len N B2 ps wr c s ms wv mv ws) (hb : Below wr.heap.size wr w') :
    TrMem w0 K pc len N B2 ps w' c s ms wv mv ws := by
  have hK : K ≤ wr.heap.size := by
    have := heap_lt h.rbx
    have := h.kn
    omega
  exact h.draw (Betw.of_below _ _ hb) (h.cur.below (hb.mono hK))

/-- Behind a move. -/
theorem TrMem.move {w0 : World} {K pc len N B2 ps : Nat} {wr w' : World} {c : Cu} {s s' : St} {ms : List Mo} {wv mv : Value} {ws : List Int} (h : TrMem w0 K pc len N B2 ps wr c s ms wv mv ws) (hs : SpecAt (N + 3) w' ps s') (hb : Below (N + 3) wr w') (hk : Keeps ps wr w') :
    TrMem w0 K pc len N B2 ps w' c s' ms wv mv ws := by
  have hn := h.kn
  have hw := h.w0N
  exact ⟨h.cur.below (hb.mono (by omega)), h.kn, h.w0N, hs, h.psB, h.nb, Nat.le_trans h.bB hb.size, by rw [hb.block _ (by omega)]; exact h.rbx, by rw [hb.block _ (by omega)]; exact h.fnx, by rw [hb.block _ (by omega)]; exact h.tbx,
    h.mom.keeps hk h.psB, owns_keeps h.wai hk h.psB (by decide) (by decide), h.betw.onw (hb.mono (by omega))⟩

theorem owns_apart {w w' : World} {B : Nat} {e e0 : TypeId} {z : Nat} {v : Value} {n : Nat} {xs : List Value} {row : Option Nat} (h : w.ownsRow B e z v n xs) (hg : w.grownBy w' row) (hr : ∀ g, row = some g → ∃ cs fr, w.heap[g]? = some (.cells cs e0 fr)) (hne : e ≠ e0) : w'.ownsRow B e z v n xs := by
  refine ⟨h.1, ?_⟩
  rcases h.2 with hn | ⟨g, cap, cur, hv, hB, hh, rest⟩
  · exact .inl hn
  · refine .inr ⟨g, cap, cur, hv, hB, ?_, rest⟩
    rw [hg.block g (heap_lt hh) (fun er => ?_)]
    · exact hh
    · obtain ⟨cs, fr, e1⟩ := hr g er.symm
      rw [hh] at e1
      cases e1
      exact hne rfl

theorem owns_kind {w : World} {B : Nat} {e : TypeId} {z : Nat} {v : Value} {n : Nat} {xs : List Value} (h : w.ownsRow B e z v n xs) : ∀ g, v.ownBlock = some g → B ≤ g ∧ ∃ cs fr, w.heap[g]? = some (.cells cs e fr) := by
  intro g hg
  rcases h.2 with ⟨e1, _⟩ | ⟨g', cap, cur, e1, hB, hh, _⟩
  · rw [e1] at hg; cases hg
  · rw [e1] at hg; cases hg; exact ⟨hB, cur, _, hh⟩

theorem SpecAt.apart {B B2 : Nat} {w w' : World} {ps : Nat} {s : St} {e0 : TypeId} {row : Option Nat} (h : SpecAt B w ps s) (hp : ps < B2) (hg : w.grownBy w' row) (hr : ∀ g, row = some g → B2 ≤ g ∧ ∃ cs fr, w.heap[g]? = some (.cells cs e0 fr)) (h1 : e0 ≠ 48) (h2 : e0 ≠ 45) : SpecAt B w' ps s := by
  obtain ⟨bt, V, h⟩ := h
  have hps : w'.heap[ps]? = w.heap[ps]? := hg.block ps (cell_lt h.c0) (fun e => by have := (hr ps e.symm).1; omega)
  obtain ⟨cb, hcb, hsz, hfn⟩ := h.row
  have hbt : w'.heap[bt]? = w.heap[bt]? := hg.block bt (heap_lt hcb) (fun e => by
    obtain ⟨cs, fr, e1⟩ := (hr bt e.symm).2
    rw [hcb] at e1; cases e1; exact h2 rfl)
  refine ⟨bt, V, h.hp, h.hbt, h.ne, ?_, ?_, ?_, h.row.of_block hbt, fun t ht => owns_apart (h.own t ht) hg (fun g e => (hr g e).2) (Ne.symm h1), h.nps, h.nbt, h.dis, h.cur, h.len⟩
  · rw [World.cell?_of_block hps]; exact h.c0
  · rw [World.cell?_of_block hps]; exact h.c1
  · rw [World.frozen?_of_block hps]; exact h.fz

/-- Behind an append to the tasks that wait. -/
theorem TrMem.waits {w0 : World} {K pc len N B2 ps : Nat} {wr w' : World} {c : Cu} {s : St} {ms : List Mo} {wv mv wv' : Value} {ws ws' : List Int} (h : TrMem w0 K pc len N B2 ps wr c s ms wv mv ws) (hg : wr.grownBy w' wv.ownBlock) (ho : w'.ownsRow B2 3 1 wv' ws'.length (ws'.map (Value.int .i64))) :
    TrMem w0 K pc len N B2 ps w' c s ms wv' mv ws' := by
  have hn := h.nb
  have hk := h.kn
  have hw := h.w0N
  have hB := h.bB
  have hr := owns_kind h.wai
  have hb : Below B2 wr w' := Below.grown (Below.refl _ _) hg h.bB (fun k e => (hr k e).1)
  refine ⟨h.cur.below (hb.mono (by omega)), h.kn, h.w0N, h.spec.apart h.psB hg hr (by decide) (by decide), h.psB, h.nb, Nat.le_trans h.bB hg.size, by rw [hb.block _ (by omega)]; exact h.rbx, by rw [hb.block _ (by omega)]; exact h.fnx, by rw [hb.block _ (by omega)]; exact h.tbx, ⟨?_, fun x hx => ⟨⟨?_, (h.mom.vars x hx).1.2⟩, (h.mom.vars x hx).2⟩⟩, ho, h.betw.onw (hb.mono (by omega))⟩
  · exact owns_apart h.mom.row hg (fun g e => (hr g e).2) (by decide)
  · exact owns_apart (h.mom.vars x hx).1.1 hg (fun g e => (hr g e).2) (by decide)

theorem setCells_two (a b u : Value) (t : TypeId) (w : World) (g : Nat) (h : w.heap[g]? = some (.cells #[a, b] t (0, 0))) : (w.setCell ⟨g, 1, none⟩ u).heap[g]? = some (.cells #[a, u] t (0, 0)) := by
  simp [World.setCell, Array.getElem?_modify, h]

/-- Behind an append to the moments, laid into the trace's box. -/
theorem TrMem.moms {w0 : World} {K pc len N B2 ps : Nat} {wr w' : World} {c : Cu} {s : St} {ms : List Mo} {wv mv mv' : Value} {ws : List Int} (x : Mo) (h : TrMem w0 K pc len N B2 ps wr c s ms wv mv ws) (hg : wr.grownBy w' mv.ownBlock) (ho : w'.ownsRow B2 30 6 mv' (ms ++ [x]).length (momCells (ms ++ [x])))
    (hv : OwnV B2 wr x.vv x.l) (hl : x.l.length ≤ 3) (ht : x.text.size ≤ 1) : TrMem w0 K pc len N B2 ps (w'.setCell ⟨N + 2, 1, none⟩ mv') c s (ms ++ [x]) wv mv' ws := by
  have hn := h.nb
  have hk := h.kn
  have hw := h.w0N
  have hB := h.bB
  have hr := owns_kind h.mom.row
  have hb : Below B2 wr w' := Below.grown (Below.refl _ _) hg h.bB (fun k e => (hr k e).1)
  have hb2 : Below (N + 2) wr (w'.setCell ⟨N + 2, 1, none⟩ mv') := (hb.mono (B' := N + 2) (by omega)).setCell (p := ⟨N + 2, 1, none⟩) (Nat.le_refl _) _
  have hs : ∀ b, b ≠ N + 2 → (w'.setCell ⟨N + 2, 1, none⟩ mv').heap[b]? = w'.heap[b]? := fun b e => Below.heap_setCell _ _ _ _ e
  have hx : ∀ {B : Nat} {e : TypeId} {z : Nat} {v : Value} {n : Nat} {xs : List Value}, w'.ownsRow B e z v n xs → N + 3 ≤ B → (w'.setCell ⟨N + 2, 1, none⟩ mv').ownsRow B e z v n xs := by
    intro B e z v n xs h1 h2
    refine ⟨h1.1, ?_⟩
    rcases h1.2 with hn | ⟨g, cap, cur, hv, hB, hh, rest⟩
    · exact .inl hn
    · exact .inr ⟨g, cap, cur, hv, hB, by rw [hs g (by omega)]; exact hh, rest⟩
  refine ⟨h.cur.below (hb2.mono (by omega)), h.kn, h.w0N, (h.spec.apart h.psB hg hr (by decide) (by decide)).blocks (fun b h1 _ => hs b (by omega)), h.psB, h.nb, Nat.le_trans h.bB hb2.size, ?_, ?_, ?_, ⟨hx ho h.nb, fun y hy => ?_⟩, ?_, h.betw.onw (hb2.mono (by omega))⟩
  · rw [hs _ (by omega), hb.block _ (by omega)]; exact h.rbx
  · rw [hs _ (by omega), hb.block _ (by omega)]; exact h.fnx
  · exact setCells_two _ _ _ _ _ _ (by rw [hb.block _ (by omega)]; exact h.tbx)
  · rcases List.mem_append.1 hy with hy | hy
    · exact ⟨⟨hx (owns_apart (h.mom.vars y hy).1.1 hg (fun g e => (hr g e).2) (by decide)) h.nb, (h.mom.vars y hy).1.2⟩, (h.mom.vars y hy).2⟩
    · rw [List.mem_singleton.1 hy]
      exact ⟨⟨hx (owns_apart hv.1 hg (fun g e => (hr g e).2) (by decide)) h.nb, hv.2⟩, hl, ht⟩
  · exact hx (owns_apart h.wai hg (fun g e => (hr g e).2) (by decide)) h.nb
end Go.Proofs.Ytoiacbdnkkolmaa
