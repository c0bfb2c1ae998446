import Derived.Test.YtoiacbdnkkolmaaD6
namespace Go.Proofs.Ytoiacbdnkkolmaa
open Go.RowKit

theorem TrMem.c1 {w0 : World} {K pc len N B2 ps : Nat} {wr : World} {c : Cu} {s : St} {ms : List Mo} {wv mv : Value} {ws : List Int} (h : TrMem w0 K pc len N B2 ps wr c s ms wv mv ws) : wr.cell? ⟨ps, 1, none⟩ = some (.int .i64 s.cur) := by
  obtain ⟨bt, V, hh⟩ := h.spec
  exact hh.c1

theorem TrMem.t1 {w0 : World} {K pc len N B2 ps : Nat} {wr : World} {c : Cu} {s : St} {ms : List Mo} {wv mv : Value} {ws : List Int} (h : TrMem w0 K pc len N B2 ps wr c s ms wv mv ws) : wr.cell? ⟨N + 2, 1, none⟩ = some mv := by
  rw [cell_of_row wr (N + 2) 1 _ _ _ h.tbx]; rfl

/-- The drawing's round begins. -/
structure TrRel (w0 : World) (K pc len N B2 ps n : Nat) (g : Nat) (wr : World) (c : Cu) (s : St) (ms : List Mo) (wv mv : Value) (ws : List Int) (nt t : Nat) : Prop where
  mem : TrMem w0 K pc len N B2 ps wr c s ms wv mv ws
  path : Path ms s
  okay : Okay s ms.length
  w9 : ∀ x, x ∈ ws → 0 ≤ x ∧ x < 9
  n1 : ws.length < nt
  n9 : nt ≤ 9
  msn : ms.length ≤ n
  t48 : t < 281474976710656
  tt : len ≤ c.at_ → itr t c.seed % 281474976710656 = 10
  att : c.at_ + t ≤ len + 12 + (ms.length + 1) * 281474976710680
  gg : g = (n - ms.length) * 1180591620717411303424 + (len - c.at_) * 562949953421312 + t

/-- Where the drawing's loop begins. -/
theorem TrMem.start {K pc len ps : Nat} {c : Cu} {w w1 : World} (h : Cur K w pc len c) (hK : K ≤ w.heap.size)
    (hs : SpecAt (w.heap.size + 3) w1 ps St.init)
    (hb : Below (w.heap.size + 3) (((w.alloc (.cells #[.slice none 0 0, .slice none 0 0] 26)).alloc (.cells fnCells 9)).alloc (.cells #[.slice (some ⟨w.heap.size + 1, 0, none⟩) 4 4, .slice none 0 0] 26)) w1) :
    TrMem w K pc len w.heap.size w1.heap.size ps (w1.alloc (.cells #[] 3)) c St.init [] (.slice (some ⟨w1.heap.size, 0, none⟩) 0 0) (.slice none 0 0) [] := by
  have b3 : Below w.heap.size w (((w.alloc (.cells #[.slice none 0 0, .slice none 0 0] 26)).alloc (.cells fnCells 9)).alloc (.cells #[.slice (some ⟨w.heap.size + 1, 0, none⟩) 4 4, .slice none 0 0] 26)) :=
    (((Below.refl _ _).alloc (Nat.le_refl _) _).alloc (by simp) _).alloc (by simp; omega) _
  have b1 : Below w.heap.size w w1 := b3.trans (hb.mono (by omega))
  have sz : w.heap.size + 3 ≤ w1.heap.size := by have := hb.size; simpa using this
  have bl := below_new w1 (.cells #[] 3)
  have b2 : Below w.heap.size w (w1.alloc (.cells #[] 3)) := b1.trans (bl.mono (by omega))
  have hp : ps < w1.heap.size := by obtain ⟨bt, V, hh⟩ := hs; exact cell_lt hh.c0
  have e0 : ∀ b, b < w.heap.size + 3 → (w1.alloc (.cells #[] 3)).heap[b]? = (((w.alloc (.cells #[.slice none 0 0, .slice none 0 0] 26)).alloc (.cells fnCells 9)).alloc (.cells #[.slice (some ⟨w.heap.size + 1, 0, none⟩) 4 4, .slice none 0 0] 26)).heap[b]? := fun b hb' => by
    rw [bl.block b (by omega), hb.block b hb']
  refine ⟨h.below (b2.mono hK), hK, rfl, hs.below bl, hp, sz, by simp, ?_, ?_, ?_, ⟨World.ownsRow_nil _ _ _ _, fun x hx => by cases hx⟩, ⟨rfl, .inr ⟨w1.heap.size, 0, #[], rfl, Nat.le_refl _, ?_, Nat.le_refl _, by unfold maxLen; omega, rfl, rfl⟩⟩, Betw.of_below _ _ b2⟩
  · rw [e0 _ (by omega), Below.heap_alloc _ _ _ (by simp <;> omega), Below.heap_alloc _ _ _ (by simp <;> omega)]
    exact heap_alloc_new w _
  · rw [e0 _ (by omega), Below.heap_alloc _ _ _ (by simp <;> omega)]
    have := heap_alloc_new (w.alloc (.cells #[.slice none 0 0, .slice none 0 0] 26)) (.cells fnCells 9)
    simpa using this
  · rw [e0 _ (by omega)]
    have := heap_alloc_new ((w.alloc (.cells #[.slice none 0 0, .slice none 0 0] 26)).alloc (.cells fnCells 9)) (.cells #[.slice (some ⟨w.heap.size + 1, 0, none⟩) 4 4, .slice none 0 0] 26)
    simpa using this
  · exact heap_alloc_new w1 _

/-- A round that keeps no moment: a leaving that may not be. -/
theorem TrRel.again {w0 : World} {K pc len N B2 ps n g : Nat} {wr w' : World} {c c' : Cu} {s : St} {ms : List Mo} {wv mv : Value} {ws : List Int} {nt t d x : Nat} (h : TrRel w0 K pc len N B2 ps n g wr c s ms wv mv ws nt t) (hm : TrMem w0 K pc len N B2 ps w' c' s ms wv mv ws)
    (h1 : 1 ≤ d) (h9 : d ≤ 9) (hd : Draws len d c c') (hx : len ≤ c.at_ → x = c'.seed / 1099511627776 % 256) (h8 : x % 14 = 8 ∨ x % 14 = 9) : ∃ g' t', g' < g ∧ TrRel w0 K pc len N B2 ps n g' w' c' s ms wv mv ws nt t' := by
  have ha := hd.at1
  have ht := h.t48
  have hatt := h.att
  have hgg := h.gg
  by_cases hl : len ≤ c.at_
  · have hz := hd.far hl
    have hle := far_draw t d c.seed c'.seed x (h.tt hl) hz (hx hl) (by omega) h8
    refine ⟨_, t - d, ?_, hm, h.path, h.okay, h.w9, h.n1, h.n9, h.msn, by omega, fun _ => seed_less t d c.seed c'.seed (h.tt hl) hz hle, by omega, rfl⟩
    rw [hgg]; omega
  · obtain ⟨t', ht', e'⟩ := seed_ahead c'.seed
    refine ⟨_, t', ?_, hm, h.path, h.okay, h.w9, h.n1, h.n9, h.msn, ht', fun _ => e', by omega, rfl⟩
    rw [hgg]; omega

/-- A round that keeps a moment. -/
theorem TrRel.next {w0 : World} {K pc len N B2 ps n g : Nat} {wr w' : World} {c c' : Cu} {s s' : St} {ms : List Mo} {x : Mo} {wv mv wv' mv' : Value} {ws ws' : List Int} {nt nt' t : Nat} (h : TrRel w0 K pc len N B2 ps n g wr c s ms wv mv ws nt t) (hm : TrMem w0 K pc len N B2 ps w' c' s' (ms ++ [x]) wv' mv' ws')
    (hl : ms.length < n) (hp : Path (ms ++ [x]) s') (ho : Okay s' (ms.length + 1)) (h9 : ∀ x, x ∈ ws' → 0 ≤ x ∧ x < 9) (n1 : ws'.length < nt') (n9 : nt' ≤ 9) (hc1 : c.at_ ≤ c'.at_) (hc2 : c'.at_ ≤ c.at_ + 12) : ∃ g' t', g' < g ∧ TrRel w0 K pc len N B2 ps n g' w' c' s' (ms ++ [x]) wv' mv' ws' nt' t' := by
  have hatt := h.att
  have hgg := h.gg
  have el : (ms ++ [x]).length = ms.length + 1 := by simp
  obtain ⟨t', ht', e'⟩ := seed_ahead c'.seed
  refine ⟨_, t', ?_, hm, hp, by rw [el]; exact ho, h9, n1, n9, by rw [el]; omega, ht', fun _ => e', by rw [el]; omega, rfl⟩
  rw [hgg, el]; omega

theorem drawn_sizes {n : Nat} (hn : n < 90) : SizesOk 4 drawnFns n := by
  refine ⟨by decide, by decide, by omega, fun i hi => ?_⟩
  rcases (show i = 0 ∨ i = 1 ∨ i = 2 ∨ i = 3 by omega) with rfl | rfl | rfl | rfl
  all_goals decide

/-- What is drawn. -/
theorem TrRel.drawn {w0 : World} {K pc len N B2 ps n g : Nat} {wr : World} {c : Cu} {s : St} {ms : List Mo} {wv mv : Value} {ws : List Int} {nt t : Nat} (h : TrRel w0 K pc len N B2 ps n g wr c s ms wv mv ws nt t) (hl : ms.length = n) (hn : n < 90) :
    StrsAt (N + 1) wr (.slice (some ⟨N + 1, 0, none⟩) 4 4) 4 drawnFns ∧ MomsAt (N + 1) wr mv n (momOf ms) ∧ Sound 4 drawnFns n (momOf ms) := by
  have hb := h.mem.nb
  obtain ⟨_, hs⟩ := h.path.sound
  refine ⟨⟨some ⟨N + 1, 0, none⟩, 4, rfl, by unfold maxLen; omega, fun i hi => ⟨N + 1, 0, rfl, ?_, ?_, Nat.le_refl _, fun _ => ?_⟩⟩, ?_, drawn_sizes hn, fun j hj => (hs j (by omega)).1, fun j hj => (hs j (by omega)).2⟩
  · rw [Nat.zero_add, cell_of_row wr (N + 1) i _ _ _ h.mem.fnx]
    rcases (show i = 0 ∨ i = 1 ∨ i = 2 ∨ i = 3 by omega) with rfl | rfl | rfl | rfl
    all_goals rfl
  · have := (drawn_sizes hn).2.2.2 i hi
    unfold maxLen; omega
  · rw [Nat.zero_add]
    simp [World.frozen?, h.mem.fnx]
  · have := h.mem.mom.momsAt (by omega)
    rw [hl] at this
    exact this.low (by omega)
end Go.Proofs.Ytoiacbdnkkolmaa
