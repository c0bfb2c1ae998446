import Derived.Test.YtjhfdjdmiombpabE9
namespace Go.Proofs.Ytjhfdjdmiombpab
open Go.RowKit Go.Shelf

/-- An iterator that may write blocks of its own (those laid since it was called): for every body that keeps Kp, and for whatever is told by the blocks that lay before the call. -/
def SeqOwn {α : Type} (F : Fence) (n : Nat) (P : Program) (gf : Nat) (lb : Array Value) (encs : α → Array Value) (Kp : World → World → Prop) (S Sp : List α → Prop) (w : World) : Prop :=
  ∀ (l : Nat) (J Jx : List α → World → Prop) (W : World), Below w.heap.size w W → (∀ s A B, J s A → Below W.heap.size A B → J s B) → (∀ s A B, Jx s A → Below W.heap.size A B → Jx s B) →
    (∀ pre x A, J pre A → YieldAt F (n - 1) P l (encs x) A fun e B => (e = .returned (.bool true) ∧ J (pre ++ [x]) B ∧ Kp A B) ∨ (e = .returned (.bool false) ∧ Jx (pre ++ [x]) B)) →
    J [] W → CallsIn F n P gf (#[.func (.yield l) #[] #[]] ++ lb) W fun e B => (∃ v, e = .returned v) ∧ ((∃ xs, S xs ∧ J xs B) ∨ (∃ pre, Sp pre ∧ Jx pre B))

theorem below_put (w W : World) (l : Nat) (o : Obj) (hl : w.heap.size ≤ l) : Below w.heap.size W (W.putObj l o) :=
  ⟨rfl, rfl, rfl, by simp [World.putObj], fun k hk => World.putObj_heap_other (by omega)⟩

theorem keepsFrom_two {w W W' : World} {o1 o2 : Obj} (h : KeepsFrom w.heap.size W W') (h1 : W.heap[w.heap.size]? = some o1) (n1 : o1.isCells = false) (h2 : W.heap[w.heap.size + 1]? = some o2) (n2 : o2.isCells = false) : W'.heap[w.heap.size]? = some o1 ∧ W'.heap[w.heap.size + 1]? = some o2 :=
  ⟨h.same _ _ (Nat.le_refl _) h1 n1, h.same _ _ (by omega) h2 n2⟩

/-- A range over such an iterator, in no other. -/
theorem wpIn_range_own {α : Type} {F : Fence} {n : Nat} {P : Program} {g : Operand} {ps : Array Tmp} {assign body : Code} {Q : Exit → Act → World → Prop} {a : Act} {w : World}
    (hro : F.round = none) (h1 : 1 ≤ n) {gf : Nat} {lb : Array Value} (hg : a.eval g = .func (.func gf) #[] lb) (hFg : F.fn gf) (eg : ∀ args w, (callFunc gf args).run P w = .ok (.enter gf args) w)
    {encs : α → Array Value} {Kp : World → World → Prop} {S Sp : List α → Prop} (hseq : SeqOwn F (n - 1) P gf lb encs Kp S Sp w)
    (hKt : ∀ {A B C : World}, Kp A B → Kp B C → Kp A C) (hKb : ∀ (W : World) (l : Nat) (o o' : Obj), w.heap.size ≤ l → W.heap[l]? = some o → o.isCells = false → Kp W (W.putObj l o')) (hps : ∀ x, (encs x).size = ps.size)
    (I : List α → World → Prop) (Ix : Code → List α → World → Prop) (hI : ∀ s A B, I s A → Below w.heap.size A B → I s B) (hIx : ∀ c s A B, Ix c s A → Below w.heap.size A B → Ix c s B) (h0 : I [] w) (a₁ : α → Act)
    (hassign : ∀ (l : Nat) (x : α) (W : World) (K : Act → World → Prop), K (a₁ x) W → assign.wpIn (F.inRound l) (n - 1 - 1) P (Exit.then K (fun _ _ _ => False)) { tmps := (ps.zip (encs x)).foldl (fun t (p, v) => t.setIfInBounds p v) a.tmps, defers := [] } W)
    (hbody : ∀ (l : Nat) (pre : List α) (x : α) (W : World), I pre W → body.wpIn (F.inRound l) (n - 1 - 1) P (ownPostG w.heap.size Kp I Ix (pre ++ [x]) W) (a₁ x) W)
    (hdone : ∀ (xs : List α) (W : World), S xs → I xs W → W.heap[w.heap.size]? = some (.deferred (some [])) → Q .normal { a with defers := { target := .collected w.heap.size, args := #[] } :: a.defers } W)
    (hstop : ∀ (c : Code) (pre : List α) (W : World), Sp pre → Ix c pre W → W.heap[w.heap.size]? = some (.deferred (some [])) → c.wpIn F n P Q { a with defers := { target := .collected w.heap.size, args := #[] } :: a.defers } W) :
    (Code.rangeFunc g ps assign body).wpIn F n P Q a w := by
  refine wpIn_rangeFunc fun fn hfn => ?_
  rw [hro]
  obtain ⟨r, hr⟩ : ∃ r : LoopState → Option Code → Loop, r = fun st pe => { state := st, pending := pe, fn, tmps := a.tmps, params := ps, assign, body, defers := w.heap.size } := ⟨_, rfl⟩
  obtain ⟨W1, hW1⟩ : ∃ W1, W1 = (w.alloc (.deferred (some []))).alloc (.loop (r .ready none)) := ⟨_, rfl⟩
  have s1 : W1.heap.size = w.heap.size + 2 := by rw [hW1]; simp
  have b1 : Below w.heap.size w W1 := by rw [hW1]; exact ((Below.refl _ _).alloc (Nat.le_refl _) _).alloc (by simp) _
  have d1 : W1.heap[w.heap.size]? = some (.deferred (some [])) := by rw [hW1, Below.heap_alloc _ _ _ (by simp)]; exact World.alloc_heap_new w _
  have l1 : W1.heap[w.heap.size + 1]? = some (.loop (r .ready none)) := by
    rw [hW1]; have := World.alloc_heap_new (w.alloc (.deferred (some []))) (.loop (r .ready none)); rwa [World.size_alloc] at this
  refine ⟨w.heap.size + 1, [{ target := .collected w.heap.size, args := #[] }], W1, { target := .fn (.func gf) lb, args := #[.func (.yield (w.heap.size + 1)) #[] #[]] }, W1, gf, #[.func (.yield (w.heap.size + 1)) #[] #[]] ++ lb, W1, ?_, ?_, ?_, ?_, fun _ => h1, ?_⟩
  · rw [hW1, hr]; exact run_enterLoop_outer _ _ _ _ _
  · simp only [resolve, hg]
    simp [go_sem]
  · intro f' hf'; simp [Target.leads] at hf'; subst hf'; exact hFg
  · simp [invoke, go_sem, eg]
  have ab : ∀ {A B : World}, Below W1.heap.size A B → Below w.heap.size A B := fun h => h.mono (by omega)
  refine (hseq (w.heap.size + 1)
    (fun pre W => I pre W ∧ W.heap[w.heap.size]? = some (.deferred (some [])) ∧ W.heap[w.heap.size + 1]? = some (.loop (r .ready none)))
    (fun pre W => ∃ c, Ix c pre W ∧ W.heap[w.heap.size]? = some (.deferred (some [])) ∧ W.heap[w.heap.size + 1]? = some (.loop (r .done (some c)))) W1 b1
    (fun s A B ⟨h, hd, hl⟩ hb => ⟨hI s A B h (ab hb), (hb.block _ (by omega)).trans hd, (hb.block _ (by omega)).trans hl⟩)
    (fun s A B ⟨c, h, hd, hl⟩ hb => ⟨c, hIx c s A B h (ab hb), (hb.block _ (by omega)).trans hd, (hb.block _ (by omega)).trans hl⟩)
    ?_ ⟨hI _ _ _ h0 b1, d1, l1⟩).mono ?_
  · rintro pre x A ⟨hi, hd, hl⟩
    have hy := run_yield (P := P) (args := encs x) hl (by rw [hr]; exact hps x)
    rw [hr] at hy
    refine ⟨fn, _, assign, body, hy, roundIn_of_wpIn hfn (hassign _ x A _ ?_)⟩
    clear hy
    have lA : w.heap.size + 1 < A.heap.size := (Array.getElem?_eq_some_iff.1 hl).1
    refine ⟨_, run_beginRound hl (by rw [hr]), ?_⟩
    obtain ⟨ob, hob⟩ : ∃ ob, ob = Obj.loop { r .ready none with state := .busy } := ⟨_, rfl⟩
    rw [← hob]
    have nb : ob.isCells = false := by rw [hob]; rfl
    have l2 : (A.putObj (w.heap.size + 1) ob).heap[w.heap.size + 1]? = some ob := World.putObj_heap_same lA
    have d2 : (A.putObj (w.heap.size + 1) ob).heap[w.heap.size]? = some (.deferred (some [])) := (World.putObj_heap_other (by omega)).trans hd
    have k2 : Kp A (A.putObj (w.heap.size + 1) ob) := hKb _ _ _ _ (by omega) hl rfl
    refine wpIn_mono (hbody _ pre x _ (hI _ _ _ hi (below_put w A _ ob (by omega)))) ?_
    have fin : ∀ (jump : Option Code) (B : World), KeepsFrom w.heap.size (A.putObj (w.heap.size + 1) ob) B → ∃ o', (Instr.endRound (w.heap.size + 1) jump).run P B = .ok (.bool jump.isNone) (B.putObj (w.heap.size + 1) o') ∧ o' = .loop (r (if jump.isNone then .ready else .done) jump) ∧ B.heap[w.heap.size + 1]? = some ob ∧ (B.putObj (w.heap.size + 1) o').heap[w.heap.size]? = some (.deferred (some [])) ∧ (B.putObj (w.heap.size + 1) o').heap[w.heap.size + 1]? = some o' := fun jump B hk => by
      obtain ⟨h3, h4⟩ := keepsFrom_two hk d2 rfl l2 nb
      have h5 := h4
      rw [hob] at h5
      have h6 := run_endRound (P := P) jump h5
      refine ⟨_, h6, by rw [hr], h4, (World.putObj_heap_other (by omega)).trans h3, World.putObj_heap_same ((Array.getElem?_eq_some_iff.1 h4).1)⟩
    intro e a3 B hp
    cases e with
    | normal =>
      obtain ⟨hk, hkp, hi3⟩ := hp
      obtain ⟨o', q1, rfl, q2, q3, q4⟩ := fin none B hk
      exact ⟨_, _, q1, .inl ⟨rfl, ⟨hI _ _ _ hi3 (below_put w B _ _ (by omega)), q3, q4⟩, hKt (hKt k2 hkp) (hKb _ _ _ _ (by omega) q2 nb)⟩⟩
    | ret =>
      obtain ⟨hk, hi3⟩ := hp
      obtain ⟨o', q1, rfl, q2, q3, q4⟩ := fin (some .ret) B hk
      exact ⟨_, _, q1, .inr ⟨rfl, _, hIx _ _ _ _ hi3 (below_put w B _ _ (by omega)), q3, q4⟩⟩
    | exit id =>
      obtain ⟨hk, hi3⟩ := hp
      obtain ⟨o', q1, rfl, q2, q3, q4⟩ := fin (some (.exit id)) B hk
      exact ⟨_, _, q1, .inr ⟨rfl, _, hIx _ _ _ _ hi3 (below_put w B _ _ (by omega)), q3, q4⟩⟩
    | goto t =>
      obtain ⟨hk, hi3⟩ := hp
      obtain ⟨o', q1, rfl, q2, q3, q4⟩ := fin (some (.goto t)) B hk
      exact ⟨_, _, q1, .inr ⟨rfl, _, hIx _ _ _ _ hi3 (below_put w B _ _ (by omega)), q3, q4⟩⟩
    | panic ch => exact hp.elim
    | outgrown => exact hp.elim
  · rintro e B ⟨⟨v, rfl⟩, (⟨xs, hS, hi, hd, hl⟩ | ⟨pre, hSp, c, hi, hd, hl⟩)⟩
    · have q := run_endLoop (P := P) hl (by rw [hr]; simp)
      refine ⟨_, _, q, ?_⟩
      rw [hr]
      exact hdone xs _ hS (hI _ _ _ hi (below_put w B _ _ (by omega))) ((World.putObj_heap_other (by omega)).trans hd)
    · have q := run_endLoop (P := P) hl (by rw [hr]; simp)
      refine ⟨_, _, q, ?_⟩
      rw [hr]
      exact hstop c pre _ hSp (hIx _ _ _ _ hi (below_put w B _ _ (by omega))) ((World.putObj_heap_other (by omega)).trans hd)
end Go.Proofs.Ytjhfdjdmiombpab
