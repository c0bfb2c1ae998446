import Derived.Test.YtjhfdjdmiombpabE11
namespace Go.Proofs.Ytjhfdjdmiombpab
open Go.RowKit

def stopCells (s : Sp) : Array Value := #[.int .i64 s.kind, .int .i64 s.fn, .int .i64 s.line, .string s.name]

/-- A function value that tells where a stop holds: mv: the moments. -/
def TestAt (W : World) (v mv : Value) (n : Nat) (f : Nat → M) (s : Sp) : Prop :=
  (s.kind = 1 ∧ ∃ mb sb, v = .func (.func 149) #[] #[.pointer (some ⟨mb, 0, none⟩), .pointer (some ⟨sb, 0, none⟩)] ∧ W.heap[mb]? = some (.cells #[mv] 29 (0, 0)) ∧ W.heap[sb]? = some (.cells (stopCells s) 50 (0, 0))) ∨
  (s.kind = 2 ∧ ∃ mb sb, v = .func (.func 150) #[] #[.pointer (some ⟨mb, 0, none⟩), .pointer (some ⟨sb, 0, none⟩)] ∧ W.heap[mb]? = some (.cells #[mv] 29 (0, 0)) ∧ W.heap[sb]? = some (.cells (stopCells s) 50 (0, 0))) ∨
  (s.kind = 3 ∧ ∃ ib b, v = .func (.func 186) #[] #[.pointer (some ⟨ib, 0, none⟩)] ∧ W.heap[ib]? = some (.cells #[.slice (some ⟨b, 0, none⟩) n n] 99 (0, 0)) ∧ Bools b W n (watchHit f s)) ∨
  (s.kind = 4 ∧ ∃ mb, v = .func (.func 152) #[] #[.pointer (some ⟨mb, 0, none⟩)] ∧ W.heap[mb]? = some (.cells #[mv] 29 (0, 0)))

/-- It stays while only blocks of tests turn. -/
theorem TestAt.grown {W W' : World} {v mv : Value} {n : Nat} {f : Nat → M} {s : Sp} (h : TestAt W v mv n f s) (hb : ∀ b, b < W.heap.size → (∀ cs fr, W.heap[b]? ≠ some (.cells cs 137 fr)) → W'.heap[b]? = W.heap[b]?) : TestAt W' v mv n f s := by
  have hk : ∀ {b : Nat} {cs : Array Value} {t : TypeId} {fr : Nat × Nat}, t ≠ 137 → W.heap[b]? = some (.cells cs t fr) → W'.heap[b]? = some (.cells cs t fr) := fun ht h => by
    rw [hb _ (heap_in h) (fun cs' fr' e => by rw [h] at e; cases e; exact ht rfl)]; exact h
  rcases h with ⟨e, mb, sb, h1, h2, h4⟩ | ⟨e, mb, sb, h1, h2, h4⟩ | ⟨e, ib, b, h1, h2, h3⟩ | ⟨e, mb, h1, h2⟩
  · exact .inl ⟨e, mb, sb, h1, hk (by decide) h2, hk (by decide) h4⟩
  · exact .inr (.inl ⟨e, mb, sb, h1, hk (by decide) h2, hk (by decide) h4⟩)
  · refine .inr (.inr (.inl ⟨e, ib, b, h1, hk (by decide) h2, ?_⟩))
    obtain ⟨⟨cs, h5⟩, h6⟩ := h3
    have h7 := hk (by decide) h5
    exact ⟨⟨cs, h7⟩, fun i hi => by rw [World.cell?_of_block (w := W) (w' := W') (a := ⟨b, i, none⟩) (by rw [h7, h5])]; exact h6 i hi⟩
  · exact .inr (.inr (.inr ⟨e, mb, h1, hk (by decide) h2⟩))

theorem TestAt.below {W W' : World} {v mv : Value} {n : Nat} {f : Nat → M} {s : Sp} (h : TestAt W v mv n f s) (hb : Below W.heap.size W W') : TestAt W' v mv n f s := h.grown (fun b hl _ => hb.block b hl)

theorem TestAt.form {W : World} {v mv : Value} {n : Nat} {f : Nat → M} {s : Sp} (h : TestAt W v mv n f s) : ∃ g lb, v = .func (.func g) #[] lb := by
  rcases h with ⟨e, mb, sb, h1, -⟩ | ⟨e, mb, sb, h1, -⟩ | ⟨e, ib, b, h1, -⟩ | ⟨e, mb, h1, -⟩
  all_goals exact ⟨_, _, h1⟩

theorem TestAt.one {W : World} {v mv : Value} {n : Nat} {f : Nat → M} {s : Sp} (h : TestAt W v mv n f s) : v.oneCell' = true := by
  rcases h with ⟨e, mb, sb, h1, -⟩ | ⟨e, mb, sb, h1, -⟩ | ⟨e, ib, b, h1, -⟩ | ⟨e, mb, h1, -⟩ <;> rw [h1] <;> rfl

set_option maxRecDepth 100000 in
set_option maxHeartbeats 2000000 in
theorem test1_any (lo mb sb : Nat) (mv : Value) (n : Nat) (f : Nat → M) (s : Sp) (k : Nat) (w : World) (hk : k < n) (hs : s.kind = 1) (h1 : w.heap[mb]? = some (.cells #[mv] 29 (0, 0))) (h2 : MomsAt lo w mv n f) (h3 : w.heap[sb]? = some (.cells (stopCells s) 50 (0, 0))) :
    Calls Try.prog 149 #[.int .i64 k, .pointer (some ⟨mb, 0, none⟩), .pointer (some ⟨sb, 0, none⟩)] w fun e w' => e = .returned (.bool (hit f s k)) ∧ Below w.heap.size w w' := by
  obtain ⟨a2, cap2, rfl, -, hv⟩ := h2
  obtain ⟨bm, om, vv, rfl, hc0, hc1, hc2, hc3, hc4, hc5, -, hvv, -⟩ := hv k hk
  obtain ⟨av, capv, rfl, -⟩ := hvv
  have c0 : w.cell? ⟨mb, 0, none⟩ = some (.slice (some ⟨bm, om, none⟩) n cap2) := by rw [cell_of_row w mb 0 _ _ _ h1]; rfl
  have hz : sb < w.heap.size := heap_in h3
  have hne : sb ≠ w.heap.size := by omega
  have s1 : w.cell? ⟨sb, 1, none⟩ = some (.int .i64 s.fn) := by rw [cell_of_row w sb 1 _ _ _ h3]; rfl
  have s2 : w.cell? ⟨sb, 2, none⟩ = some (.int .i64 s.line) := by rw [cell_of_row w sb 2 _ _ _ h3]; rfl
  have hkz : (0 : Int) ≤ (k : Int) := by omega
  have hkn : (k : Int) < (n : Int) := by omega
  have HH : Hid (hit f s k = decide ((f k).kind = 1 ∧ (f k).fn = s.fn ∧ (f k).line = s.line)) := hide (by unfold hit; rw [if_pos hs])
  have HB := hide (below_new w (.cells #[.int .i64 (f k).kind, .int .i64 (f k).task, .int .i64 (f k).fn, .int .i64 (f k).line, .string (f k).text, .slice av (f k).nv capv] 73))
  clear hv h1 h3 hs
  by_cases a1 : (f k).kind = 1
  · have ab1 : ((f k).kind == 1) = true := by rw [a1]; rfl
    by_cases a2' : (f k).fn = s.fn
    · have ab2 : ((f k).fn == s.fn) = true := by rw [a2']; simp
      by_cases a3 : (f k).line = s.line
      · have ab3 : ((f k).line == s.line) = true := by rw [a3]; simp
        have HR : Hid (hit f s k = true) := hide (by rw [unhide HH]; exact decide_eq_true ⟨a1, a2', a3⟩)
        clear a1 a2' a3
        go_enter Try.func149, Try.ntmps149
        go_wp2_with fail
        go_ret
        exact ⟨by rw [unhide HR]; rfl, unhide HB⟩
      · have ab3 : ((f k).line == s.line) = false := by simpa using a3
        have HR : Hid (hit f s k = false) := hide (by rw [unhide HH]; exact decide_eq_false (fun h => a3 h.2.2))
        clear a1 a2' a3
        go_enter Try.func149, Try.ntmps149
        go_wp2_with fail
        go_ret
        exact ⟨by rw [unhide HR]; rfl, unhide HB⟩
    · have ab2 : ((f k).fn == s.fn) = false := by simpa using a2'
      have HR : Hid (hit f s k = false) := hide (by rw [unhide HH]; exact decide_eq_false (fun h => a2' h.2.1))
      clear a1 a2'
      go_enter Try.func149, Try.ntmps149
      go_wp2_with fail
      go_ret
      exact ⟨by rw [unhide HR]; rfl, unhide HB⟩
  · have ab1 : ((f k).kind == 1) = false := by simpa using a1
    have HR : Hid (hit f s k = false) := hide (by rw [unhide HH]; exact decide_eq_false (fun h => a1 h.1))
    clear a1
    go_enter Try.func149, Try.ntmps149
    go_wp2_with fail
    go_ret
    exact ⟨by rw [unhide HR]; rfl, unhide HB⟩

set_option maxRecDepth 100000 in
set_option maxHeartbeats 2000000 in
theorem test2_any (lo mb sb : Nat) (mv : Value) (n : Nat) (f : Nat → M) (s : Sp) (k : Nat) (w : World) (hk : k < n) (hs : s.kind = 2) (h1 : w.heap[mb]? = some (.cells #[mv] 29 (0, 0))) (h2 : MomsAt lo w mv n f) (h3 : w.heap[sb]? = some (.cells (stopCells s) 50 (0, 0))) :
    Calls Try.prog 150 #[.int .i64 k, .pointer (some ⟨mb, 0, none⟩), .pointer (some ⟨sb, 0, none⟩)] w fun e w' => e = .returned (.bool (hit f s k)) ∧ Below w.heap.size w w' := by
  obtain ⟨a2, cap2, rfl, -, hv⟩ := h2
  obtain ⟨bm, om, vv, rfl, hc0, hc1, hc2, hc3, hc4, hc5, -, hvv, -⟩ := hv k hk
  obtain ⟨av, capv, rfl, -⟩ := hvv
  have c0 : w.cell? ⟨mb, 0, none⟩ = some (.slice (some ⟨bm, om, none⟩) n cap2) := by rw [cell_of_row w mb 0 _ _ _ h1]; rfl
  have hz : sb < w.heap.size := heap_in h3
  have hne : sb ≠ w.heap.size := by omega
  have s1 : w.cell? ⟨sb, 1, none⟩ = some (.int .i64 s.fn) := by rw [cell_of_row w sb 1 _ _ _ h3]; rfl
  have hkz : (0 : Int) ≤ (k : Int) := by omega
  have hkn : (k : Int) < (n : Int) := by omega
  have HH : Hid (hit f s k = decide ((f k).kind = 2 ∧ (f k).fn = s.fn)) := hide (by unfold hit; rw [if_neg (by omega), if_pos hs])
  have HB := hide (below_new w (.cells #[.int .i64 (f k).kind, .int .i64 (f k).task, .int .i64 (f k).fn, .int .i64 (f k).line, .string (f k).text, .slice av (f k).nv capv] 73))
  clear hv h1 h3 hs
  by_cases a1 : (f k).kind = 2
  · have ab1 : ((f k).kind == 2) = true := by rw [a1]; rfl
    by_cases a2' : (f k).fn = s.fn
    · have ab2 : ((f k).fn == s.fn) = true := by rw [a2']; simp
      have HR : Hid (hit f s k = true) := hide (by rw [unhide HH]; exact decide_eq_true ⟨a1, a2'⟩)
      clear a1 a2'
      go_enter Try.func150, Try.ntmps150
      go_wp2_with fail
      go_ret
      exact ⟨by rw [unhide HR]; rfl, unhide HB⟩
    · have ab2 : ((f k).fn == s.fn) = false := by simpa using a2'
      have HR : Hid (hit f s k = false) := hide (by rw [unhide HH]; exact decide_eq_false (fun h => a2' h.2))
      clear a1 a2'
      go_enter Try.func150, Try.ntmps150
      go_wp2_with fail
      go_ret
      exact ⟨by rw [unhide HR]; rfl, unhide HB⟩
  · have ab1 : ((f k).kind == 2) = false := by simpa using a1
    have HR : Hid (hit f s k = false) := hide (by rw [unhide HH]; exact decide_eq_false (fun h => a1 h.1))
    clear a1
    go_enter Try.func150, Try.ntmps150
    go_wp2_with fail
    go_ret
    exact ⟨by rw [unhide HR]; rfl, unhide HB⟩

set_option maxRecDepth 100000 in
set_option maxHeartbeats 2000000 in
theorem test4_any (lo mb : Nat) (mv : Value) (n : Nat) (f : Nat → M) (s : Sp) (k : Nat) (w : World) (hk : k < n) (hs : s.kind = 4) (h1 : w.heap[mb]? = some (.cells #[mv] 29 (0, 0))) (h2 : MomsAt lo w mv n f) :
    Calls Try.prog 152 #[.int .i64 k, .pointer (some ⟨mb, 0, none⟩)] w fun e w' => e = .returned (.bool (hit f s k)) ∧ Below w.heap.size w w' := by
  obtain ⟨a2, cap2, rfl, -, hv⟩ := h2
  obtain ⟨bm, om, vv, rfl, hc0, -⟩ := hv k hk
  have c0 : w.cell? ⟨mb, 0, none⟩ = some (.slice (some ⟨bm, om, none⟩) n cap2) := by rw [cell_of_row w mb 0 _ _ _ h1]; rfl
  have hkz : (0 : Int) ≤ (k : Int) := by omega
  have hkn : (k : Int) < (n : Int) := by omega
  have HH : Hid (hit f s k = decide ((f k).kind = 4)) := hide (by unfold hit; rw [if_neg (by omega), if_neg (by omega), if_neg (by omega)])
  clear hv h1 hs
  by_cases a1 : (f k).kind = 4
  · have HR : Hid (hit f s k = true) := hide (by rw [unhide HH]; exact decide_eq_true a1)
    rw [a1] at hc0
    clear a1
    go_enter Try.func152, Try.ntmps152
    go_wp2_with fail
    go_ret
    exact ⟨by rw [unhide HR]; rfl, Below.refl _ _⟩
  · have ab1 : ((f k).kind == 4) = false := by simpa using a1
    have HR : Hid (hit f s k = false) := hide (by rw [unhide HH]; exact decide_eq_false a1)
    clear a1
    go_enter Try.func152, Try.ntmps152
    go_wp2_with fail
    go_ret
    exact ⟨by rw [unhide HR]; simp, Below.refl _ _⟩

set_option maxRecDepth 100000 in
set_option maxHeartbeats 2000000 in
theorem test3_any (ib b n : Nat) (f : Nat → M) (s : Sp) (k : Nat) (w : World) (hk : k < n) (hs : s.kind = 3) (h1 : w.heap[ib]? = some (.cells #[.slice (some ⟨b, 0, none⟩) n n] 99 (0, 0))) (h2 : Bools b w n (watchHit f s)) :
    Calls Try.prog 186 #[.int .i64 k, .pointer (some ⟨ib, 0, none⟩)] w fun e w' => e = .returned (.bool (hit f s k)) ∧ Below w.heap.size w w' := by
  have c0 : w.cell? ⟨ib, 0, none⟩ = some (.slice (some ⟨b, 0, none⟩) n n) := by rw [cell_of_row w ib 0 _ _ _ h1]; rfl
  have c1 := h2.2 k hk
  have hkz : (0 : Int) ≤ (k : Int) := by omega
  have hkn : (k : Int) < (n : Int) := by omega
  have HH : Hid (hit f s k = watchHit f s k) := hide (by unfold hit; rw [if_neg (by omega), if_neg (by omega), if_pos hs])
  clear h1 h2 hs
  go_enter Try.func186, Try.ntmps186
  go_wp2_with fail
  go_ret
  exact ⟨by rw [unhide HH]; rfl, Below.refl _ _⟩

set_option maxRecDepth 100000 in
set_option maxHeartbeats 2000000 in
theorem testOf_any (lo lp : Nat) (mv pv : Value) (nf : Nat) (fns : Nat → ByteArray) (n : Nat) (f : Nat → M) (s : Sp) (w : World) (h2 : MomsAt lo w mv n f) (hp : PlacesAt lp w pv n f) (hs : Sound nf fns n f) (hi : StopIs s) :
    Calls Try.prog 124 #[mv, pv, .agg #[.int .i64 s.kind, .int .i64 s.fn, .int .i64 s.line, .string s.name]] w fun e w' => (∃ v, e = .returned v ∧ TestAt w' v mv n f s) ∧ Below w.heap.size w w' := by
  have H2 := hide h2
  have HP := hide hp
  have HS := hide hs
  have HI := hide hi
  clear hs hp hi
  have HX1 : Hid (((w.alloc (.cells #[mv] 29)).alloc (.cells #[.int .i64 s.kind, .int .i64 s.fn, .int .i64 s.line, .string s.name] 50)).heap[w.heap.size]? = some (.cells #[mv] 29 (0, 0))) := hide (by rw [Below.heap_alloc _ _ _ (by simp)]; exact heap_alloc_new w _)
  have HX2 : Hid (((w.alloc (.cells #[mv] 29)).alloc (.cells #[.int .i64 s.kind, .int .i64 s.fn, .int .i64 s.line, .string s.name] 50)).heap[w.heap.size + 1]? = some (.cells (stopCells s) 50 (0, 0))) := hide (by have := heap_alloc_new (w.alloc (.cells #[mv] 29)) (.cells (stopCells s) 50); simpa [stopCells] using this)
  have HB : Hid (Below w.heap.size w ((w.alloc (.cells #[mv] 29)).alloc (.cells #[.int .i64 s.kind, .int .i64 s.fn, .int .i64 s.line, .string s.name] 50))) := hide (((Below.refl _ _).alloc (Nat.le_refl _) _).alloc (by simp) _)
  obtain ⟨a2, cap2, rfl, -, -⟩ := h2
  go_enter Try.func124, Try.ntmps124
  go_upto_region 1 with fail
  generalize (w.alloc (.cells #[.slice a2 n cap2] 29)).alloc (.cells #[.int .i64 s.kind, .int .i64 s.fn, .int .i64 s.line, .string s.name] 50) = W1 at HX1 HX2 HB ⊢
  have y0 : W1.cell? ⟨w.heap.size + 1, 0, none⟩ = some (.int .i64 s.kind) := by rw [cell_of_row W1 _ 0 _ _ _ (unhide HX2)]; rfl
  rcases (unhide HI).2.2 with ⟨e, -⟩ | ⟨e, -⟩ | ⟨e, -⟩ | ⟨e, -⟩
  · have kb : (s.kind == 1) = true := by rw [e]; rfl
    have HE := hide e
    clear e
    go_wp2_with fail
    go_ret
    exact ⟨⟨_, rfl, .inl ⟨unhide HE, _, _, rfl, unhide HX1, unhide HX2⟩⟩, unhide HB⟩
  · have kb1 : (s.kind == 1) = false := by rw [e]; rfl
    have kb : (s.kind == 2) = true := by rw [e]; rfl
    have HE := hide e
    clear e
    go_wp2_with fail
    go_ret
    exact ⟨⟨_, rfl, .inr (.inl ⟨unhide HE, _, _, rfl, unhide HX1, unhide HX2⟩)⟩, unhide HB⟩
  · have kb1 : (s.kind == 1) = false := by rw [e]; rfl
    have kb2 : (s.kind == 2) = false := by rw [e]; rfl
    have kb : (s.kind == 3) = true := by rw [e]; rfl
    have HE := hide e
    have x0 : W1.cell? ⟨w.heap.size, 0, none⟩ = some (.slice a2 n cap2) := by rw [cell_of_row W1 _ 0 _ _ _ (unhide HX1)]; rfl
    have y1 : W1.cell? ⟨w.heap.size + 1, 1, none⟩ = some (.int .i64 s.fn) := by rw [cell_of_row W1 _ 1 _ _ _ (unhide HX2)]; rfl
    have y2 : W1.cell? ⟨w.heap.size + 1, 2, none⟩ = some (.int .i64 s.line) := by rw [cell_of_row W1 _ 2 _ _ _ (unhide HX2)]; rfl
    have y3 : W1.cell? ⟨w.heap.size + 1, 3, none⟩ = some (.string s.name) := by rw [cell_of_row W1 _ 3 _ _ _ (unhide HX2)]; rfl
    have hz : s.name.size ≤ 40 := by
      rcases (unhide HI).2.2 with ⟨e2, -⟩ | ⟨e2, -⟩ | ⟨-, -, -, h⟩ | ⟨e2, -⟩
      · omega
      · omega
      · exact h
      · omega
    clear e
    go_wp2_with fail
    refine (watchOf_any lo lp _ pv nf fns n f s _ ((unhide H2).below (unhide HB)) ((unhide HP).below (unhide HB)) (unhide HS) hz).mono ?_
    rintro e w2 ⟨⟨ib, b, rfl, h1, h2⟩, hb⟩
    have HR := hide (And.intro h1 h2)
    have HB2 := hide ((unhide HB).trans (hb.mono (unhide HB).size))
    clear h1 h2 hb x0 y0 y1 y2 y3
    go_wp2_with fail
    go_ret
    exact ⟨⟨_, rfl, .inr (.inr (.inl ⟨unhide HE, _, _, rfl, (unhide HR).1, (unhide HR).2⟩))⟩, unhide HB2⟩
  · have kb1 : (s.kind == 1) = false := by rw [e]; rfl
    have kb2 : (s.kind == 2) = false := by rw [e]; rfl
    have kb3 : (s.kind == 3) = false := by rw [e]; rfl
    have HE := hide e
    clear e
    go_wp2_with fail
    go_ret
    exact ⟨⟨_, rfl, .inr (.inr (.inr ⟨unhide HE, _, rfl, unhide HX1⟩))⟩, unhide HB⟩
end Go.Proofs.Ytjhfdjdmiombpab
