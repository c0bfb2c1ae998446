import Derived.Test.YtjhfdjdmiombpabE5
namespace Go.Proofs.Ytjhfdjdmiombpab
open Go.RowKit Go.Lib

theorem info_bool' : (Try.prog.info? 4).map (fun i => (i.zero, i.size, i.bytes)) = some (some (.bool false), 1, 1) := by kernel_rfl

/-- Block b holds n truths, and it can be written. -/
def Bools (b : Nat) (w : World) (n : Nat) (F : Nat → Bool) : Prop := (∃ cs, w.heap[b]? = some (.cells cs 4 (0, 0))) ∧ ∀ i, i < n → w.cell? ⟨b, i, none⟩ = some (.bool (F i))

theorem Bools.made (w : World) (n : Nat) : Bools w.heap.size (w.alloc (.cells (madeCells #[.bool false] n) 4)) n (fun _ => false) := by
  have hh := heap_alloc_new w (.cells (madeCells #[.bool false] n) 4)
  refine ⟨⟨_, hh⟩, fun i hi => ?_⟩
  rw [cell_of_row _ _ _ _ _ _ hh]
  simp [madeCells, hi, Nat.mod_one]

theorem Bools.lt {b : Nat} {w : World} {n : Nat} {F : Nat → Bool} (h : Bools b w n F) : b < w.heap.size := by
  obtain ⟨⟨cs, h1⟩, _⟩ := h
  exact heap_in h1

theorem Bools.of_block {b : Nat} {w w' : World} {n : Nat} {F : Nat → Bool} (h : Bools b w n F) (hb : w'.heap[b]? = w.heap[b]?) : Bools b w' n F := by
  obtain ⟨⟨cs, h1⟩, h2⟩ := h
  exact ⟨⟨cs, hb.trans h1⟩, fun i hi => by rw [World.cell?_of_block (w := w) (w' := w') (a := ⟨b, i, none⟩) hb]; exact h2 i hi⟩

theorem Bools.below {b : Nat} {w w' : World} {n : Nat} {F : Nat → Bool} (h : Bools b w n F) (hb : Below w.heap.size w w') : Bools b w' n F := h.of_block (hb.block b h.lt)

theorem Bools.frozen {b : Nat} {w : World} {n : Nat} {F : Nat → Bool} (h : Bools b w n F) (i : Nat) : w.frozen? ⟨b, i, none⟩ = false := by
  obtain ⟨⟨cs, h1⟩, _⟩ := h
  exact frozen_of_row _ _ _ _ _ h1

theorem Bools.set {b : Nat} {w : World} {n : Nat} {F : Nat → Bool} (h : Bools b w n F) (k : Nat) (hk : k < n) (x : Bool) : Bools b (w.setCell ⟨b, k, none⟩ (.bool x)) n (fun i => if i = k then x else F i) := by
  obtain ⟨⟨cs, h1⟩, h2⟩ := h
  refine ⟨⟨_, heap_setCell_same _ _ _ _ _ _ h1⟩, fun i hi => ?_⟩
  dsimp only
  by_cases e : i = k
  · subst e
    rw [if_pos rfl]
    exact World.cell?_setCell_same' _ _ _ (by rw [h2 i hi]; rfl)
  · rw [if_neg e, World.cell?_setCell_other _ _ _ _ (fun e2 => e (by injection e2 with _ e3; exact e3.symm))]
    exact h2 i hi

theorem Bools.congr {b : Nat} {w : World} {n : Nat} {F G : Nat → Bool} (h : Bools b w n F) (hg : ∀ i, i < n → F i = G i) : Bools b w n G := ⟨h.1, fun i hi => by rw [← hg i hi]; exact h.2 i hi⟩

/-- The boxes of a call with a trace and a stop. -/
def TSBox (w : World) (v1 v2 : Value) (s : Sp) (W : World) : Prop := Below (w.heap.size + 1 + 1) ((w.alloc (.cells #[v1, v2] 31)).alloc (.cells #[.int .i64 s.kind, .int .i64 s.fn, .int .i64 s.line, .string s.name] 50)) W

theorem TSBox.new (w : World) (v1 v2 : Value) (s : Sp) : TSBox w v1 v2 s ((w.alloc (.cells #[v1, v2] 31)).alloc (.cells #[.int .i64 s.kind, .int .i64 s.fn, .int .i64 s.line, .string s.name] 50)) := Below.refl _ _

section
variable {w W W' : World} {v1 v2 : Value} {s : Sp}
theorem TSBox.size (h : TSBox w v1 v2 s W) : w.heap.size + 1 + 1 ≤ W.heap.size := by have := Below.size h; simpa using this
theorem TSBox.go (h : TSBox w v1 v2 s W) (hb : Below W.heap.size W W') : TSBox w v1 v2 s W' := Below.trans h (hb.mono h.size)
theorem TSBox.on {B : Nat} (h : TSBox w v1 v2 s W) (hb : Below B W W') (hB : w.heap.size + 1 + 1 ≤ B) : TSBox w v1 v2 s W' := Below.trans h (hb.mono hB)
theorem TSBox.below (h : TSBox w v1 v2 s W) : Below w.heap.size w W := (((Below.refl _ _).alloc (Nat.le_refl _) _).alloc (by simp) _).trans (Below.mono h (by omega))
theorem TSBox.heap0 (h : TSBox w v1 v2 s W) : W.heap[w.heap.size]? = some (.cells #[v1, v2] 31 (0, 0)) := by
  rw [Below.block h _ (by omega), Below.heap_alloc _ _ _ (by simp)]; exact heap_alloc_new w _
theorem TSBox.heap1 (h : TSBox w v1 v2 s W) : W.heap[w.heap.size + 1]? = some (.cells #[.int .i64 s.kind, .int .i64 s.fn, .int .i64 s.line, .string s.name] 50 (0, 0)) := by
  rw [Below.block h _ (by omega)]
  have := heap_alloc_new (w.alloc (.cells #[v1, v2] 31)) (.cells #[.int .i64 s.kind, .int .i64 s.fn, .int .i64 s.line, .string s.name] 50)
  simpa using this
theorem TSBox.t0 (h : TSBox w v1 v2 s W) : W.cell? ⟨w.heap.size, 0, none⟩ = some v1 := by rw [cell_of_row W _ 0 _ _ _ h.heap0]; rfl
theorem TSBox.t1 (h : TSBox w v1 v2 s W) : W.cell? ⟨w.heap.size, 1, none⟩ = some v2 := by rw [cell_of_row W _ 1 _ _ _ h.heap0]; rfl
theorem TSBox.s0 (h : TSBox w v1 v2 s W) : W.cell? ⟨w.heap.size + 1, 0, none⟩ = some (.int .i64 s.kind) := by rw [cell_of_row W _ 0 _ _ _ h.heap1]; rfl
theorem TSBox.s1 (h : TSBox w v1 v2 s W) : W.cell? ⟨w.heap.size + 1, 1, none⟩ = some (.int .i64 s.fn) := by rw [cell_of_row W _ 1 _ _ _ h.heap1]; rfl
theorem TSBox.s2 (h : TSBox w v1 v2 s W) : W.cell? ⟨w.heap.size + 1, 2, none⟩ = some (.int .i64 s.line) := by rw [cell_of_row W _ 2 _ _ _ h.heap1]; rfl
theorem TSBox.s3 (h : TSBox w v1 v2 s W) : W.cell? ⟨w.heap.size + 1, 3, none⟩ = some (.string s.name) := by rw [cell_of_row W _ 3 _ _ _ h.heap1]; rfl
end

def upHit (f : Nat → M) (s : Sp) (k i : Nat) : Bool := if i < k then hit f s i else false

theorem upHit_next {f : Nat → M} {s : Sp} {k : Nat} (i : Nat) : (if i = k then hit f s k else upHit f s k i) = upHit f s (k + 1) i := by
  unfold upHit
  by_cases e : i = k
  · rw [if_pos e, if_pos (by omega), e]
  · rw [if_neg e]
    by_cases e2 : i < k
    · rw [if_pos e2, if_pos (by omega)]
    · rw [if_neg e2, if_neg (by omega)]

structure HitI (w : World) (v1 v2 : Value) (s : Sp) (n : Nat) (f : Nat → M) (B : Nat) (ov : Value) (k : Nat) (W : World) : Prop where
  bools : Bools (w.heap.size + 1 + 1) W n (upHit f s k)
  own : W.ownsRow B 206 5 ov n (ownRows f n)
  box : TSBox w v1 v2 s W

theorem HitI.below {w : World} {v1 v2 : Value} {s : Sp} {n : Nat} {f : Nat → M} {B : Nat} {ov : Value} {k : Nat} {W W' : World} (h : HitI w v1 v2 s n f B ov k W) (hb : Below W.heap.size W W') : HitI w v1 v2 s n f B ov k W' := ⟨h.bools.below hb, owns_below h.own hb, h.box.go hb⟩

theorem HitI.step {w : World} {v1 v2 : Value} {s : Sp} {n : Nat} {f : Nat → M} {B : Nat} {ov : Value} {k : Nat} {W W' : World} (h : HitI w v1 v2 s n f B ov k W) (hb : Below W.heap.size W W') (hB : w.heap.size + 1 + 1 < B) (hk : k < n) (x : Bool) (hx : x = hit f s k) :
    HitI w v1 v2 s n f B ov (k + 1) (W'.setCell ⟨w.heap.size + 1 + 1, k, none⟩ (.bool x)) := by
  have h' := h.below hb
  refine ⟨(h'.bools.set k hk x).congr (fun i _ => ?_), owns_setCell h'.own (fun e => ?_), Below.setCell (p := ⟨w.heap.size + 1 + 1, k, none⟩) h'.box (Nat.le_refl _) _⟩
  · rw [hx]; exact upHit_next i
  · have h1 : B ≤ w.heap.size + 1 + 1 := (h'.own.lt _ e).1
    omega

set_option maxRecDepth 100000 in
set_option maxHeartbeats 4000000 in
theorem l3hits_any (lo : Nat) (v1 v2 : Value) (nf : Nat) (fns : Nat → ByteArray) (n : Nat) (f : Nat → M) (s : Sp) (w : World) (h2 : MomsAt lo w v2 n f) (hs : Sound nf fns n f) :
    Calls Try.prog 87 #[.agg #[v1, v2], .agg #[.int .i64 s.kind, .int .i64 s.fn, .int .i64 s.line, .string s.name]] w fun e w' => (∃ b, e = .returned (.slice (some ⟨b, 0, none⟩) n n) ∧ Bools b w' n (hit f s) ∧ w.heap.size ≤ b) ∧ Below w.heap.size w w' := by
  have H2 := hide h2
  have HS := hide hs
  obtain ⟨a2, cap2, rfl, hn2, -⟩ := h2
  have hn3 : n ≤ 3000 := hs.1.2.2.1
  unfold maxLen at hn2
  clear hs
  have HB0 := hide (TSBox.new w v1 (.slice a2 n cap2) s)
  have hmk : ∀ w, (Instr.makeSlice 99 (.int .i64 n) (.int .i64 n)).run Try.prog w = .ok (.slice (some ⟨w.heap.size, 0, none⟩) n n) (w.alloc (.cells (madeCells #[.bool false] n) 4)) := fun w => by
    have h := run_make_many (P := Try.prog) 99 4 _ _ _ Try.underlying99 info_bool' n (by omega) (by omega) w
    rw [Nat.mul_one] at h
    exact h
  go_enter Try.func87, Try.ntmps87
  go_upto_region 2 with fail
  have hsz0 := (unhide HB0).size
  have HBM := hide (Bools.made ((w.alloc (.cells #[v1, .slice a2 n cap2] 31)).alloc (.cells #[.int .i64 s.kind, .int .i64 s.fn, .int .i64 s.line, .string s.name] 50)) n)
  have hse : ((w.alloc (.cells #[v1, .slice a2 n cap2] 31)).alloc (.cells #[.int .i64 s.kind, .int .i64 s.fn, .int .i64 s.line, .string s.name] 50)).heap.size = w.heap.size + 1 + 1 := by simp
  rw [hse] at HBM
  have HB1 := hide ((unhide HB0).go (below_new ((w.alloc (.cells #[v1, .slice a2 n cap2] 31)).alloc (.cells #[.int .i64 s.kind, .int .i64 s.fn, .int .i64 s.line, .string s.name] 50)) (.cells (madeCells #[.bool false] n) 4)))
  generalize ((w.alloc (.cells #[v1, .slice a2 n cap2] 31)).alloc (.cells #[.int .i64 s.kind, .int .i64 s.fn, .int .i64 s.line, .string s.name] 50)).alloc (.cells (madeCells #[.bool false] n) 4) = W1 at HBM HB1 ⊢
  clear hmk HB0 hsz0 hse
  have t0 := (unhide HB1).t0
  have t1 := (unhide HB1).t1
  go_wp2_with fail
  refine (l3owners_any lo _ _ nf fns n f _ ((unhide H2).below (unhide HB1).below) (unhide HS)).mono ?_
  rintro e w2 ⟨⟨ov, rfl, hov⟩, hb2⟩
  have HOV := hide hov
  have HB2 := hide ((unhide HB1).go hb2)
  have HBM2 := hide ((unhide HBM).below hb2)
  have hbl : w.heap.size + 1 + 1 < W1.heap.size := (unhide HBM).lt
  obtain ⟨oa, oc, rfl⟩ := owns_slice hov
  have g1 := (unhide HB2).t1
  obtain ⟨B, hBe⟩ : ∃ B, B = W1.heap.size := ⟨_, rfl⟩
  rw [← hBe] at HOV hbl
  clear hov hb2 HB1 HBM t0 t1 hBe
  go_wp2_with fail
  go_loopg [7, 18] n (fun gg _ i W => ∃ (k : Nat), k + gg = n ∧ i = .int .i64 k ∧ HitI w v1 (.slice a2 n cap2) s n f B (.slice oa n oc) k W)
  case atStart => exact ⟨0, by omega, rfl, (unhide HBM2).congr (fun i _ => rfl), unhide HOV, unhide HB2⟩
  case round =>
    clear HBM2 HOV HB2 g1
    obtain ⟨k, hk, rfl, hi⟩ := hrel
    have HI := hide hi
    clear hi
    by_cases hlt : k < n
    · obtain ⟨_, _, e, _, hv⟩ := (unhide H2).below (unhide HI).box.below
      cases e
      obtain ⟨bm, om, vv, rfl, hc0, hc1, hc2, hc3, hc4, hc5, -, hs2, -⟩ := hv k hlt
      clear hv
      obtain ⟨av, capv, rfl, -⟩ := hs2
      have hkn : (k : Int) < (n : Int) := by omega
      have hkz : (0 : Int) ≤ (k : Int) := by omega
      have HBX := hide (heap_alloc_new wr (.cells #[.int .i64 (f k).kind, .int .i64 (f k).task, .int .i64 (f k).fn, .int .i64 (f k).line, .string (f k).text, .slice av (f k).nv capv] 73))
      have HJ := hide ((unhide HI).below (below_new wr (.cells #[.int .i64 (f k).kind, .int .i64 (f k).task, .int .i64 (f k).fn, .int .i64 (f k).line, .string (f k).text, .slice av (f k).nv capv] 73)))
      go_upto_region 6 with fail
      generalize wr.alloc (.cells #[.int .i64 (f k).kind, .int .i64 (f k).task, .int .i64 (f k).fn, .int .i64 (f k).line, .string (f k).text, .slice av (f k).nv capv] 73) = W3 at HBX HJ ⊢
      obtain ⟨mb, hmb⟩ : ∃ mb, mb = wr.heap.size := ⟨_, rfl⟩
      rw [← hmb] at HBX ⊢
      clear hc0 hc1 hc2 hc3 hc4 hc5 HI hmb
      have HI := HJ
      clear HJ
      have hc0 : W3.cell? ⟨mb, 0, none⟩ = some (.int .i64 (f k).kind) := by rw [cell_of_row W3 mb 0 _ _ _ (unhide HBX)]; rfl
      have hc2 : W3.cell? ⟨mb, 2, none⟩ = some (.int .i64 (f k).fn) := by rw [cell_of_row W3 mb 2 _ _ _ (unhide HBX)]; rfl
      have hc3 : W3.cell? ⟨mb, 3, none⟩ = some (.int .i64 (f k).line) := by rw [cell_of_row W3 mb 3 _ _ _ (unhide HBX)]; rfl
      have y0 := (unhide HI).box.s0
      have y1 := (unhide HI).box.s1
      have y2 := (unhide HI).box.s2
      have c0 := (unhide HI).bools.2 k hlt
      have f0 := (unhide HI).bools.frozen k
      generalize upHit f s k k = b0 at c0
      by_cases k1 : s.kind = 1
      · have HK := hide k1
        rw [k1] at y0
        clear k1
        by_cases a1 : (f k).kind = 1
        · have HA1 := hide a1
          rw [a1] at hc0
          clear a1
          by_cases a2' : (f k).fn = s.fn
          · have ab2 : ((f k).fn == s.fn) = true := by rw [a2']; simp
            by_cases a3 : (f k).line = s.line
            · have ab3 : ((f k).line == s.line) = true := by rw [a3]; simp
              have HA := hide (And.intro a2' a3)
              clear a2' a3
              go_wp2_with fail
              go_roundg (n - (k + 1))
              case measure => omega
              case rel => exact ⟨k + 1, by omega, by go_num, (unhide HI).step (Below.refl _ _) hbl hlt _ (by unfold hit; rw [if_pos (unhide HK)]; exact (decide_eq_true ⟨unhide HA1, (unhide HA).1, (unhide HA).2⟩).symm)⟩
            · have ab3 : ((f k).line == s.line) = false := by simpa using a3
              have HA := hide a3
              clear a2' a3
              go_wp2_with fail
              go_roundg (n - (k + 1))
              case measure => omega
              case rel => exact ⟨k + 1, by omega, by go_num, (unhide HI).step (Below.refl _ _) hbl hlt _ (by unfold hit; rw [if_pos (unhide HK)]; exact (decide_eq_false (fun h => unhide HA h.2.2)).symm)⟩
          · have ab2 : ((f k).fn == s.fn) = false := by simpa using a2'
            have HA := hide a2'
            clear a2'
            go_wp2_with fail
            go_roundg (n - (k + 1))
            case measure => omega
            case rel => exact ⟨k + 1, by omega, by go_num, (unhide HI).step (Below.refl _ _) hbl hlt _ (by unfold hit; rw [if_pos (unhide HK)]; exact (decide_eq_false (fun h => unhide HA h.2.1)).symm)⟩
        · have ab1 : ((f k).kind == 1) = false := by simpa using a1
          have HA := hide a1
          clear a1
          go_wp2_with fail
          go_roundg (n - (k + 1))
          case measure => omega
          case rel => exact ⟨k + 1, by omega, by go_num, (unhide HI).step (Below.refl _ _) hbl hlt _ (by unfold hit; rw [if_pos (unhide HK)]; exact (decide_eq_false (fun h => unhide HA h.1)).symm)⟩
      · have k1b : (s.kind == 1) = false := by simpa using k1
        by_cases k2 : s.kind = 2
        · have HK := hide (And.intro k1 k2)
          rw [k2] at y0
          clear k1 k2 k1b
          by_cases a1 : (f k).kind = 2
          · have HA1 := hide a1
            rw [a1] at hc0
            clear a1
            by_cases a2' : (f k).fn = s.fn
            · have ab2 : ((f k).fn == s.fn) = true := by rw [a2']; simp
              have HA := hide a2'
              clear a2'
              go_wp2_with fail
              go_roundg (n - (k + 1))
              case measure => omega
              case rel => exact ⟨k + 1, by omega, by go_num, (unhide HI).step (Below.refl _ _) hbl hlt _ (by unfold hit; rw [if_neg (unhide HK).1, if_pos (unhide HK).2]; exact (decide_eq_true ⟨unhide HA1, unhide HA⟩).symm)⟩
            · have ab2 : ((f k).fn == s.fn) = false := by simpa using a2'
              have HA := hide a2'
              clear a2'
              go_wp2_with fail
              go_roundg (n - (k + 1))
              case measure => omega
              case rel => exact ⟨k + 1, by omega, by go_num, (unhide HI).step (Below.refl _ _) hbl hlt _ (by unfold hit; rw [if_neg (unhide HK).1, if_pos (unhide HK).2]; exact (decide_eq_false (fun h => unhide HA h.2)).symm)⟩
          · have ab1 : ((f k).kind == 2) = false := by simpa using a1
            have HA := hide a1
            clear a1
            go_wp2_with fail
            go_roundg (n - (k + 1))
            case measure => omega
            case rel => exact ⟨k + 1, by omega, by go_num, (unhide HI).step (Below.refl _ _) hbl hlt _ (by unfold hit; rw [if_neg (unhide HK).1, if_pos (unhide HK).2]; exact (decide_eq_false (fun h => unhide HA h.1)).symm)⟩
        · have k2b : (s.kind == 2) = false := by simpa using k2
          by_cases k3 : s.kind = 3
          · have HK := hide (And.intro k1 (And.intro k2 k3))
            have k3b : (s.kind == 3) = true := by rw [k3]; rfl
            clear k1 k2 k3
            have x0 := (unhide HI).box.t0
            have x1 := (unhide HI).box.t1
            have y3 := (unhide HI).box.s3
            go_wp2_with fail
            refine (l3changes_any lo B _ _ _ n f s k _ ((unhide H2).below (unhide HI).box.below) (unhide HI).own hlt hn3).mono ?_
            rintro e w5 ⟨rfl, hb5⟩
            have c5 := cell_below hb5 c0
            have f5 : w5.frozen? ⟨w.heap.size + 1 + 1, k, none⟩ = false := by rw [hb5.frozen (cell_lt c0)]; exact f0
            have HB5 := hide hb5
            clear hb5 x0 x1 y0 y1 y2 y3 c0 f0 hc0 hc2 hc3
            go_wp2_with fail
            go_roundg (n - (k + 1))
            case measure => omega
            case rel => exact ⟨k + 1, by omega, by go_num, (unhide HI).step (unhide HB5) hbl hlt _ (by unfold hit; rw [if_neg (unhide HK).1, if_neg (unhide HK).2.1, if_pos (unhide HK).2.2])⟩
          · have k3b : (s.kind == 3) = false := by simpa using k3
            have HK := hide (And.intro k1 (And.intro k2 k3))
            clear k1 k2 k3
            by_cases a1 : (f k).kind = 4
            · have HA := hide a1
              rw [a1] at hc0
              clear a1
              go_wp2_with fail
              go_roundg (n - (k + 1))
              case measure => omega
              case rel => exact ⟨k + 1, by omega, by go_num, (unhide HI).step (Below.refl _ _) hbl hlt _ (by unfold hit; rw [if_neg (unhide HK).1, if_neg (unhide HK).2.1, if_neg (unhide HK).2.2]; exact (decide_eq_true (unhide HA)).symm)⟩
            · have ab1 : ((f k).kind == 4) = false := by simpa using a1
              have HA := hide a1
              clear a1
              go_wp2_with fail
              go_roundg (n - (k + 1))
              case measure => omega
              case rel => exact ⟨k + 1, by omega, by go_num, (unhide HI).step (Below.refl _ _) hbl hlt _ (by unfold hit; rw [if_neg (unhide HK).1, if_neg (unhide HK).2.1, if_neg (unhide HK).2.2]; exact (decide_eq_false (unhide HA)).symm)⟩
    · have e : n = k := by omega
      subst e
      have hnk : ¬ ((n : Int) < (n : Int)) := by omega
      go_wp2_with fail
      go_ret
      exact ⟨⟨_, rfl, (unhide HI).bools.congr (fun i hi => if_pos hi), by omega⟩, (unhide HI).box.below⟩
end Go.Proofs.Ytjhfdjdmiombpab
